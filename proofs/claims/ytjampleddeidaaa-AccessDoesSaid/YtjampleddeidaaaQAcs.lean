/- Package access: where one stands in a row that rises. -/
import Derived.Test.YtjampleddeidaaaQAco
namespace Go.Proofs.Ytjampleddeidaaa
open Go.ChangeShapes Go.WideShapes Go.ChangeAt Go.RowKit Go.Shelf

set_option maxRecDepth 100000 in
theorem cmp_lt0 (a b : Nat) : decide (cmpN a b < 0) = decide (a < b) := by
  unfold cmpN
  by_cases h : a < b
  · simp [h]
  · by_cases h2 : b < a <;> simp [h, h2]
set_option maxRecDepth 100000 in
theorem cmp_eq0 (a b : Nat) : (cmpN a b == 0) = decide (a = b) := by
  unfold cmpN
  by_cases h : a < b
  · have : a ≠ b := by omega
    simp [h, this]
  · by_cases h2 : a = b
    · simp [h2]
    · have : b < a := by omega
      simp [h, h2, this]
set_option maxRecDepth 100000 in
set_option maxHeartbeats 4000000 in
theorem searchA_any (sv : Value) (l : List Pe) (x : Pe) (w : World) (hs : XA w sv l) (hr : RiseX l) (hl : l.length ≤ 100000) (hx : okA x) :
    Calls Try.prog 40 #[sv, .int .u64 (x.addr : Nat), .func (.func 30) #[] #[]] w fun e w' => e = .returned (.tuple #[.int .i64 (posX l x.cod : Nat), .bool (hasX l x.cod)]) ∧ Ext w w' := by
  have HS := Lib.hid hs
  have HXK := Lib.hid hx
  obtain ⟨A1, c, rfl, h1, h2⟩ := hs.len
  unfold maxLen at h2
  have HPL := Lib.hid (posX_lt l x.cod hr)
  have HHK : Hid (hasX l x.cod = (decide (posX l x.cod < l.length) && decide ((l.getD (posX l x.cod) pz0).cod = x.cod))) := Lib.hid rfl
  have HPO := Lib.hid (posX_le l x.cod)
  obtain ⟨pn, hpn⟩ : ∃ n, posX l x.cod = n := ⟨_, rfl⟩
  obtain ⟨hn, hhn⟩ : ∃ n, hasX l x.cod = n := ⟨_, rfl⟩
  rw [hpn, hhn] at HHK
  rw [hpn] at HPL HPO
  rw [hpn, hhn]
  clear hs hr hx hpn hhn
  go_enter Try.func40, Try.ntmps40
  go_wp2_with fail
  have HJ0 : Hid (Ext w w) := Lib.hid (Ext.refl _)
  go_loopw [9, 10] (fun iv jv wr => ∃ i j : Nat, i ≤ pn ∧ pn ≤ j ∧ j ≤ l.length ∧ iv = .int .i64 i ∧ jv = .int .i64 j ∧ Hid (Ext w wr)) (fun iv jv _ => (intOf jv).toNat - (intOf iv).toNat)
  case atStart => exact ⟨0, l.length, Nat.zero_le _, HPO.out, Nat.le_refl _, rfl, rfl, HJ0⟩
  case round =>
    obtain ⟨i, j, hi, hj, hjl, rfl, rfl, HJ⟩ := hrel
    clear HJ0
    by_cases hlt : i < j
    · have hd : decide (i < j) = true := decide_eq_true hlt
      have hd2 : decide ((i : Int) < (j : Int)) = true := decide_eq_true (by omega)
      obtain ⟨h, hh⟩ : ∃ h, (i + j) / 2 = h := ⟨_, rfl⟩
      have hhl : h < l.length := by omega
      have HH := Lib.hid (show i ≤ h ∧ h < j ∧ (((i : Int) + (j : Int)) / 2 = ((h : Nat) : Int)) by omega)
      obtain ⟨bb, oo, rfl, hrg, hp1⟩ := HS.out.at h hhl
      have HR := Lib.hid (ex_addr (show wr.rangeAt bb _ _ from fun j z hz => HJ.out.cell (hrg j z hz)))
      have qq := HR.out
      have HPK := Lib.hid hp1
      have HPH := Lib.hid (HPL.out h hhl)
      clear hh hrg hp1 HPL
      generalize l.getD h pz0 = p at *
      have hd3 : decide (h < l.length) = true := decide_eq_true hhl
      have hd4 : decide ((h : Int) < (l.length : Int)) = true := decide_eq_true (by omega)
      have HC := Lib.hid (fun W => show Calls Try.prog 30 #[.int .u64 (p.addr : Nat), .int .u64 (x.addr : Nat)] W (fun e w' => e = .returned (.int .i64 (cmpN p.cod x.cod)) ∧ Ext W w') from by rw [← cod_addr HPK.out HXK.out]; exact compareAd_any p.addr x.addr W)
      obtain ⟨r, hr⟩ : ∃ r, cmpN p.cod x.cod = r := ⟨_, rfl⟩
      have HLT := Lib.hid (cmp_lt0 p.cod x.cod)
      rw [hr] at HLT HC
      obtain ⟨rb, hrb⟩ : ∃ rb, decide (r < 0) = rb := ⟨_, rfl⟩
      have HRB := Lib.hid hrb
      clear hr hrb
      go_upto_region 5 with fail
      rw [HH.out.2.2]
      go_wp2_with fail
      refine (HC.out _).mono ?_
      rintro e wx ⟨rfl, he⟩
      have HJA := Lib.hid (HJ.out.trans he)
      clear he
      cases rb with
      | true =>
        have hx : p.cod < x.cod := by have := HLT.out; rw [HRB.out] at this; simpa using this.symm
        have hi2 := HPH.out.1 hx
        have hq := HRB.out
        clear hx HPH
        go_wp2_with fail
        exact ⟨⟨h + 1, j, hi2, hj, hjl, by go_num, rfl, HJA⟩, by have := HH.out; simp [intOf]; omega⟩
      | false =>
        have hx : ¬ p.cod < x.cod := by have := HLT.out; rw [HRB.out] at this; simpa using this.symm
        have hi2 : pn ≤ h := by
          rcases Nat.lt_or_ge h pn with h' | h'
          · exact absurd (HPH.out.2 h') hx
          · exact h'
        have hq := HRB.out
        clear hx HPH
        go_wp2_with fail
        exact ⟨⟨i, h, hi, hi2, by omega, rfl, rfl, HJA⟩, by have := HH.out; simp [intOf]; omega⟩
    · obtain rfl : i = j := by omega
      obtain rfl : i = pn := by omega
      clear hi hj hlt
      have hdj : decide (i < i) = false := decide_eq_false (by omega)
      by_cases hil : i < l.length
      · obtain ⟨bb, oo, rfl, hrg, hp1⟩ := HS.out.at i hil
        have HR := Lib.hid (ex_addr (show wr.rangeAt bb _ _ from fun j z hz => HJ.out.cell (hrg j z hz)))
        have qq := HR.out
        have HPK := Lib.hid hp1
        clear hrg hp1 HPL
        generalize l.getD i pz0 = p at *
        have hd3 : decide (i < l.length) = true := decide_eq_true hil
        have hd4 : decide ((i : Int) < (l.length : Int)) = true := decide_eq_true (by omega)
        have HC := Lib.hid (fun W => show Calls Try.prog 30 #[.int .u64 (p.addr : Nat), .int .u64 (x.addr : Nat)] W (fun e w' => e = .returned (.int .i64 (cmpN p.cod x.cod)) ∧ Ext W w') from by rw [← cod_addr HPK.out HXK.out]; exact compareAd_any p.addr x.addr W)
        obtain ⟨r, hr⟩ : ∃ r, cmpN p.cod x.cod = r := ⟨_, rfl⟩
        have HEQ := Lib.hid (cmp_eq0 p.cod x.cod)
        rw [hr] at HEQ HC
        obtain ⟨rb, hrb⟩ : ∃ rb, (r == 0) = rb := ⟨_, rfl⟩
        have HRB := Lib.hid hrb
        have HF := Lib.hid (show hn = rb by rw [HHK.out, decide_eq_true hil, ← HEQ.out, hrb]; rfl)
        clear hr HHK hrb
        go_wp2_with fail
        refine (HC.out _).mono ?_
        rintro e wx ⟨rfl, he⟩
        have HJA := Lib.hid (HJ.out.trans he)
        clear he
        have hq := HRB.out
        go_wp2_with fail
        refine bodyPost_ret (results_tmp2 rfl _ _ _) rfl ?_
        exact ⟨by rw [HF.out]; rfl, HJA.out⟩
      · have hd3 : decide (i < l.length) = false := decide_eq_false hil
        have hd4 : decide ((i : Int) < (l.length : Int)) = false := decide_eq_false (by omega)
        have HF := Lib.hid (show hn = false by rw [HHK.out, hd3]; rfl)
        clear HPL HHK
        go_wp2_with fail
        refine bodyPost_ret (results_tmp2 rfl _ _ _) rfl ?_
        exact ⟨by rw [HF.out]; rfl, HJ.out⟩
def SrS (w : World) (g4 : Nat) (x : Pe) (W : World) : Prop := BS W g4 x ∧ Ext w W
set_option maxRecDepth 100000 in
theorem SrS.ext {w : World} {g4 : Nat} {x : Pe} {W W' : World} (h : SrS w g4 x W) (he : Ext W W') : SrS w g4 x W' := ⟨h.1.ext he, h.2.trans he⟩
set_option maxRecDepth 100000 in
set_option maxHeartbeats 4000000 in
theorem searchS_any (sv : Value) (l : List Pe) (x : Pe) (w : World) (hs : XS w sv l) (hr : RiseX l) (hl : l.length ≤ 100000) (hx : okS x) :
    Calls Try.prog 74 #[sv, .agg (cS x), .func (.func 22) #[] #[]] w fun e w' => e = .returned (.tuple #[.int .i64 (posX l x.cod : Nat), .bool (hasX l x.cod)]) ∧ Ext w w' := by
  have HS := Lib.hid hs
  have HXK := Lib.hid hx
  obtain ⟨A1, c, rfl, h1, h2⟩ := hs.len
  unfold maxLen at h2
  have HPL := Lib.hid (posX_lt l x.cod hr)
  have HHK : Hid (hasX l x.cod = (decide (posX l x.cod < l.length) && decide ((l.getD (posX l x.cod) pz0).cod = x.cod))) := Lib.hid rfl
  have HPO := Lib.hid (posX_le l x.cod)
  obtain ⟨pn, hpn⟩ : ∃ n, posX l x.cod = n := ⟨_, rfl⟩
  obtain ⟨hn, hhn⟩ : ∃ n, hasX l x.cod = n := ⟨_, rfl⟩
  rw [hpn, hhn] at HHK
  rw [hpn] at HPL HPO
  rw [hpn, hhn]
  clear hs hr hx hpn hhn
  have HJ0 : Hid (SrS w w.heap.size x (w.alloc (.cells (cS x) 32))) := Lib.hid ⟨Cs.new _ _ _ _ rfl, (Ext.refl w).alloc _⟩
  obtain ⟨w1, hw1⟩ : ∃ w1, w.alloc (.cells (cS x) 32) = w1 := ⟨_, rfl⟩
  rw [hw1] at HJ0
  obtain ⟨xc, hxc⟩ : ∃ xc, cS x = xc := ⟨_, rfl⟩
  rw [hxc] at hw1 ⊢
  have HW1 := Lib.hid hw1
  clear hw1 hxc
  go_enter Try.func74, Try.ntmps74
  go_upto_region 1 with fail
  rw [HW1.out]
  clear HW1
  obtain ⟨g4, hg4⟩ : ∃ g, w.heap.size = g := ⟨_, rfl⟩
  rw [hg4] at HJ0 ⊢
  clear hg4
  go_wp2_with fail
  go_loopw [9, 10] (fun iv jv wr => ∃ i j : Nat, i ≤ pn ∧ pn ≤ j ∧ j ≤ l.length ∧ iv = .int .i64 i ∧ jv = .int .i64 j ∧ Hid (SrS w g4 x wr)) (fun iv jv _ => (intOf jv).toNat - (intOf iv).toNat)
  case atStart => exact ⟨0, l.length, Nat.zero_le _, HPO.out, Nat.le_refl _, rfl, rfl, HJ0⟩
  case round =>
    obtain ⟨i, j, hi, hj, hjl, rfl, rfl, HJ⟩ := hrel
    clear HJ0
    by_cases hlt : i < j
    · have hd : decide (i < j) = true := decide_eq_true hlt
      have hd2 : decide ((i : Int) < (j : Int)) = true := decide_eq_true (by omega)
      obtain ⟨h, hh⟩ : ∃ h, (i + j) / 2 = h := ⟨_, rfl⟩
      have hhl : h < l.length := by omega
      have HH := Lib.hid (show i ≤ h ∧ h < j ∧ (((i : Int) + (j : Int)) / 2 = ((h : Nat) : Int)) by omega)
      obtain ⟨bb, oo, rfl, hrg, hp1⟩ := HS.out.at h hhl
      have HR := Lib.hid hrg
      have HPK := Lib.hid hp1
      have HPH := Lib.hid (HPL.out h hhl)
      clear hh hrg hp1 HPL
      generalize l.getD h pz0 = p at *
      have hd3 : decide (h < l.length) = true := decide_eq_true hhl
      have hd4 : decide ((h : Int) < (l.length : Int)) = true := decide_eq_true (by omega)
      have HC := Lib.hid (fun W => show Calls Try.prog 22 #[.agg (cS p), .agg (cS x)] W (fun e w' => e = .returned (.int .i64 (cmpN p.cod x.cod)) ∧ Ext W w') from compareSp_any p x W HPK.out.2.1 HXK.out.2.1)
      obtain ⟨r, hr⟩ : ∃ r, cmpN p.cod x.cod = r := ⟨_, rfl⟩
      have HLT := Lib.hid (cmp_lt0 p.cod x.cod)
      rw [hr] at HLT HC
      obtain ⟨rb, hrb⟩ : ∃ rb, decide (r < 0) = rb := ⟨_, rfl⟩
      have HRB := Lib.hid hrb
      clear hr hrb
      go_upto_region 5 with fail
      rw [HH.out.2.2]
      refine wp_named fun a0 ha0 => ?_
      obtain ⟨fr, hfr⟩ : ∃ fr : (Nat → Value) → Act, ∀ V, fr V = ((((((((a0.put (some 24) (V 0)).put (some 25) (V 1)).put (some 26) (V 2)).put (some 27) (V 3)).put (some 28) (V 4)).put (some 29) (V 5)).put (some 30) (V 6)).put (some 31) (V 7)) := ⟨fun V => ((((((((a0.put (some 24) (V 0)).put (some 25) (V 1)).put (some 26) (V 2)).put (some 27) (V 3)).put (some 28) (V 4)).put (some 29) (V 5)).put (some 30) (V 6)).put (some 31) (V 7)), fun _ => rfl⟩
      rw [ha0] at hfr
      simp only [Act.put, List.setIfInBounds_toArray, List.set_cons_zero, List.set_cons_succ] at hfr
      have HFR := Lib.hid hfr
      clear hfr
      refine wp_region_inv (by kernel_rfl) (by kernel_rfl) (fun L A W => ∃ V : Nat → Value, A = fr V ∧ Vals (fun j => ([some (.func (.func 22) #[] #[]), some (.slice (some ⟨bb, oo, none⟩) l.length c), some (.int .i64 (h : Nat)), some (.pointer (some ⟨bb, oo + h * 5, none⟩)), some (.agg (cS p)), some (.agg (cS x)), some (.int .i64 r), some (.bool rb)] : List (Option Value)).getD j none) L V ∧ (SrS w g4 x W)) ?_ ⟨?_, ?_, ?_, ?_, ?_, ?_, ?_, ?_, trivial⟩ ?_
      · refine ⟨fun j => a0.tmps.getD (([24, 25, 26, 27, 28, 29, 30, 31] : List Nat).getD j 0) undef, ?_, Vals.no _ _ _ (far_none _ _ rfl), HJ.out.ext (Ext.refl _).drew⟩
        rw [HFR.out, ha0]
        rfl
      all_goals clear ha0
      · rintro L A W K hL hC hW ⟨V, rfl, HV, s0⟩ hK
        have H := Lib.hid (show ∀ W', Ext W W' → K (fr (upd V 0 (.func (.func 22) #[] #[]))) W' from fun W' he => hK _ _ ⟨upd V 0 (.func (.func 22) #[] #[]), rfl, HV.up 0 _ (fun x hx => Option.some.inj hx), SrS.ext s0 he⟩)
        clear hK hC hW hL HV s0
        rw [HFR.out]
        go_wp2_with fail
        show K _ _
        have := H.out _ (Ext.refl _)
        rw [HFR.out] at this
        exact this
      · rintro L A W K hL hC hW ⟨V, rfl, HV, s0⟩ hK
        have H := Lib.hid (show ∀ W', Ext W W' → K (fr (upd V 1 (.slice (some ⟨bb, oo, none⟩) l.length c))) W' from fun W' he => hK _ _ ⟨upd V 1 (.slice (some ⟨bb, oo, none⟩) l.length c), rfl, HV.up 1 _ (fun x hx => Option.some.inj hx), SrS.ext s0 he⟩)
        clear hK hC hW hL HV s0
        rw [HFR.out]
        go_wp2_with fail
        show K _ _
        have := H.out _ (Ext.refl _)
        rw [HFR.out] at this
        exact this
      · rintro L A W K hL hC hW ⟨V, rfl, HV, s0⟩ hK
        have H := Lib.hid (show ∀ W', Ext W W' → K (fr (upd V 2 (.int .i64 (h : Nat)))) W' from fun W' he => hK _ _ ⟨upd V 2 (.int .i64 (h : Nat)), rfl, HV.up 2 _ (fun x hx => Option.some.inj hx), SrS.ext s0 he⟩)
        clear hK hC hW hL HV s0
        rw [HFR.out]
        go_wp2_with fail
        show K _ _
        have := H.out _ (Ext.refl _)
        rw [HFR.out] at this
        exact this
      · rintro L A W K hL hC hW ⟨V, rfl, HV, s0⟩ hK
        have e1 : V 1 = .slice (some ⟨bb, oo, none⟩) l.length c := HV 1 _ rfl (hW 1 rfl)
        have e2 : V 2 = .int .i64 (h : Nat) := HV 2 _ rfl (hW 2 rfl)
        have H := Lib.hid (show ∀ W', Ext W W' → K (fr (upd V 3 (.pointer (some ⟨bb, oo + h * 5, none⟩)))) W' from fun W' he => hK _ _ ⟨upd V 3 (.pointer (some ⟨bb, oo + h * 5, none⟩)), rfl, HV.up 3 _ (fun x hx => Option.some.inj hx), SrS.ext s0 he⟩)
        have HU := Lib.hid (show (upd V 3 (.pointer (some ⟨bb, oo + h * 5, none⟩))) 1 = .slice (some ⟨bb, oo, none⟩) l.length c ∧ (upd V 3 (.pointer (some ⟨bb, oo + h * 5, none⟩))) 2 = .int .i64 (h : Nat) from ⟨e1, e2⟩)
        clear hK hC hW hL HV s0
        rw [HFR.out]
        rw [e1, e2]
        clear e1 e2
        go_wp2_with fail
        show K _ _
        have := H.out _ (Ext.refl _)
        rw [HFR.out] at this
        obtain ⟨u1, u2⟩ := HU.out
        rw [u1, u2] at this
        exact this
      · rintro L A W K hL hC hW ⟨V, rfl, HV, s0⟩ hK
        have e3 : V 3 = .pointer (some ⟨bb, oo + h * 5, none⟩) := HV 3 _ rfl (hW 3 rfl)
        have hB := s0
        have H := Lib.hid (show ∀ W', Ext W W' → K (fr (upd V 4 (.agg (cS p)))) W' from fun W' he => hK _ _ ⟨upd V 4 (.agg (cS p)), rfl, HV.up 4 _ (fun x hx => Option.some.inj hx), SrS.ext s0 he⟩)
        have HU := Lib.hid (show (upd V 4 (.agg (cS p))) 3 = .pointer (some ⟨bb, oo + h * 5, none⟩) from e3)
        clear hK hC hW hL HV s0
        rw [HFR.out]
        rw [e3]
        clear e3
        have HWD := Lib.hid (fun (j : Nat) (z : Value) (hz : (cS p).toList[j]? = some z) => hB.2.cell (HR.out j z hz))
        clear hB
        refine wpList_loadS rfl (.tmp 27) rfl bb (oo + h * 5) p rfl HWD.out ?_
        show K _ _
        have := H.out _ (Ext.refl _)
        rw [HFR.out] at this
        obtain u3 := HU.out
        rw [u3] at this
        exact this
      · rintro L A W K hL hC hW ⟨V, rfl, HV, s0⟩ hK
        have hB := s0
        have H := Lib.hid (show ∀ W', Ext W W' → K (fr (upd V 5 (.agg (cS x)))) W' from fun W' he => hK _ _ ⟨upd V 5 (.agg (cS x)), rfl, HV.up 5 _ (fun x hx => Option.some.inj hx), SrS.ext s0 he⟩)
        clear hK hC hW hL HV s0
        rw [HFR.out]
        have HWD := Lib.hid (Cs.rg hB.1)
        clear hB
        refine wpList_loadS rfl (.tmp 4) rfl g4 0 x rfl HWD.out ?_
        show K _ _
        have := H.out _ (Ext.refl _)
        rw [HFR.out] at this
        exact this
      · rintro L A W K hL hC hW ⟨V, rfl, HV, s0⟩ hK
        have e0 : V 0 = .func (.func 22) #[] #[] := HV 0 _ rfl (hW 0 rfl)
        have e4 : V 4 = .agg (cS p) := HV 4 _ rfl (hW 4 rfl)
        have e5 : V 5 = .agg (cS x) := HV 5 _ rfl (hW 5 rfl)
        have hB := s0
        have H := Lib.hid (show ∀ W', Ext W W' → K (fr (upd V 6 (.int .i64 r))) W' from fun W' he => hK _ _ ⟨upd V 6 (.int .i64 r), rfl, HV.up 6 _ (fun x hx => Option.some.inj hx), SrS.ext s0 he⟩)
        have HU := Lib.hid (show (upd V 6 (.int .i64 r)) 0 = .func (.func 22) #[] #[] ∧ (upd V 6 (.int .i64 r)) 4 = .agg (cS p) ∧ (upd V 6 (.int .i64 r)) 5 = .agg (cS x) from ⟨e0, e4, e5⟩)
        clear hK hC hW hL HV s0
        rw [HFR.out]
        rw [e0, e4, e5]
        clear e0 e4 e5
        clear hB
        go_wp2_with fail
        refine (HC.out _).mono ?_
        rintro e wx ⟨rfl, he⟩
        have := H.out _ he
        clear H
        go_wp2_with fail
        show K _ _
        rw [HFR.out] at this
        obtain ⟨u0, u4, u5⟩ := HU.out
        rw [u0, u4, u5] at this
        exact this
      · rintro L A W K hL hC hW ⟨V, rfl, HV, s0⟩ hK
        have e6 : V 6 = .int .i64 r := HV 6 _ rfl (hW 6 rfl)
        have H := Lib.hid (show ∀ W', Ext W W' → K (fr (upd V 7 (.bool rb))) W' from fun W' he => hK _ _ ⟨upd V 7 (.bool rb), rfl, HV.up 7 _ (fun x hx => Option.some.inj hx), SrS.ext s0 he⟩)
        have HU := Lib.hid (show (upd V 7 (.bool rb)) 6 = .int .i64 r from e6)
        clear hK hC hW hL HV s0
        rw [HFR.out]
        rw [e6]
        clear e6
        go_wp2_with fail
        rw [HRB.out]
        show K _ _
        have := H.out _ (Ext.refl _)
        rw [HFR.out] at this
        obtain u6 := HU.out
        rw [u6] at this
        exact this
      · rintro L A W hL ⟨V, rfl, HV, s0⟩
        have e0 : V 0 = .func (.func 22) #[] #[] := HV 0 _ rfl (hL 0 (by simp))
        have e1 : V 1 = .slice (some ⟨bb, oo, none⟩) l.length c := HV 1 _ rfl (hL 1 (by simp))
        have e2 : V 2 = .int .i64 (h : Nat) := HV 2 _ rfl (hL 2 (by simp))
        have e3 : V 3 = .pointer (some ⟨bb, oo + h * 5, none⟩) := HV 3 _ rfl (hL 3 (by simp))
        have e4 : V 4 = .agg (cS p) := HV 4 _ rfl (hL 4 (by simp))
        have e5 : V 5 = .agg (cS x) := HV 5 _ rfl (hL 5 (by simp))
        have e6 : V 6 = .int .i64 r := HV 6 _ rfl (hL 6 (by simp))
        have e7 : V 7 = .bool rb := HV 7 _ rfl (hL 7 (by simp))
        have hA := s0
        rw [HFR.out]
        rw [e0, e1, e2, e3, e4, e5, e6, e7]
        clear hL HV HFR e0 e1 e2 e3 e4 e5 e6 e7 s0
        have HJA := Lib.hid hA
        clear hA
        cases rb with
        | true =>
          have hx : p.cod < x.cod := by have := HLT.out; rw [HRB.out] at this; simpa using this.symm
          have hi2 := HPH.out.1 hx
          clear hx HPH
          go_wp2_with fail
          exact ⟨⟨h + 1, j, hi2, hj, hjl, by go_num, rfl, HJA⟩, by have := HH.out; simp [intOf]; omega⟩
        | false =>
          have hx : ¬ p.cod < x.cod := by have := HLT.out; rw [HRB.out] at this; simpa using this.symm
          have hi2 : pn ≤ h := by
            rcases Nat.lt_or_ge h pn with h' | h'
            · exact absurd (HPH.out.2 h') hx
            · exact h'
          clear hx HPH
          go_wp2_with fail
          exact ⟨⟨i, h, hi, hi2, by omega, rfl, rfl, HJA⟩, by have := HH.out; simp [intOf]; omega⟩
    · obtain rfl : i = j := by omega
      obtain rfl : i = pn := by omega
      clear hi hj hlt
      have hdj : decide (i < i) = false := decide_eq_false (by omega)
      by_cases hil : i < l.length
      · obtain ⟨bb, oo, rfl, hrg, hp1⟩ := HS.out.at i hil
        have HR := Lib.hid hrg
        have HPK := Lib.hid hp1
        clear hrg hp1 HPL
        generalize l.getD i pz0 = p at *
        have hd3 : decide (i < l.length) = true := decide_eq_true hil
        have hd4 : decide ((i : Int) < (l.length : Int)) = true := decide_eq_true (by omega)
        have HC := Lib.hid (fun W => show Calls Try.prog 22 #[.agg (cS p), .agg (cS x)] W (fun e w' => e = .returned (.int .i64 (cmpN p.cod x.cod)) ∧ Ext W w') from compareSp_any p x W HPK.out.2.1 HXK.out.2.1)
        obtain ⟨r, hr⟩ : ∃ r, cmpN p.cod x.cod = r := ⟨_, rfl⟩
        have HEQ := Lib.hid (cmp_eq0 p.cod x.cod)
        rw [hr] at HEQ HC
        obtain ⟨rb, hrb⟩ : ∃ rb, (r == 0) = rb := ⟨_, rfl⟩
        have HRB := Lib.hid hrb
        have HF := Lib.hid (show hn = rb by rw [HHK.out, decide_eq_true hil, ← HEQ.out, hrb]; rfl)
        clear hr HHK hrb
        go_upto_region 8 with fail
        refine wp_named fun a0 ha0 => ?_
        obtain ⟨fr, hfr⟩ : ∃ fr : (Nat → Value) → Act, ∀ V, fr V = ((((((((((((((((a0.put (some 35) (V 0)).put (some 36) (V 1)).put (some 37) (V 2)).put (some 38) (V 3)).put (some 39) (V 4)).put (some 40) (V 5)).put (some 41) (V 6)).put (some 42) (V 7)).put (some 43) (V 8)).put (some 44) (V 9)).put (some 45) (V 10)).put (some 46) (V 11)).put (some 47) (V 12)).put (some 48) (V 13)).put (some 6) (V 14)).put (some 7) (V 15)) := ⟨fun V => ((((((((((((((((a0.put (some 35) (V 0)).put (some 36) (V 1)).put (some 37) (V 2)).put (some 38) (V 3)).put (some 39) (V 4)).put (some 40) (V 5)).put (some 41) (V 6)).put (some 42) (V 7)).put (some 43) (V 8)).put (some 44) (V 9)).put (some 45) (V 10)).put (some 46) (V 11)).put (some 47) (V 12)).put (some 48) (V 13)).put (some 6) (V 14)).put (some 7) (V 15)), fun _ => rfl⟩
        rw [ha0] at hfr
        simp only [Act.put, List.setIfInBounds_toArray, List.set_cons_zero, List.set_cons_succ] at hfr
        have HFR := Lib.hid hfr
        clear hfr
        refine wp_region_inv (by kernel_rfl) (by kernel_rfl) (fun L A W => ∃ V : Nat → Value, A = fr V ∧ Vals (fun j => ([some (.int .i64 (i : Nat)), some (.int .i64 (i : Nat)), some (.int .i64 (l.length : Nat)), some (.bool true), some (.bool true), some (.func (.func 22) #[] #[]), some (.slice (some ⟨bb, oo, none⟩) l.length c), some (.int .i64 (i : Nat)), some (.pointer (some ⟨bb, oo + i * 5, none⟩)), some (.agg (cS p)), some (.agg (cS x)), some (.int .i64 r), some (.bool rb), some (.bool rb), some (.int .i64 (i : Nat)), some (.bool rb)] : List (Option Value)).getD j none) L V ∧ (SrS w g4 x W)) ?_ ⟨?_, ?_, ?_, ?_, ?_, ?_, ?_, ?_, ?_, ?_, ?_, ?_, ?_, ?_, ?_, ?_, trivial⟩ ?_
        · refine ⟨fun j => a0.tmps.getD (([35, 36, 37, 38, 39, 40, 41, 42, 43, 44, 45, 46, 47, 48, 6, 7] : List Nat).getD j 0) undef, ?_, Vals.no _ _ _ (far_none _ _ rfl), HJ.out.ext (Ext.refl _).drew⟩
          rw [HFR.out, ha0]
          rfl
        all_goals clear ha0
        · rintro L A W K hL hC hW ⟨V, rfl, HV, s0⟩ hK
          have H := Lib.hid (show ∀ W', Ext W W' → K (fr (upd V 0 (.int .i64 (i : Nat)))) W' from fun W' he => hK _ _ ⟨upd V 0 (.int .i64 (i : Nat)), rfl, HV.up 0 _ (fun x hx => Option.some.inj hx), SrS.ext s0 he⟩)
          clear hK hC hW hL HV s0
          rw [HFR.out]
          go_wp2_with fail
          show K _ _
          have := H.out _ (Ext.refl _)
          rw [HFR.out] at this
          exact this
        · rintro L A W K hL hC hW ⟨V, rfl, HV, s0⟩ hK
          have H := Lib.hid (show ∀ W', Ext W W' → K (fr (upd V 1 (.int .i64 (i : Nat)))) W' from fun W' he => hK _ _ ⟨upd V 1 (.int .i64 (i : Nat)), rfl, HV.up 1 _ (fun x hx => Option.some.inj hx), SrS.ext s0 he⟩)
          clear hK hC hW hL HV s0
          rw [HFR.out]
          go_wp2_with fail
          show K _ _
          have := H.out _ (Ext.refl _)
          rw [HFR.out] at this
          exact this
        · rintro L A W K hL hC hW ⟨V, rfl, HV, s0⟩ hK
          have H := Lib.hid (show ∀ W', Ext W W' → K (fr (upd V 2 (.int .i64 (l.length : Nat)))) W' from fun W' he => hK _ _ ⟨upd V 2 (.int .i64 (l.length : Nat)), rfl, HV.up 2 _ (fun x hx => Option.some.inj hx), SrS.ext s0 he⟩)
          clear hK hC hW hL HV s0
          rw [HFR.out]
          go_wp2_with fail
          show K _ _
          have := H.out _ (Ext.refl _)
          rw [HFR.out] at this
          exact this
        · rintro L A W K hL hC hW ⟨V, rfl, HV, s0⟩ hK
          have e1 : V 1 = .int .i64 (i : Nat) := HV 1 _ rfl (hW 1 rfl)
          have e2 : V 2 = .int .i64 (l.length : Nat) := HV 2 _ rfl (hW 2 rfl)
          have H := Lib.hid (show ∀ W', Ext W W' → K (fr (upd V 3 (.bool true))) W' from fun W' he => hK _ _ ⟨upd V 3 (.bool true), rfl, HV.up 3 _ (fun x hx => Option.some.inj hx), SrS.ext s0 he⟩)
          have HU := Lib.hid (show (upd V 3 (.bool true)) 1 = .int .i64 (i : Nat) ∧ (upd V 3 (.bool true)) 2 = .int .i64 (l.length : Nat) from ⟨e1, e2⟩)
          clear hK hC hW hL HV s0
          rw [HFR.out]
          rw [e1, e2]
          clear e1 e2
          go_wp2_with fail
          show K _ _
          have := H.out _ (Ext.refl _)
          rw [HFR.out] at this
          obtain ⟨u1, u2⟩ := HU.out
          rw [u1, u2] at this
          exact this
        · rintro L A W K hL hC hW ⟨V, rfl, HV, s0⟩ hK
          have e3 : V 3 = .bool true := HV 3 _ rfl (hW 3 rfl)
          have H := Lib.hid (show ∀ W', Ext W W' → K (fr (upd V 4 (.bool true))) W' from fun W' he => hK _ _ ⟨upd V 4 (.bool true), rfl, HV.up 4 _ (fun x hx => Option.some.inj hx), SrS.ext s0 he⟩)
          have HU := Lib.hid (show (upd V 4 (.bool true)) 3 = .bool true from e3)
          clear hK hC hW hL HV s0
          rw [HFR.out]
          rw [e3]
          clear e3
          go_wp2_with fail
          show K _ _
          have := H.out _ (Ext.refl _)
          rw [HFR.out] at this
          obtain u3 := HU.out
          rw [u3] at this
          exact this
        · rintro L A W K hL hC hW ⟨V, rfl, HV, s0⟩ hK
          have e4 : V 4 = .bool true := HV 4 _ rfl (hW 4 rfl)
          have H := Lib.hid (show ∀ W', Ext W W' → K (fr (upd V 5 (.func (.func 22) #[] #[]))) W' from fun W' he => hK _ _ ⟨upd V 5 (.func (.func 22) #[] #[]), rfl, HV.up 5 _ (fun x hx => Option.some.inj hx), SrS.ext s0 he⟩)
          have HU := Lib.hid (show (upd V 5 (.func (.func 22) #[] #[])) 4 = .bool true from e4)
          clear hK hC hW hL HV s0
          rw [HFR.out]
          rw [e4]
          clear e4
          go_wp2_with fail
          show K _ _
          have := H.out _ (Ext.refl _)
          rw [HFR.out] at this
          obtain u4 := HU.out
          rw [u4] at this
          exact this
        · rintro L A W K hL hC hW ⟨V, rfl, HV, s0⟩ hK
          have e4 : V 4 = .bool true := HV 4 _ rfl (hW 4 rfl)
          have H := Lib.hid (show ∀ W', Ext W W' → K (fr (upd V 6 (.slice (some ⟨bb, oo, none⟩) l.length c))) W' from fun W' he => hK _ _ ⟨upd V 6 (.slice (some ⟨bb, oo, none⟩) l.length c), rfl, HV.up 6 _ (fun x hx => Option.some.inj hx), SrS.ext s0 he⟩)
          have HU := Lib.hid (show (upd V 6 (.slice (some ⟨bb, oo, none⟩) l.length c)) 4 = .bool true from e4)
          clear hK hC hW hL HV s0
          rw [HFR.out]
          rw [e4]
          clear e4
          go_wp2_with fail
          show K _ _
          have := H.out _ (Ext.refl _)
          rw [HFR.out] at this
          obtain u4 := HU.out
          rw [u4] at this
          exact this
        · rintro L A W K hL hC hW ⟨V, rfl, HV, s0⟩ hK
          have e4 : V 4 = .bool true := HV 4 _ rfl (hW 4 rfl)
          have H := Lib.hid (show ∀ W', Ext W W' → K (fr (upd V 7 (.int .i64 (i : Nat)))) W' from fun W' he => hK _ _ ⟨upd V 7 (.int .i64 (i : Nat)), rfl, HV.up 7 _ (fun x hx => Option.some.inj hx), SrS.ext s0 he⟩)
          have HU := Lib.hid (show (upd V 7 (.int .i64 (i : Nat))) 4 = .bool true from e4)
          clear hK hC hW hL HV s0
          rw [HFR.out]
          rw [e4]
          clear e4
          go_wp2_with fail
          show K _ _
          have := H.out _ (Ext.refl _)
          rw [HFR.out] at this
          obtain u4 := HU.out
          rw [u4] at this
          exact this
        · rintro L A W K hL hC hW ⟨V, rfl, HV, s0⟩ hK
          have e4 : V 4 = .bool true := HV 4 _ rfl (hW 4 rfl)
          have e6 : V 6 = .slice (some ⟨bb, oo, none⟩) l.length c := HV 6 _ rfl (hW 6 rfl)
          have e7 : V 7 = .int .i64 (i : Nat) := HV 7 _ rfl (hW 7 rfl)
          have H := Lib.hid (show ∀ W', Ext W W' → K (fr (upd V 8 (.pointer (some ⟨bb, oo + i * 5, none⟩)))) W' from fun W' he => hK _ _ ⟨upd V 8 (.pointer (some ⟨bb, oo + i * 5, none⟩)), rfl, HV.up 8 _ (fun x hx => Option.some.inj hx), SrS.ext s0 he⟩)
          have HU := Lib.hid (show (upd V 8 (.pointer (some ⟨bb, oo + i * 5, none⟩))) 4 = .bool true ∧ (upd V 8 (.pointer (some ⟨bb, oo + i * 5, none⟩))) 6 = .slice (some ⟨bb, oo, none⟩) l.length c ∧ (upd V 8 (.pointer (some ⟨bb, oo + i * 5, none⟩))) 7 = .int .i64 (i : Nat) from ⟨e4, e6, e7⟩)
          clear hK hC hW hL HV s0
          rw [HFR.out]
          rw [e4, e6, e7]
          clear e4 e6 e7
          go_wp2_with fail
          show K _ _
          have := H.out _ (Ext.refl _)
          rw [HFR.out] at this
          obtain ⟨u4, u6, u7⟩ := HU.out
          rw [u4, u6, u7] at this
          exact this
        · rintro L A W K hL hC hW ⟨V, rfl, HV, s0⟩ hK
          have e4 : V 4 = .bool true := HV 4 _ rfl (hW 4 rfl)
          have e8 : V 8 = .pointer (some ⟨bb, oo + i * 5, none⟩) := HV 8 _ rfl (hW 8 rfl)
          have hB := s0
          have H := Lib.hid (show ∀ W', Ext W W' → K (fr (upd V 9 (.agg (cS p)))) W' from fun W' he => hK _ _ ⟨upd V 9 (.agg (cS p)), rfl, HV.up 9 _ (fun x hx => Option.some.inj hx), SrS.ext s0 he⟩)
          have HU := Lib.hid (show (upd V 9 (.agg (cS p))) 4 = .bool true ∧ (upd V 9 (.agg (cS p))) 8 = .pointer (some ⟨bb, oo + i * 5, none⟩) from ⟨e4, e8⟩)
          clear hK hC hW hL HV s0
          rw [HFR.out]
          rw [e4, e8]
          clear e4 e8
          have HWD := Lib.hid (fun (j : Nat) (z : Value) (hz : (cS p).toList[j]? = some z) => hB.2.cell (HR.out j z hz))
          clear hB
          refine wpList_loadS rfl (.tmp 43) rfl bb (oo + i * 5) p rfl HWD.out ?_
          show K _ _
          have := H.out _ (Ext.refl _)
          rw [HFR.out] at this
          obtain ⟨u4, u8⟩ := HU.out
          rw [u4, u8] at this
          exact this
        · rintro L A W K hL hC hW ⟨V, rfl, HV, s0⟩ hK
          have e4 : V 4 = .bool true := HV 4 _ rfl (hW 4 rfl)
          have hB := s0
          have H := Lib.hid (show ∀ W', Ext W W' → K (fr (upd V 10 (.agg (cS x)))) W' from fun W' he => hK _ _ ⟨upd V 10 (.agg (cS x)), rfl, HV.up 10 _ (fun x hx => Option.some.inj hx), SrS.ext s0 he⟩)
          have HU := Lib.hid (show (upd V 10 (.agg (cS x))) 4 = .bool true from e4)
          clear hK hC hW hL HV s0
          rw [HFR.out]
          rw [e4]
          clear e4
          have HWD := Lib.hid (Cs.rg hB.1)
          clear hB
          refine wpList_loadS rfl (.tmp 4) rfl g4 0 x rfl HWD.out ?_
          show K _ _
          have := H.out _ (Ext.refl _)
          rw [HFR.out] at this
          obtain u4 := HU.out
          rw [u4] at this
          exact this
        · rintro L A W K hL hC hW ⟨V, rfl, HV, s0⟩ hK
          have e4 : V 4 = .bool true := HV 4 _ rfl (hW 4 rfl)
          have e5 : V 5 = .func (.func 22) #[] #[] := HV 5 _ rfl (hW 5 rfl)
          have e9 : V 9 = .agg (cS p) := HV 9 _ rfl (hW 9 rfl)
          have e10 : V 10 = .agg (cS x) := HV 10 _ rfl (hW 10 rfl)
          have hB := s0
          have H := Lib.hid (show ∀ W', Ext W W' → K (fr (upd V 11 (.int .i64 r))) W' from fun W' he => hK _ _ ⟨upd V 11 (.int .i64 r), rfl, HV.up 11 _ (fun x hx => Option.some.inj hx), SrS.ext s0 he⟩)
          have HU := Lib.hid (show (upd V 11 (.int .i64 r)) 4 = .bool true ∧ (upd V 11 (.int .i64 r)) 5 = .func (.func 22) #[] #[] ∧ (upd V 11 (.int .i64 r)) 9 = .agg (cS p) ∧ (upd V 11 (.int .i64 r)) 10 = .agg (cS x) from ⟨e4, e5, e9, e10⟩)
          clear hK hC hW hL HV s0
          rw [HFR.out]
          rw [e4, e5, e9, e10]
          clear e4 e5 e9 e10
          clear hB
          go_wp2_with fail
          refine (HC.out _).mono ?_
          rintro e wx ⟨rfl, he⟩
          have := H.out _ he
          clear H
          go_wp2_with fail
          show K _ _
          rw [HFR.out] at this
          obtain ⟨u4, u5, u9, u10⟩ := HU.out
          rw [u4, u5, u9, u10] at this
          exact this
        · rintro L A W K hL hC hW ⟨V, rfl, HV, s0⟩ hK
          have e4 : V 4 = .bool true := HV 4 _ rfl (hW 4 rfl)
          have e11 : V 11 = .int .i64 r := HV 11 _ rfl (hW 11 rfl)
          have H := Lib.hid (show ∀ W', Ext W W' → K (fr (upd V 12 (.bool rb))) W' from fun W' he => hK _ _ ⟨upd V 12 (.bool rb), rfl, HV.up 12 _ (fun x hx => Option.some.inj hx), SrS.ext s0 he⟩)
          have HU := Lib.hid (show (upd V 12 (.bool rb)) 4 = .bool true ∧ (upd V 12 (.bool rb)) 11 = .int .i64 r from ⟨e4, e11⟩)
          clear hK hC hW hL HV s0
          rw [HFR.out]
          rw [e4, e11]
          clear e4 e11
          go_wp2_with fail
          rw [HRB.out]
          show K _ _
          have := H.out _ (Ext.refl _)
          rw [HFR.out] at this
          obtain ⟨u4, u11⟩ := HU.out
          rw [u4, u11] at this
          exact this
        · rintro L A W K hL hC hW ⟨V, rfl, HV, s0⟩ hK
          have e4 : V 4 = .bool true := HV 4 _ rfl (hW 4 rfl)
          have e12 : V 12 = .bool rb := HV 12 _ rfl (hW 12 rfl)
          have H := Lib.hid (show ∀ W', Ext W W' → K (fr (upd V 13 (.bool rb))) W' from fun W' he => hK _ _ ⟨upd V 13 (.bool rb), rfl, HV.up 13 _ (fun x hx => Option.some.inj hx), SrS.ext s0 he⟩)
          have HU := Lib.hid (show (upd V 13 (.bool rb)) 4 = .bool true ∧ (upd V 13 (.bool rb)) 12 = .bool rb from ⟨e4, e12⟩)
          clear hK hC hW hL HV s0
          rw [HFR.out]
          rw [e4, e12]
          clear e4 e12
          go_wp2_with fail
          show K _ _
          have := H.out _ (Ext.refl _)
          rw [HFR.out] at this
          obtain ⟨u4, u12⟩ := HU.out
          rw [u4, u12] at this
          exact this
        · rintro L A W K hL hC hW ⟨V, rfl, HV, s0⟩ hK
          have e0 : V 0 = .int .i64 (i : Nat) := HV 0 _ rfl (hW 0 rfl)
          have H := Lib.hid (show ∀ W', Ext W W' → K (fr (upd V 14 (.int .i64 (i : Nat)))) W' from fun W' he => hK _ _ ⟨upd V 14 (.int .i64 (i : Nat)), rfl, HV.up 14 _ (fun x hx => Option.some.inj hx), SrS.ext s0 he⟩)
          have HU := Lib.hid (show (upd V 14 (.int .i64 (i : Nat))) 0 = .int .i64 (i : Nat) from e0)
          clear hK hC hW hL HV s0
          rw [HFR.out]
          rw [e0]
          clear e0
          go_wp2_with fail
          show K _ _
          have := H.out _ (Ext.refl _)
          rw [HFR.out] at this
          obtain u0 := HU.out
          rw [u0] at this
          exact this
        · rintro L A W K hL hC hW ⟨V, rfl, HV, s0⟩ hK
          have e13 : V 13 = .bool rb := HV 13 _ rfl (hW 13 rfl)
          have H := Lib.hid (show ∀ W', Ext W W' → K (fr (upd V 15 (.bool rb))) W' from fun W' he => hK _ _ ⟨upd V 15 (.bool rb), rfl, HV.up 15 _ (fun x hx => Option.some.inj hx), SrS.ext s0 he⟩)
          have HU := Lib.hid (show (upd V 15 (.bool rb)) 13 = .bool rb from e13)
          clear hK hC hW hL HV s0
          rw [HFR.out]
          rw [e13]
          clear e13
          go_wp2_with fail
          show K _ _
          have := H.out _ (Ext.refl _)
          rw [HFR.out] at this
          obtain u13 := HU.out
          rw [u13] at this
          exact this
        · rintro L A W hL ⟨V, rfl, HV, s0⟩
          have e0 : V 0 = .int .i64 (i : Nat) := HV 0 _ rfl (hL 0 (by simp))
          have e1 : V 1 = .int .i64 (i : Nat) := HV 1 _ rfl (hL 1 (by simp))
          have e2 : V 2 = .int .i64 (l.length : Nat) := HV 2 _ rfl (hL 2 (by simp))
          have e3 : V 3 = .bool true := HV 3 _ rfl (hL 3 (by simp))
          have e4 : V 4 = .bool true := HV 4 _ rfl (hL 4 (by simp))
          have e5 : V 5 = .func (.func 22) #[] #[] := HV 5 _ rfl (hL 5 (by simp))
          have e6 : V 6 = .slice (some ⟨bb, oo, none⟩) l.length c := HV 6 _ rfl (hL 6 (by simp))
          have e7 : V 7 = .int .i64 (i : Nat) := HV 7 _ rfl (hL 7 (by simp))
          have e8 : V 8 = .pointer (some ⟨bb, oo + i * 5, none⟩) := HV 8 _ rfl (hL 8 (by simp))
          have e9 : V 9 = .agg (cS p) := HV 9 _ rfl (hL 9 (by simp))
          have e10 : V 10 = .agg (cS x) := HV 10 _ rfl (hL 10 (by simp))
          have e11 : V 11 = .int .i64 r := HV 11 _ rfl (hL 11 (by simp))
          have e12 : V 12 = .bool rb := HV 12 _ rfl (hL 12 (by simp))
          have e13 : V 13 = .bool rb := HV 13 _ rfl (hL 13 (by simp))
          have e14 : V 14 = .int .i64 (i : Nat) := HV 14 _ rfl (hL 14 (by simp))
          have e15 : V 15 = .bool rb := HV 15 _ rfl (hL 15 (by simp))
          have hA := s0
          rw [HFR.out]
          rw [e0, e1, e2, e3, e4, e5, e6, e7, e8, e9, e10, e11, e12, e13, e14, e15]
          clear hL HV HFR e0 e1 e2 e3 e4 e5 e6 e7 e8 e9 e10 e11 e12 e13 e14 e15 s0
          have HJA := Lib.hid hA.2
          clear hA
          go_wp2_with fail
          refine bodyPost_ret (results_tmp2 rfl _ _ _) rfl ?_
          exact ⟨by rw [HF.out]; rfl, HJA.out⟩
      · have hd3 : decide (i < l.length) = false := decide_eq_false hil
        have hd4 : decide ((i : Int) < (l.length : Int)) = false := decide_eq_false (by omega)
        have HF := Lib.hid (show hn = false by rw [HHK.out, hd3]; rfl)
        clear HPL HHK
        go_upto_region 8 with fail
        refine wp_named fun a0 ha0 => ?_
        obtain ⟨fr, hfr⟩ : ∃ fr : (Nat → Value) → Act, ∀ V, fr V = ((((((((((((((((a0.put (some 35) (V 0)).put (some 36) (V 1)).put (some 37) (V 2)).put (some 38) (V 3)).put (some 39) (V 4)).put (some 40) (V 5)).put (some 41) (V 6)).put (some 42) (V 7)).put (some 43) (V 8)).put (some 44) (V 9)).put (some 45) (V 10)).put (some 46) (V 11)).put (some 47) (V 12)).put (some 48) (V 13)).put (some 6) (V 14)).put (some 7) (V 15)) := ⟨fun V => ((((((((((((((((a0.put (some 35) (V 0)).put (some 36) (V 1)).put (some 37) (V 2)).put (some 38) (V 3)).put (some 39) (V 4)).put (some 40) (V 5)).put (some 41) (V 6)).put (some 42) (V 7)).put (some 43) (V 8)).put (some 44) (V 9)).put (some 45) (V 10)).put (some 46) (V 11)).put (some 47) (V 12)).put (some 48) (V 13)).put (some 6) (V 14)).put (some 7) (V 15)), fun _ => rfl⟩
        rw [ha0] at hfr
        simp only [Act.put, List.setIfInBounds_toArray, List.set_cons_zero, List.set_cons_succ] at hfr
        have HFR := Lib.hid hfr
        clear hfr
        refine wp_region_inv (by kernel_rfl) (by kernel_rfl) (fun L A W => ∃ V : Nat → Value, A = fr V ∧ Vals (fun j => ([some (.int .i64 (i : Nat)), some (.int .i64 (i : Nat)), some (.int .i64 (l.length : Nat)), some (.bool false), some (.bool false), some (undef), some (undef), some (undef), some (undef), some (undef), some (undef), some (undef), some (undef), some (.bool false), some (.int .i64 (i : Nat)), some (.bool false)] : List (Option Value)).getD j none) L V ∧ (SrS w g4 x W)) ?_ ⟨?_, ?_, ?_, ?_, ?_, ?_, ?_, ?_, ?_, ?_, ?_, ?_, ?_, ?_, ?_, ?_, trivial⟩ ?_
        · refine ⟨fun j => a0.tmps.getD (([35, 36, 37, 38, 39, 40, 41, 42, 43, 44, 45, 46, 47, 48, 6, 7] : List Nat).getD j 0) undef, ?_, Vals.no _ _ _ (far_none _ _ rfl), HJ.out.ext (Ext.refl _).drew⟩
          rw [HFR.out, ha0]
          rfl
        all_goals clear ha0
        · rintro L A W K hL hC hW ⟨V, rfl, HV, s0⟩ hK
          have H := Lib.hid (show ∀ W', Ext W W' → K (fr (upd V 0 (.int .i64 (i : Nat)))) W' from fun W' he => hK _ _ ⟨upd V 0 (.int .i64 (i : Nat)), rfl, HV.up 0 _ (fun x hx => Option.some.inj hx), SrS.ext s0 he⟩)
          clear hK hC hW hL HV s0
          rw [HFR.out]
          go_wp2_with fail
          show K _ _
          have := H.out _ (Ext.refl _)
          rw [HFR.out] at this
          exact this
        · rintro L A W K hL hC hW ⟨V, rfl, HV, s0⟩ hK
          have H := Lib.hid (show ∀ W', Ext W W' → K (fr (upd V 1 (.int .i64 (i : Nat)))) W' from fun W' he => hK _ _ ⟨upd V 1 (.int .i64 (i : Nat)), rfl, HV.up 1 _ (fun x hx => Option.some.inj hx), SrS.ext s0 he⟩)
          clear hK hC hW hL HV s0
          rw [HFR.out]
          go_wp2_with fail
          show K _ _
          have := H.out _ (Ext.refl _)
          rw [HFR.out] at this
          exact this
        · rintro L A W K hL hC hW ⟨V, rfl, HV, s0⟩ hK
          have H := Lib.hid (show ∀ W', Ext W W' → K (fr (upd V 2 (.int .i64 (l.length : Nat)))) W' from fun W' he => hK _ _ ⟨upd V 2 (.int .i64 (l.length : Nat)), rfl, HV.up 2 _ (fun x hx => Option.some.inj hx), SrS.ext s0 he⟩)
          clear hK hC hW hL HV s0
          rw [HFR.out]
          go_wp2_with fail
          show K _ _
          have := H.out _ (Ext.refl _)
          rw [HFR.out] at this
          exact this
        · rintro L A W K hL hC hW ⟨V, rfl, HV, s0⟩ hK
          have e1 : V 1 = .int .i64 (i : Nat) := HV 1 _ rfl (hW 1 rfl)
          have e2 : V 2 = .int .i64 (l.length : Nat) := HV 2 _ rfl (hW 2 rfl)
          have H := Lib.hid (show ∀ W', Ext W W' → K (fr (upd V 3 (.bool false))) W' from fun W' he => hK _ _ ⟨upd V 3 (.bool false), rfl, HV.up 3 _ (fun x hx => Option.some.inj hx), SrS.ext s0 he⟩)
          have HU := Lib.hid (show (upd V 3 (.bool false)) 1 = .int .i64 (i : Nat) ∧ (upd V 3 (.bool false)) 2 = .int .i64 (l.length : Nat) from ⟨e1, e2⟩)
          clear hK hC hW hL HV s0
          rw [HFR.out]
          rw [e1, e2]
          clear e1 e2
          go_wp2_with fail
          show K _ _
          have := H.out _ (Ext.refl _)
          rw [HFR.out] at this
          obtain ⟨u1, u2⟩ := HU.out
          rw [u1, u2] at this
          exact this
        · rintro L A W K hL hC hW ⟨V, rfl, HV, s0⟩ hK
          have e3 : V 3 = .bool false := HV 3 _ rfl (hW 3 rfl)
          have H := Lib.hid (show ∀ W', Ext W W' → K (fr (upd V 4 (.bool false))) W' from fun W' he => hK _ _ ⟨upd V 4 (.bool false), rfl, HV.up 4 _ (fun x hx => Option.some.inj hx), SrS.ext s0 he⟩)
          have HU := Lib.hid (show (upd V 4 (.bool false)) 3 = .bool false from e3)
          clear hK hC hW hL HV s0
          rw [HFR.out]
          rw [e3]
          clear e3
          go_wp2_with fail
          show K _ _
          have := H.out _ (Ext.refl _)
          rw [HFR.out] at this
          obtain u3 := HU.out
          rw [u3] at this
          exact this
        · rintro L A W K hL hC hW ⟨V, rfl, HV, s0⟩ hK
          have e4 : V 4 = .bool false := HV 4 _ rfl (hW 4 rfl)
          have H := Lib.hid (show ∀ W', Ext W W' → K (fr (upd V 5 (undef))) W' from fun W' he => hK _ _ ⟨upd V 5 (undef), rfl, HV.up 5 _ (fun x hx => Option.some.inj hx), SrS.ext s0 he⟩)
          have HU := Lib.hid (show (upd V 5 (undef)) 4 = .bool false from e4)
          clear hK hC hW hL HV s0
          rw [HFR.out]
          rw [e4]
          clear e4
          go_wp2_with fail
          show K _ _
          have := H.out _ (Ext.refl _)
          rw [HFR.out] at this
          obtain u4 := HU.out
          rw [u4] at this
          exact this
        · rintro L A W K hL hC hW ⟨V, rfl, HV, s0⟩ hK
          have e4 : V 4 = .bool false := HV 4 _ rfl (hW 4 rfl)
          have H := Lib.hid (show ∀ W', Ext W W' → K (fr (upd V 6 (undef))) W' from fun W' he => hK _ _ ⟨upd V 6 (undef), rfl, HV.up 6 _ (fun x hx => Option.some.inj hx), SrS.ext s0 he⟩)
          have HU := Lib.hid (show (upd V 6 (undef)) 4 = .bool false from e4)
          clear hK hC hW hL HV s0
          rw [HFR.out]
          rw [e4]
          clear e4
          go_wp2_with fail
          show K _ _
          have := H.out _ (Ext.refl _)
          rw [HFR.out] at this
          obtain u4 := HU.out
          rw [u4] at this
          exact this
        · rintro L A W K hL hC hW ⟨V, rfl, HV, s0⟩ hK
          have e4 : V 4 = .bool false := HV 4 _ rfl (hW 4 rfl)
          have H := Lib.hid (show ∀ W', Ext W W' → K (fr (upd V 7 (undef))) W' from fun W' he => hK _ _ ⟨upd V 7 (undef), rfl, HV.up 7 _ (fun x hx => Option.some.inj hx), SrS.ext s0 he⟩)
          have HU := Lib.hid (show (upd V 7 (undef)) 4 = .bool false from e4)
          clear hK hC hW hL HV s0
          rw [HFR.out]
          rw [e4]
          clear e4
          go_wp2_with fail
          show K _ _
          have := H.out _ (Ext.refl _)
          rw [HFR.out] at this
          obtain u4 := HU.out
          rw [u4] at this
          exact this
        · rintro L A W K hL hC hW ⟨V, rfl, HV, s0⟩ hK
          have e4 : V 4 = .bool false := HV 4 _ rfl (hW 4 rfl)
          have e6 : V 6 = undef := HV 6 _ rfl (hW 6 rfl)
          have e7 : V 7 = undef := HV 7 _ rfl (hW 7 rfl)
          have H := Lib.hid (show ∀ W', Ext W W' → K (fr (upd V 8 (undef))) W' from fun W' he => hK _ _ ⟨upd V 8 (undef), rfl, HV.up 8 _ (fun x hx => Option.some.inj hx), SrS.ext s0 he⟩)
          have HU := Lib.hid (show (upd V 8 (undef)) 4 = .bool false ∧ (upd V 8 (undef)) 6 = undef ∧ (upd V 8 (undef)) 7 = undef from ⟨e4, e6, e7⟩)
          clear hK hC hW hL HV s0
          rw [HFR.out]
          rw [e4, e6, e7]
          clear e4 e6 e7
          go_wp2_with fail
          show K _ _
          have := H.out _ (Ext.refl _)
          rw [HFR.out] at this
          obtain ⟨u4, u6, u7⟩ := HU.out
          rw [u4, u6, u7] at this
          exact this
        · rintro L A W K hL hC hW ⟨V, rfl, HV, s0⟩ hK
          have e4 : V 4 = .bool false := HV 4 _ rfl (hW 4 rfl)
          have e8 : V 8 = undef := HV 8 _ rfl (hW 8 rfl)
          have H := Lib.hid (show ∀ W', Ext W W' → K (fr (upd V 9 (undef))) W' from fun W' he => hK _ _ ⟨upd V 9 (undef), rfl, HV.up 9 _ (fun x hx => Option.some.inj hx), SrS.ext s0 he⟩)
          have HU := Lib.hid (show (upd V 9 (undef)) 4 = .bool false ∧ (upd V 9 (undef)) 8 = undef from ⟨e4, e8⟩)
          clear hK hC hW hL HV s0
          rw [HFR.out]
          rw [e4, e8]
          clear e4 e8
          go_wp2_with fail
          show K _ _
          have := H.out _ (Ext.refl _)
          rw [HFR.out] at this
          obtain ⟨u4, u8⟩ := HU.out
          rw [u4, u8] at this
          exact this
        · rintro L A W K hL hC hW ⟨V, rfl, HV, s0⟩ hK
          have e4 : V 4 = .bool false := HV 4 _ rfl (hW 4 rfl)
          have H := Lib.hid (show ∀ W', Ext W W' → K (fr (upd V 10 (undef))) W' from fun W' he => hK _ _ ⟨upd V 10 (undef), rfl, HV.up 10 _ (fun x hx => Option.some.inj hx), SrS.ext s0 he⟩)
          have HU := Lib.hid (show (upd V 10 (undef)) 4 = .bool false from e4)
          clear hK hC hW hL HV s0
          rw [HFR.out]
          rw [e4]
          clear e4
          go_wp2_with fail
          show K _ _
          have := H.out _ (Ext.refl _)
          rw [HFR.out] at this
          obtain u4 := HU.out
          rw [u4] at this
          exact this
        · rintro L A W K hL hC hW ⟨V, rfl, HV, s0⟩ hK
          have e4 : V 4 = .bool false := HV 4 _ rfl (hW 4 rfl)
          have e5 : V 5 = undef := HV 5 _ rfl (hW 5 rfl)
          have e9 : V 9 = undef := HV 9 _ rfl (hW 9 rfl)
          have e10 : V 10 = undef := HV 10 _ rfl (hW 10 rfl)
          have H := Lib.hid (show ∀ W', Ext W W' → K (fr (upd V 11 (undef))) W' from fun W' he => hK _ _ ⟨upd V 11 (undef), rfl, HV.up 11 _ (fun x hx => Option.some.inj hx), SrS.ext s0 he⟩)
          have HU := Lib.hid (show (upd V 11 (undef)) 4 = .bool false ∧ (upd V 11 (undef)) 5 = undef ∧ (upd V 11 (undef)) 9 = undef ∧ (upd V 11 (undef)) 10 = undef from ⟨e4, e5, e9, e10⟩)
          clear hK hC hW hL HV s0
          rw [HFR.out]
          rw [e4, e5, e9, e10]
          clear e4 e5 e9 e10
          go_wp2_with fail
          show K _ _
          have := H.out _ (Ext.refl _)
          rw [HFR.out] at this
          obtain ⟨u4, u5, u9, u10⟩ := HU.out
          rw [u4, u5, u9, u10] at this
          exact this
        · rintro L A W K hL hC hW ⟨V, rfl, HV, s0⟩ hK
          have e4 : V 4 = .bool false := HV 4 _ rfl (hW 4 rfl)
          have e11 : V 11 = undef := HV 11 _ rfl (hW 11 rfl)
          have H := Lib.hid (show ∀ W', Ext W W' → K (fr (upd V 12 (undef))) W' from fun W' he => hK _ _ ⟨upd V 12 (undef), rfl, HV.up 12 _ (fun x hx => Option.some.inj hx), SrS.ext s0 he⟩)
          have HU := Lib.hid (show (upd V 12 (undef)) 4 = .bool false ∧ (upd V 12 (undef)) 11 = undef from ⟨e4, e11⟩)
          clear hK hC hW hL HV s0
          rw [HFR.out]
          rw [e4, e11]
          clear e4 e11
          go_wp2_with fail
          show K _ _
          have := H.out _ (Ext.refl _)
          rw [HFR.out] at this
          obtain ⟨u4, u11⟩ := HU.out
          rw [u4, u11] at this
          exact this
        · rintro L A W K hL hC hW ⟨V, rfl, HV, s0⟩ hK
          have e4 : V 4 = .bool false := HV 4 _ rfl (hW 4 rfl)
          have e12 : V 12 = undef := HV 12 _ rfl (hW 12 rfl)
          have H := Lib.hid (show ∀ W', Ext W W' → K (fr (upd V 13 (.bool false))) W' from fun W' he => hK _ _ ⟨upd V 13 (.bool false), rfl, HV.up 13 _ (fun x hx => Option.some.inj hx), SrS.ext s0 he⟩)
          have HU := Lib.hid (show (upd V 13 (.bool false)) 4 = .bool false ∧ (upd V 13 (.bool false)) 12 = undef from ⟨e4, e12⟩)
          clear hK hC hW hL HV s0
          rw [HFR.out]
          rw [e4, e12]
          clear e4 e12
          go_wp2_with fail
          show K _ _
          have := H.out _ (Ext.refl _)
          rw [HFR.out] at this
          obtain ⟨u4, u12⟩ := HU.out
          rw [u4, u12] at this
          exact this
        · rintro L A W K hL hC hW ⟨V, rfl, HV, s0⟩ hK
          have e0 : V 0 = .int .i64 (i : Nat) := HV 0 _ rfl (hW 0 rfl)
          have H := Lib.hid (show ∀ W', Ext W W' → K (fr (upd V 14 (.int .i64 (i : Nat)))) W' from fun W' he => hK _ _ ⟨upd V 14 (.int .i64 (i : Nat)), rfl, HV.up 14 _ (fun x hx => Option.some.inj hx), SrS.ext s0 he⟩)
          have HU := Lib.hid (show (upd V 14 (.int .i64 (i : Nat))) 0 = .int .i64 (i : Nat) from e0)
          clear hK hC hW hL HV s0
          rw [HFR.out]
          rw [e0]
          clear e0
          go_wp2_with fail
          show K _ _
          have := H.out _ (Ext.refl _)
          rw [HFR.out] at this
          obtain u0 := HU.out
          rw [u0] at this
          exact this
        · rintro L A W K hL hC hW ⟨V, rfl, HV, s0⟩ hK
          have e13 : V 13 = .bool false := HV 13 _ rfl (hW 13 rfl)
          have H := Lib.hid (show ∀ W', Ext W W' → K (fr (upd V 15 (.bool false))) W' from fun W' he => hK _ _ ⟨upd V 15 (.bool false), rfl, HV.up 15 _ (fun x hx => Option.some.inj hx), SrS.ext s0 he⟩)
          have HU := Lib.hid (show (upd V 15 (.bool false)) 13 = .bool false from e13)
          clear hK hC hW hL HV s0
          rw [HFR.out]
          rw [e13]
          clear e13
          go_wp2_with fail
          show K _ _
          have := H.out _ (Ext.refl _)
          rw [HFR.out] at this
          obtain u13 := HU.out
          rw [u13] at this
          exact this
        · rintro L A W hL ⟨V, rfl, HV, s0⟩
          have e0 : V 0 = .int .i64 (i : Nat) := HV 0 _ rfl (hL 0 (by simp))
          have e1 : V 1 = .int .i64 (i : Nat) := HV 1 _ rfl (hL 1 (by simp))
          have e2 : V 2 = .int .i64 (l.length : Nat) := HV 2 _ rfl (hL 2 (by simp))
          have e3 : V 3 = .bool false := HV 3 _ rfl (hL 3 (by simp))
          have e4 : V 4 = .bool false := HV 4 _ rfl (hL 4 (by simp))
          have e5 : V 5 = undef := HV 5 _ rfl (hL 5 (by simp))
          have e6 : V 6 = undef := HV 6 _ rfl (hL 6 (by simp))
          have e7 : V 7 = undef := HV 7 _ rfl (hL 7 (by simp))
          have e8 : V 8 = undef := HV 8 _ rfl (hL 8 (by simp))
          have e9 : V 9 = undef := HV 9 _ rfl (hL 9 (by simp))
          have e10 : V 10 = undef := HV 10 _ rfl (hL 10 (by simp))
          have e11 : V 11 = undef := HV 11 _ rfl (hL 11 (by simp))
          have e12 : V 12 = undef := HV 12 _ rfl (hL 12 (by simp))
          have e13 : V 13 = .bool false := HV 13 _ rfl (hL 13 (by simp))
          have e14 : V 14 = .int .i64 (i : Nat) := HV 14 _ rfl (hL 14 (by simp))
          have e15 : V 15 = .bool false := HV 15 _ rfl (hL 15 (by simp))
          have hA := s0
          rw [HFR.out]
          rw [e0, e1, e2, e3, e4, e5, e6, e7, e8, e9, e10, e11, e12, e13, e14, e15]
          clear hL HV HFR e0 e1 e2 e3 e4 e5 e6 e7 e8 e9 e10 e11 e12 e13 e14 e15 s0
          have HJA := Lib.hid hA.2
          clear hA
          go_wp2_with fail
          refine bodyPost_ret (results_tmp2 rfl _ _ _) rfl ?_
          exact ⟨by rw [HF.out]; rfl, HJA.out⟩
def SrP (w : World) (g4 : Nat) (x : Pe) (W : World) : Prop := BP W g4 x ∧ Ext w W
set_option maxRecDepth 100000 in
theorem SrP.ext {w : World} {g4 : Nat} {x : Pe} {W W' : World} (h : SrP w g4 x W) (he : Ext W W') : SrP w g4 x W' := ⟨h.1.ext he, h.2.trans he⟩
set_option maxRecDepth 100000 in
set_option maxHeartbeats 4000000 in
theorem searchP_any (sv : Value) (l : List Pe) (x : Pe) (w : World) (hs : XP w sv l) (hr : RiseX l) (hl : l.length ≤ 100000) (hx : okP x) :
    Calls Try.prog 38 #[sv, .agg (cP x), .func (.func 33) #[] #[]] w fun e w' => e = .returned (.tuple #[.int .i64 (posX l x.cod : Nat), .bool (hasX l x.cod)]) ∧ Ext w w' := by
  have HS := Lib.hid hs
  have HXK := Lib.hid hx
  obtain ⟨A1, c, rfl, h1, h2⟩ := hs.len
  unfold maxLen at h2
  have HPL := Lib.hid (posX_lt l x.cod hr)
  have HHK : Hid (hasX l x.cod = (decide (posX l x.cod < l.length) && decide ((l.getD (posX l x.cod) pz0).cod = x.cod))) := Lib.hid rfl
  have HPO := Lib.hid (posX_le l x.cod)
  obtain ⟨pn, hpn⟩ : ∃ n, posX l x.cod = n := ⟨_, rfl⟩
  obtain ⟨hn, hhn⟩ : ∃ n, hasX l x.cod = n := ⟨_, rfl⟩
  rw [hpn, hhn] at HHK
  rw [hpn] at HPL HPO
  rw [hpn, hhn]
  clear hs hr hx hpn hhn
  have HJ0 : Hid (SrP w w.heap.size x (w.alloc (.cells (cP x) 69))) := Lib.hid ⟨Cs.new _ _ _ _ rfl, (Ext.refl w).alloc _⟩
  obtain ⟨w1, hw1⟩ : ∃ w1, w.alloc (.cells (cP x) 69) = w1 := ⟨_, rfl⟩
  rw [hw1] at HJ0
  obtain ⟨xc, hxc⟩ : ∃ xc, cP x = xc := ⟨_, rfl⟩
  rw [hxc] at hw1 ⊢
  have HW1 := Lib.hid hw1
  clear hw1 hxc
  go_enter Try.func38, Try.ntmps38
  go_upto_region 1 with fail
  rw [HW1.out]
  clear HW1
  obtain ⟨g4, hg4⟩ : ∃ g, w.heap.size = g := ⟨_, rfl⟩
  rw [hg4] at HJ0 ⊢
  clear hg4
  go_wp2_with fail
  go_loopw [9, 10] (fun iv jv wr => ∃ i j : Nat, i ≤ pn ∧ pn ≤ j ∧ j ≤ l.length ∧ iv = .int .i64 i ∧ jv = .int .i64 j ∧ Hid (SrP w g4 x wr)) (fun iv jv _ => (intOf jv).toNat - (intOf iv).toNat)
  case atStart => exact ⟨0, l.length, Nat.zero_le _, HPO.out, Nat.le_refl _, rfl, rfl, HJ0⟩
  case round =>
    obtain ⟨i, j, hi, hj, hjl, rfl, rfl, HJ⟩ := hrel
    clear HJ0
    by_cases hlt : i < j
    · have hd : decide (i < j) = true := decide_eq_true hlt
      have hd2 : decide ((i : Int) < (j : Int)) = true := decide_eq_true (by omega)
      obtain ⟨h, hh⟩ : ∃ h, (i + j) / 2 = h := ⟨_, rfl⟩
      have hhl : h < l.length := by omega
      have HH := Lib.hid (show i ≤ h ∧ h < j ∧ (((i : Int) + (j : Int)) / 2 = ((h : Nat) : Int)) by omega)
      obtain ⟨bb, oo, rfl, hrg, hp1⟩ := HS.out.at h hhl
      have HR := Lib.hid hrg
      have HPK := Lib.hid hp1
      have HPH := Lib.hid (HPL.out h hhl)
      clear hh hrg hp1 HPL
      generalize l.getD h pz0 = p at *
      have hd3 : decide (h < l.length) = true := decide_eq_true hhl
      have hd4 : decide ((h : Int) < (l.length : Int)) = true := decide_eq_true (by omega)
      have HC := Lib.hid (fun W => show Calls Try.prog 33 #[.agg (cP p), .agg (cP x)] W (fun e w' => e = .returned (.int .i64 (cmpN p.cod x.cod)) ∧ Ext W w') from comparePa_any p x W HPK.out.2.1 HXK.out.2.1)
      obtain ⟨r, hr⟩ : ∃ r, cmpN p.cod x.cod = r := ⟨_, rfl⟩
      have HLT := Lib.hid (cmp_lt0 p.cod x.cod)
      rw [hr] at HLT HC
      obtain ⟨rb, hrb⟩ : ∃ rb, decide (r < 0) = rb := ⟨_, rfl⟩
      have HRB := Lib.hid hrb
      clear hr hrb
      go_upto_region 5 with fail
      rw [HH.out.2.2]
      refine wp_named fun a0 ha0 => ?_
      obtain ⟨fr, hfr⟩ : ∃ fr : (Nat → Value) → Act, ∀ V, fr V = ((((((((a0.put (some 24) (V 0)).put (some 25) (V 1)).put (some 26) (V 2)).put (some 27) (V 3)).put (some 28) (V 4)).put (some 29) (V 5)).put (some 30) (V 6)).put (some 31) (V 7)) := ⟨fun V => ((((((((a0.put (some 24) (V 0)).put (some 25) (V 1)).put (some 26) (V 2)).put (some 27) (V 3)).put (some 28) (V 4)).put (some 29) (V 5)).put (some 30) (V 6)).put (some 31) (V 7)), fun _ => rfl⟩
      rw [ha0] at hfr
      simp only [Act.put, List.setIfInBounds_toArray, List.set_cons_zero, List.set_cons_succ] at hfr
      have HFR := Lib.hid hfr
      clear hfr
      refine wp_region_inv (by kernel_rfl) (by kernel_rfl) (fun L A W => ∃ V : Nat → Value, A = fr V ∧ Vals (fun j => ([some (.func (.func 33) #[] #[]), some (.slice (some ⟨bb, oo, none⟩) l.length c), some (.int .i64 (h : Nat)), some (.pointer (some ⟨bb, oo + h * 9, none⟩)), some (.agg (cP p)), some (.agg (cP x)), some (.int .i64 r), some (.bool rb)] : List (Option Value)).getD j none) L V ∧ (SrP w g4 x W)) ?_ ⟨?_, ?_, ?_, ?_, ?_, ?_, ?_, ?_, trivial⟩ ?_
      · refine ⟨fun j => a0.tmps.getD (([24, 25, 26, 27, 28, 29, 30, 31] : List Nat).getD j 0) undef, ?_, Vals.no _ _ _ (far_none _ _ rfl), HJ.out.ext (Ext.refl _).drew⟩
        rw [HFR.out, ha0]
        rfl
      all_goals clear ha0
      · rintro L A W K hL hC hW ⟨V, rfl, HV, s0⟩ hK
        have H := Lib.hid (show ∀ W', Ext W W' → K (fr (upd V 0 (.func (.func 33) #[] #[]))) W' from fun W' he => hK _ _ ⟨upd V 0 (.func (.func 33) #[] #[]), rfl, HV.up 0 _ (fun x hx => Option.some.inj hx), SrP.ext s0 he⟩)
        clear hK hC hW hL HV s0
        rw [HFR.out]
        go_wp2_with fail
        show K _ _
        have := H.out _ (Ext.refl _)
        rw [HFR.out] at this
        exact this
      · rintro L A W K hL hC hW ⟨V, rfl, HV, s0⟩ hK
        have H := Lib.hid (show ∀ W', Ext W W' → K (fr (upd V 1 (.slice (some ⟨bb, oo, none⟩) l.length c))) W' from fun W' he => hK _ _ ⟨upd V 1 (.slice (some ⟨bb, oo, none⟩) l.length c), rfl, HV.up 1 _ (fun x hx => Option.some.inj hx), SrP.ext s0 he⟩)
        clear hK hC hW hL HV s0
        rw [HFR.out]
        go_wp2_with fail
        show K _ _
        have := H.out _ (Ext.refl _)
        rw [HFR.out] at this
        exact this
      · rintro L A W K hL hC hW ⟨V, rfl, HV, s0⟩ hK
        have H := Lib.hid (show ∀ W', Ext W W' → K (fr (upd V 2 (.int .i64 (h : Nat)))) W' from fun W' he => hK _ _ ⟨upd V 2 (.int .i64 (h : Nat)), rfl, HV.up 2 _ (fun x hx => Option.some.inj hx), SrP.ext s0 he⟩)
        clear hK hC hW hL HV s0
        rw [HFR.out]
        go_wp2_with fail
        show K _ _
        have := H.out _ (Ext.refl _)
        rw [HFR.out] at this
        exact this
      · rintro L A W K hL hC hW ⟨V, rfl, HV, s0⟩ hK
        have e1 : V 1 = .slice (some ⟨bb, oo, none⟩) l.length c := HV 1 _ rfl (hW 1 rfl)
        have e2 : V 2 = .int .i64 (h : Nat) := HV 2 _ rfl (hW 2 rfl)
        have H := Lib.hid (show ∀ W', Ext W W' → K (fr (upd V 3 (.pointer (some ⟨bb, oo + h * 9, none⟩)))) W' from fun W' he => hK _ _ ⟨upd V 3 (.pointer (some ⟨bb, oo + h * 9, none⟩)), rfl, HV.up 3 _ (fun x hx => Option.some.inj hx), SrP.ext s0 he⟩)
        have HU := Lib.hid (show (upd V 3 (.pointer (some ⟨bb, oo + h * 9, none⟩))) 1 = .slice (some ⟨bb, oo, none⟩) l.length c ∧ (upd V 3 (.pointer (some ⟨bb, oo + h * 9, none⟩))) 2 = .int .i64 (h : Nat) from ⟨e1, e2⟩)
        clear hK hC hW hL HV s0
        rw [HFR.out]
        rw [e1, e2]
        clear e1 e2
        go_wp2_with fail
        show K _ _
        have := H.out _ (Ext.refl _)
        rw [HFR.out] at this
        obtain ⟨u1, u2⟩ := HU.out
        rw [u1, u2] at this
        exact this
      · rintro L A W K hL hC hW ⟨V, rfl, HV, s0⟩ hK
        have e3 : V 3 = .pointer (some ⟨bb, oo + h * 9, none⟩) := HV 3 _ rfl (hW 3 rfl)
        have hB := s0
        have H := Lib.hid (show ∀ W', Ext W W' → K (fr (upd V 4 (.agg (cP p)))) W' from fun W' he => hK _ _ ⟨upd V 4 (.agg (cP p)), rfl, HV.up 4 _ (fun x hx => Option.some.inj hx), SrP.ext s0 he⟩)
        have HU := Lib.hid (show (upd V 4 (.agg (cP p))) 3 = .pointer (some ⟨bb, oo + h * 9, none⟩) from e3)
        clear hK hC hW hL HV s0
        rw [HFR.out]
        rw [e3]
        clear e3
        have HWD := Lib.hid (fun (j : Nat) (z : Value) (hz : (cP p).toList[j]? = some z) => hB.2.cell (HR.out j z hz))
        clear hB
        refine wpList_loadP rfl (.tmp 27) rfl bb (oo + h * 9) p rfl HWD.out ?_
        show K _ _
        have := H.out _ (Ext.refl _)
        rw [HFR.out] at this
        obtain u3 := HU.out
        rw [u3] at this
        exact this
      · rintro L A W K hL hC hW ⟨V, rfl, HV, s0⟩ hK
        have hB := s0
        have H := Lib.hid (show ∀ W', Ext W W' → K (fr (upd V 5 (.agg (cP x)))) W' from fun W' he => hK _ _ ⟨upd V 5 (.agg (cP x)), rfl, HV.up 5 _ (fun x hx => Option.some.inj hx), SrP.ext s0 he⟩)
        clear hK hC hW hL HV s0
        rw [HFR.out]
        have HWD := Lib.hid (Cs.rg hB.1)
        clear hB
        refine wpList_loadP rfl (.tmp 4) rfl g4 0 x rfl HWD.out ?_
        show K _ _
        have := H.out _ (Ext.refl _)
        rw [HFR.out] at this
        exact this
      · rintro L A W K hL hC hW ⟨V, rfl, HV, s0⟩ hK
        have e0 : V 0 = .func (.func 33) #[] #[] := HV 0 _ rfl (hW 0 rfl)
        have e4 : V 4 = .agg (cP p) := HV 4 _ rfl (hW 4 rfl)
        have e5 : V 5 = .agg (cP x) := HV 5 _ rfl (hW 5 rfl)
        have hB := s0
        have H := Lib.hid (show ∀ W', Ext W W' → K (fr (upd V 6 (.int .i64 r))) W' from fun W' he => hK _ _ ⟨upd V 6 (.int .i64 r), rfl, HV.up 6 _ (fun x hx => Option.some.inj hx), SrP.ext s0 he⟩)
        have HU := Lib.hid (show (upd V 6 (.int .i64 r)) 0 = .func (.func 33) #[] #[] ∧ (upd V 6 (.int .i64 r)) 4 = .agg (cP p) ∧ (upd V 6 (.int .i64 r)) 5 = .agg (cP x) from ⟨e0, e4, e5⟩)
        clear hK hC hW hL HV s0
        rw [HFR.out]
        rw [e0, e4, e5]
        clear e0 e4 e5
        clear hB
        go_wp2_with fail
        refine (HC.out _).mono ?_
        rintro e wx ⟨rfl, he⟩
        have := H.out _ he
        clear H
        go_wp2_with fail
        show K _ _
        rw [HFR.out] at this
        obtain ⟨u0, u4, u5⟩ := HU.out
        rw [u0, u4, u5] at this
        exact this
      · rintro L A W K hL hC hW ⟨V, rfl, HV, s0⟩ hK
        have e6 : V 6 = .int .i64 r := HV 6 _ rfl (hW 6 rfl)
        have H := Lib.hid (show ∀ W', Ext W W' → K (fr (upd V 7 (.bool rb))) W' from fun W' he => hK _ _ ⟨upd V 7 (.bool rb), rfl, HV.up 7 _ (fun x hx => Option.some.inj hx), SrP.ext s0 he⟩)
        have HU := Lib.hid (show (upd V 7 (.bool rb)) 6 = .int .i64 r from e6)
        clear hK hC hW hL HV s0
        rw [HFR.out]
        rw [e6]
        clear e6
        go_wp2_with fail
        rw [HRB.out]
        show K _ _
        have := H.out _ (Ext.refl _)
        rw [HFR.out] at this
        obtain u6 := HU.out
        rw [u6] at this
        exact this
      · rintro L A W hL ⟨V, rfl, HV, s0⟩
        have e0 : V 0 = .func (.func 33) #[] #[] := HV 0 _ rfl (hL 0 (by simp))
        have e1 : V 1 = .slice (some ⟨bb, oo, none⟩) l.length c := HV 1 _ rfl (hL 1 (by simp))
        have e2 : V 2 = .int .i64 (h : Nat) := HV 2 _ rfl (hL 2 (by simp))
        have e3 : V 3 = .pointer (some ⟨bb, oo + h * 9, none⟩) := HV 3 _ rfl (hL 3 (by simp))
        have e4 : V 4 = .agg (cP p) := HV 4 _ rfl (hL 4 (by simp))
        have e5 : V 5 = .agg (cP x) := HV 5 _ rfl (hL 5 (by simp))
        have e6 : V 6 = .int .i64 r := HV 6 _ rfl (hL 6 (by simp))
        have e7 : V 7 = .bool rb := HV 7 _ rfl (hL 7 (by simp))
        have hA := s0
        rw [HFR.out]
        rw [e0, e1, e2, e3, e4, e5, e6, e7]
        clear hL HV HFR e0 e1 e2 e3 e4 e5 e6 e7 s0
        have HJA := Lib.hid hA
        clear hA
        cases rb with
        | true =>
          have hx : p.cod < x.cod := by have := HLT.out; rw [HRB.out] at this; simpa using this.symm
          have hi2 := HPH.out.1 hx
          clear hx HPH
          go_wp2_with fail
          exact ⟨⟨h + 1, j, hi2, hj, hjl, by go_num, rfl, HJA⟩, by have := HH.out; simp [intOf]; omega⟩
        | false =>
          have hx : ¬ p.cod < x.cod := by have := HLT.out; rw [HRB.out] at this; simpa using this.symm
          have hi2 : pn ≤ h := by
            rcases Nat.lt_or_ge h pn with h' | h'
            · exact absurd (HPH.out.2 h') hx
            · exact h'
          clear hx HPH
          go_wp2_with fail
          exact ⟨⟨i, h, hi, hi2, by omega, rfl, rfl, HJA⟩, by have := HH.out; simp [intOf]; omega⟩
    · obtain rfl : i = j := by omega
      obtain rfl : i = pn := by omega
      clear hi hj hlt
      have hdj : decide (i < i) = false := decide_eq_false (by omega)
      by_cases hil : i < l.length
      · obtain ⟨bb, oo, rfl, hrg, hp1⟩ := HS.out.at i hil
        have HR := Lib.hid hrg
        have HPK := Lib.hid hp1
        clear hrg hp1 HPL
        generalize l.getD i pz0 = p at *
        have hd3 : decide (i < l.length) = true := decide_eq_true hil
        have hd4 : decide ((i : Int) < (l.length : Int)) = true := decide_eq_true (by omega)
        have HC := Lib.hid (fun W => show Calls Try.prog 33 #[.agg (cP p), .agg (cP x)] W (fun e w' => e = .returned (.int .i64 (cmpN p.cod x.cod)) ∧ Ext W w') from comparePa_any p x W HPK.out.2.1 HXK.out.2.1)
        obtain ⟨r, hr⟩ : ∃ r, cmpN p.cod x.cod = r := ⟨_, rfl⟩
        have HEQ := Lib.hid (cmp_eq0 p.cod x.cod)
        rw [hr] at HEQ HC
        obtain ⟨rb, hrb⟩ : ∃ rb, (r == 0) = rb := ⟨_, rfl⟩
        have HRB := Lib.hid hrb
        have HF := Lib.hid (show hn = rb by rw [HHK.out, decide_eq_true hil, ← HEQ.out, hrb]; rfl)
        clear hr HHK hrb
        go_upto_region 8 with fail
        refine wp_named fun a0 ha0 => ?_
        obtain ⟨fr, hfr⟩ : ∃ fr : (Nat → Value) → Act, ∀ V, fr V = ((((((((((((((((a0.put (some 35) (V 0)).put (some 36) (V 1)).put (some 37) (V 2)).put (some 38) (V 3)).put (some 39) (V 4)).put (some 40) (V 5)).put (some 41) (V 6)).put (some 42) (V 7)).put (some 43) (V 8)).put (some 44) (V 9)).put (some 45) (V 10)).put (some 46) (V 11)).put (some 47) (V 12)).put (some 48) (V 13)).put (some 6) (V 14)).put (some 7) (V 15)) := ⟨fun V => ((((((((((((((((a0.put (some 35) (V 0)).put (some 36) (V 1)).put (some 37) (V 2)).put (some 38) (V 3)).put (some 39) (V 4)).put (some 40) (V 5)).put (some 41) (V 6)).put (some 42) (V 7)).put (some 43) (V 8)).put (some 44) (V 9)).put (some 45) (V 10)).put (some 46) (V 11)).put (some 47) (V 12)).put (some 48) (V 13)).put (some 6) (V 14)).put (some 7) (V 15)), fun _ => rfl⟩
        rw [ha0] at hfr
        simp only [Act.put, List.setIfInBounds_toArray, List.set_cons_zero, List.set_cons_succ] at hfr
        have HFR := Lib.hid hfr
        clear hfr
        refine wp_region_inv (by kernel_rfl) (by kernel_rfl) (fun L A W => ∃ V : Nat → Value, A = fr V ∧ Vals (fun j => ([some (.int .i64 (i : Nat)), some (.int .i64 (i : Nat)), some (.int .i64 (l.length : Nat)), some (.bool true), some (.bool true), some (.func (.func 33) #[] #[]), some (.slice (some ⟨bb, oo, none⟩) l.length c), some (.int .i64 (i : Nat)), some (.pointer (some ⟨bb, oo + i * 9, none⟩)), some (.agg (cP p)), some (.agg (cP x)), some (.int .i64 r), some (.bool rb), some (.bool rb), some (.int .i64 (i : Nat)), some (.bool rb)] : List (Option Value)).getD j none) L V ∧ (SrP w g4 x W)) ?_ ⟨?_, ?_, ?_, ?_, ?_, ?_, ?_, ?_, ?_, ?_, ?_, ?_, ?_, ?_, ?_, ?_, trivial⟩ ?_
        · refine ⟨fun j => a0.tmps.getD (([35, 36, 37, 38, 39, 40, 41, 42, 43, 44, 45, 46, 47, 48, 6, 7] : List Nat).getD j 0) undef, ?_, Vals.no _ _ _ (far_none _ _ rfl), HJ.out.ext (Ext.refl _).drew⟩
          rw [HFR.out, ha0]
          rfl
        all_goals clear ha0
        · rintro L A W K hL hC hW ⟨V, rfl, HV, s0⟩ hK
          have H := Lib.hid (show ∀ W', Ext W W' → K (fr (upd V 0 (.int .i64 (i : Nat)))) W' from fun W' he => hK _ _ ⟨upd V 0 (.int .i64 (i : Nat)), rfl, HV.up 0 _ (fun x hx => Option.some.inj hx), SrP.ext s0 he⟩)
          clear hK hC hW hL HV s0
          rw [HFR.out]
          go_wp2_with fail
          show K _ _
          have := H.out _ (Ext.refl _)
          rw [HFR.out] at this
          exact this
        · rintro L A W K hL hC hW ⟨V, rfl, HV, s0⟩ hK
          have H := Lib.hid (show ∀ W', Ext W W' → K (fr (upd V 1 (.int .i64 (i : Nat)))) W' from fun W' he => hK _ _ ⟨upd V 1 (.int .i64 (i : Nat)), rfl, HV.up 1 _ (fun x hx => Option.some.inj hx), SrP.ext s0 he⟩)
          clear hK hC hW hL HV s0
          rw [HFR.out]
          go_wp2_with fail
          show K _ _
          have := H.out _ (Ext.refl _)
          rw [HFR.out] at this
          exact this
        · rintro L A W K hL hC hW ⟨V, rfl, HV, s0⟩ hK
          have H := Lib.hid (show ∀ W', Ext W W' → K (fr (upd V 2 (.int .i64 (l.length : Nat)))) W' from fun W' he => hK _ _ ⟨upd V 2 (.int .i64 (l.length : Nat)), rfl, HV.up 2 _ (fun x hx => Option.some.inj hx), SrP.ext s0 he⟩)
          clear hK hC hW hL HV s0
          rw [HFR.out]
          go_wp2_with fail
          show K _ _
          have := H.out _ (Ext.refl _)
          rw [HFR.out] at this
          exact this
        · rintro L A W K hL hC hW ⟨V, rfl, HV, s0⟩ hK
          have e1 : V 1 = .int .i64 (i : Nat) := HV 1 _ rfl (hW 1 rfl)
          have e2 : V 2 = .int .i64 (l.length : Nat) := HV 2 _ rfl (hW 2 rfl)
          have H := Lib.hid (show ∀ W', Ext W W' → K (fr (upd V 3 (.bool true))) W' from fun W' he => hK _ _ ⟨upd V 3 (.bool true), rfl, HV.up 3 _ (fun x hx => Option.some.inj hx), SrP.ext s0 he⟩)
          have HU := Lib.hid (show (upd V 3 (.bool true)) 1 = .int .i64 (i : Nat) ∧ (upd V 3 (.bool true)) 2 = .int .i64 (l.length : Nat) from ⟨e1, e2⟩)
          clear hK hC hW hL HV s0
          rw [HFR.out]
          rw [e1, e2]
          clear e1 e2
          go_wp2_with fail
          show K _ _
          have := H.out _ (Ext.refl _)
          rw [HFR.out] at this
          obtain ⟨u1, u2⟩ := HU.out
          rw [u1, u2] at this
          exact this
        · rintro L A W K hL hC hW ⟨V, rfl, HV, s0⟩ hK
          have e3 : V 3 = .bool true := HV 3 _ rfl (hW 3 rfl)
          have H := Lib.hid (show ∀ W', Ext W W' → K (fr (upd V 4 (.bool true))) W' from fun W' he => hK _ _ ⟨upd V 4 (.bool true), rfl, HV.up 4 _ (fun x hx => Option.some.inj hx), SrP.ext s0 he⟩)
          have HU := Lib.hid (show (upd V 4 (.bool true)) 3 = .bool true from e3)
          clear hK hC hW hL HV s0
          rw [HFR.out]
          rw [e3]
          clear e3
          go_wp2_with fail
          show K _ _
          have := H.out _ (Ext.refl _)
          rw [HFR.out] at this
          obtain u3 := HU.out
          rw [u3] at this
          exact this
        · rintro L A W K hL hC hW ⟨V, rfl, HV, s0⟩ hK
          have e4 : V 4 = .bool true := HV 4 _ rfl (hW 4 rfl)
          have H := Lib.hid (show ∀ W', Ext W W' → K (fr (upd V 5 (.func (.func 33) #[] #[]))) W' from fun W' he => hK _ _ ⟨upd V 5 (.func (.func 33) #[] #[]), rfl, HV.up 5 _ (fun x hx => Option.some.inj hx), SrP.ext s0 he⟩)
          have HU := Lib.hid (show (upd V 5 (.func (.func 33) #[] #[])) 4 = .bool true from e4)
          clear hK hC hW hL HV s0
          rw [HFR.out]
          rw [e4]
          clear e4
          go_wp2_with fail
          show K _ _
          have := H.out _ (Ext.refl _)
          rw [HFR.out] at this
          obtain u4 := HU.out
          rw [u4] at this
          exact this
        · rintro L A W K hL hC hW ⟨V, rfl, HV, s0⟩ hK
          have e4 : V 4 = .bool true := HV 4 _ rfl (hW 4 rfl)
          have H := Lib.hid (show ∀ W', Ext W W' → K (fr (upd V 6 (.slice (some ⟨bb, oo, none⟩) l.length c))) W' from fun W' he => hK _ _ ⟨upd V 6 (.slice (some ⟨bb, oo, none⟩) l.length c), rfl, HV.up 6 _ (fun x hx => Option.some.inj hx), SrP.ext s0 he⟩)
          have HU := Lib.hid (show (upd V 6 (.slice (some ⟨bb, oo, none⟩) l.length c)) 4 = .bool true from e4)
          clear hK hC hW hL HV s0
          rw [HFR.out]
          rw [e4]
          clear e4
          go_wp2_with fail
          show K _ _
          have := H.out _ (Ext.refl _)
          rw [HFR.out] at this
          obtain u4 := HU.out
          rw [u4] at this
          exact this
        · rintro L A W K hL hC hW ⟨V, rfl, HV, s0⟩ hK
          have e4 : V 4 = .bool true := HV 4 _ rfl (hW 4 rfl)
          have H := Lib.hid (show ∀ W', Ext W W' → K (fr (upd V 7 (.int .i64 (i : Nat)))) W' from fun W' he => hK _ _ ⟨upd V 7 (.int .i64 (i : Nat)), rfl, HV.up 7 _ (fun x hx => Option.some.inj hx), SrP.ext s0 he⟩)
          have HU := Lib.hid (show (upd V 7 (.int .i64 (i : Nat))) 4 = .bool true from e4)
          clear hK hC hW hL HV s0
          rw [HFR.out]
          rw [e4]
          clear e4
          go_wp2_with fail
          show K _ _
          have := H.out _ (Ext.refl _)
          rw [HFR.out] at this
          obtain u4 := HU.out
          rw [u4] at this
          exact this
        · rintro L A W K hL hC hW ⟨V, rfl, HV, s0⟩ hK
          have e4 : V 4 = .bool true := HV 4 _ rfl (hW 4 rfl)
          have e6 : V 6 = .slice (some ⟨bb, oo, none⟩) l.length c := HV 6 _ rfl (hW 6 rfl)
          have e7 : V 7 = .int .i64 (i : Nat) := HV 7 _ rfl (hW 7 rfl)
          have H := Lib.hid (show ∀ W', Ext W W' → K (fr (upd V 8 (.pointer (some ⟨bb, oo + i * 9, none⟩)))) W' from fun W' he => hK _ _ ⟨upd V 8 (.pointer (some ⟨bb, oo + i * 9, none⟩)), rfl, HV.up 8 _ (fun x hx => Option.some.inj hx), SrP.ext s0 he⟩)
          have HU := Lib.hid (show (upd V 8 (.pointer (some ⟨bb, oo + i * 9, none⟩))) 4 = .bool true ∧ (upd V 8 (.pointer (some ⟨bb, oo + i * 9, none⟩))) 6 = .slice (some ⟨bb, oo, none⟩) l.length c ∧ (upd V 8 (.pointer (some ⟨bb, oo + i * 9, none⟩))) 7 = .int .i64 (i : Nat) from ⟨e4, e6, e7⟩)
          clear hK hC hW hL HV s0
          rw [HFR.out]
          rw [e4, e6, e7]
          clear e4 e6 e7
          go_wp2_with fail
          show K _ _
          have := H.out _ (Ext.refl _)
          rw [HFR.out] at this
          obtain ⟨u4, u6, u7⟩ := HU.out
          rw [u4, u6, u7] at this
          exact this
        · rintro L A W K hL hC hW ⟨V, rfl, HV, s0⟩ hK
          have e4 : V 4 = .bool true := HV 4 _ rfl (hW 4 rfl)
          have e8 : V 8 = .pointer (some ⟨bb, oo + i * 9, none⟩) := HV 8 _ rfl (hW 8 rfl)
          have hB := s0
          have H := Lib.hid (show ∀ W', Ext W W' → K (fr (upd V 9 (.agg (cP p)))) W' from fun W' he => hK _ _ ⟨upd V 9 (.agg (cP p)), rfl, HV.up 9 _ (fun x hx => Option.some.inj hx), SrP.ext s0 he⟩)
          have HU := Lib.hid (show (upd V 9 (.agg (cP p))) 4 = .bool true ∧ (upd V 9 (.agg (cP p))) 8 = .pointer (some ⟨bb, oo + i * 9, none⟩) from ⟨e4, e8⟩)
          clear hK hC hW hL HV s0
          rw [HFR.out]
          rw [e4, e8]
          clear e4 e8
          have HWD := Lib.hid (fun (j : Nat) (z : Value) (hz : (cP p).toList[j]? = some z) => hB.2.cell (HR.out j z hz))
          clear hB
          refine wpList_loadP rfl (.tmp 43) rfl bb (oo + i * 9) p rfl HWD.out ?_
          show K _ _
          have := H.out _ (Ext.refl _)
          rw [HFR.out] at this
          obtain ⟨u4, u8⟩ := HU.out
          rw [u4, u8] at this
          exact this
        · rintro L A W K hL hC hW ⟨V, rfl, HV, s0⟩ hK
          have e4 : V 4 = .bool true := HV 4 _ rfl (hW 4 rfl)
          have hB := s0
          have H := Lib.hid (show ∀ W', Ext W W' → K (fr (upd V 10 (.agg (cP x)))) W' from fun W' he => hK _ _ ⟨upd V 10 (.agg (cP x)), rfl, HV.up 10 _ (fun x hx => Option.some.inj hx), SrP.ext s0 he⟩)
          have HU := Lib.hid (show (upd V 10 (.agg (cP x))) 4 = .bool true from e4)
          clear hK hC hW hL HV s0
          rw [HFR.out]
          rw [e4]
          clear e4
          have HWD := Lib.hid (Cs.rg hB.1)
          clear hB
          refine wpList_loadP rfl (.tmp 4) rfl g4 0 x rfl HWD.out ?_
          show K _ _
          have := H.out _ (Ext.refl _)
          rw [HFR.out] at this
          obtain u4 := HU.out
          rw [u4] at this
          exact this
        · rintro L A W K hL hC hW ⟨V, rfl, HV, s0⟩ hK
          have e4 : V 4 = .bool true := HV 4 _ rfl (hW 4 rfl)
          have e5 : V 5 = .func (.func 33) #[] #[] := HV 5 _ rfl (hW 5 rfl)
          have e9 : V 9 = .agg (cP p) := HV 9 _ rfl (hW 9 rfl)
          have e10 : V 10 = .agg (cP x) := HV 10 _ rfl (hW 10 rfl)
          have hB := s0
          have H := Lib.hid (show ∀ W', Ext W W' → K (fr (upd V 11 (.int .i64 r))) W' from fun W' he => hK _ _ ⟨upd V 11 (.int .i64 r), rfl, HV.up 11 _ (fun x hx => Option.some.inj hx), SrP.ext s0 he⟩)
          have HU := Lib.hid (show (upd V 11 (.int .i64 r)) 4 = .bool true ∧ (upd V 11 (.int .i64 r)) 5 = .func (.func 33) #[] #[] ∧ (upd V 11 (.int .i64 r)) 9 = .agg (cP p) ∧ (upd V 11 (.int .i64 r)) 10 = .agg (cP x) from ⟨e4, e5, e9, e10⟩)
          clear hK hC hW hL HV s0
          rw [HFR.out]
          rw [e4, e5, e9, e10]
          clear e4 e5 e9 e10
          clear hB
          go_wp2_with fail
          refine (HC.out _).mono ?_
          rintro e wx ⟨rfl, he⟩
          have := H.out _ he
          clear H
          go_wp2_with fail
          show K _ _
          rw [HFR.out] at this
          obtain ⟨u4, u5, u9, u10⟩ := HU.out
          rw [u4, u5, u9, u10] at this
          exact this
        · rintro L A W K hL hC hW ⟨V, rfl, HV, s0⟩ hK
          have e4 : V 4 = .bool true := HV 4 _ rfl (hW 4 rfl)
          have e11 : V 11 = .int .i64 r := HV 11 _ rfl (hW 11 rfl)
          have H := Lib.hid (show ∀ W', Ext W W' → K (fr (upd V 12 (.bool rb))) W' from fun W' he => hK _ _ ⟨upd V 12 (.bool rb), rfl, HV.up 12 _ (fun x hx => Option.some.inj hx), SrP.ext s0 he⟩)
          have HU := Lib.hid (show (upd V 12 (.bool rb)) 4 = .bool true ∧ (upd V 12 (.bool rb)) 11 = .int .i64 r from ⟨e4, e11⟩)
          clear hK hC hW hL HV s0
          rw [HFR.out]
          rw [e4, e11]
          clear e4 e11
          go_wp2_with fail
          rw [HRB.out]
          show K _ _
          have := H.out _ (Ext.refl _)
          rw [HFR.out] at this
          obtain ⟨u4, u11⟩ := HU.out
          rw [u4, u11] at this
          exact this
        · rintro L A W K hL hC hW ⟨V, rfl, HV, s0⟩ hK
          have e4 : V 4 = .bool true := HV 4 _ rfl (hW 4 rfl)
          have e12 : V 12 = .bool rb := HV 12 _ rfl (hW 12 rfl)
          have H := Lib.hid (show ∀ W', Ext W W' → K (fr (upd V 13 (.bool rb))) W' from fun W' he => hK _ _ ⟨upd V 13 (.bool rb), rfl, HV.up 13 _ (fun x hx => Option.some.inj hx), SrP.ext s0 he⟩)
          have HU := Lib.hid (show (upd V 13 (.bool rb)) 4 = .bool true ∧ (upd V 13 (.bool rb)) 12 = .bool rb from ⟨e4, e12⟩)
          clear hK hC hW hL HV s0
          rw [HFR.out]
          rw [e4, e12]
          clear e4 e12
          go_wp2_with fail
          show K _ _
          have := H.out _ (Ext.refl _)
          rw [HFR.out] at this
          obtain ⟨u4, u12⟩ := HU.out
          rw [u4, u12] at this
          exact this
        · rintro L A W K hL hC hW ⟨V, rfl, HV, s0⟩ hK
          have e0 : V 0 = .int .i64 (i : Nat) := HV 0 _ rfl (hW 0 rfl)
          have H := Lib.hid (show ∀ W', Ext W W' → K (fr (upd V 14 (.int .i64 (i : Nat)))) W' from fun W' he => hK _ _ ⟨upd V 14 (.int .i64 (i : Nat)), rfl, HV.up 14 _ (fun x hx => Option.some.inj hx), SrP.ext s0 he⟩)
          have HU := Lib.hid (show (upd V 14 (.int .i64 (i : Nat))) 0 = .int .i64 (i : Nat) from e0)
          clear hK hC hW hL HV s0
          rw [HFR.out]
          rw [e0]
          clear e0
          go_wp2_with fail
          show K _ _
          have := H.out _ (Ext.refl _)
          rw [HFR.out] at this
          obtain u0 := HU.out
          rw [u0] at this
          exact this
        · rintro L A W K hL hC hW ⟨V, rfl, HV, s0⟩ hK
          have e13 : V 13 = .bool rb := HV 13 _ rfl (hW 13 rfl)
          have H := Lib.hid (show ∀ W', Ext W W' → K (fr (upd V 15 (.bool rb))) W' from fun W' he => hK _ _ ⟨upd V 15 (.bool rb), rfl, HV.up 15 _ (fun x hx => Option.some.inj hx), SrP.ext s0 he⟩)
          have HU := Lib.hid (show (upd V 15 (.bool rb)) 13 = .bool rb from e13)
          clear hK hC hW hL HV s0
          rw [HFR.out]
          rw [e13]
          clear e13
          go_wp2_with fail
          show K _ _
          have := H.out _ (Ext.refl _)
          rw [HFR.out] at this
          obtain u13 := HU.out
          rw [u13] at this
          exact this
        · rintro L A W hL ⟨V, rfl, HV, s0⟩
          have e0 : V 0 = .int .i64 (i : Nat) := HV 0 _ rfl (hL 0 (by simp))
          have e1 : V 1 = .int .i64 (i : Nat) := HV 1 _ rfl (hL 1 (by simp))
          have e2 : V 2 = .int .i64 (l.length : Nat) := HV 2 _ rfl (hL 2 (by simp))
          have e3 : V 3 = .bool true := HV 3 _ rfl (hL 3 (by simp))
          have e4 : V 4 = .bool true := HV 4 _ rfl (hL 4 (by simp))
          have e5 : V 5 = .func (.func 33) #[] #[] := HV 5 _ rfl (hL 5 (by simp))
          have e6 : V 6 = .slice (some ⟨bb, oo, none⟩) l.length c := HV 6 _ rfl (hL 6 (by simp))
          have e7 : V 7 = .int .i64 (i : Nat) := HV 7 _ rfl (hL 7 (by simp))
          have e8 : V 8 = .pointer (some ⟨bb, oo + i * 9, none⟩) := HV 8 _ rfl (hL 8 (by simp))
          have e9 : V 9 = .agg (cP p) := HV 9 _ rfl (hL 9 (by simp))
          have e10 : V 10 = .agg (cP x) := HV 10 _ rfl (hL 10 (by simp))
          have e11 : V 11 = .int .i64 r := HV 11 _ rfl (hL 11 (by simp))
          have e12 : V 12 = .bool rb := HV 12 _ rfl (hL 12 (by simp))
          have e13 : V 13 = .bool rb := HV 13 _ rfl (hL 13 (by simp))
          have e14 : V 14 = .int .i64 (i : Nat) := HV 14 _ rfl (hL 14 (by simp))
          have e15 : V 15 = .bool rb := HV 15 _ rfl (hL 15 (by simp))
          have hA := s0
          rw [HFR.out]
          rw [e0, e1, e2, e3, e4, e5, e6, e7, e8, e9, e10, e11, e12, e13, e14, e15]
          clear hL HV HFR e0 e1 e2 e3 e4 e5 e6 e7 e8 e9 e10 e11 e12 e13 e14 e15 s0
          have HJA := Lib.hid hA.2
          clear hA
          go_wp2_with fail
          refine bodyPost_ret (results_tmp2 rfl _ _ _) rfl ?_
          exact ⟨by rw [HF.out]; rfl, HJA.out⟩
      · have hd3 : decide (i < l.length) = false := decide_eq_false hil
        have hd4 : decide ((i : Int) < (l.length : Int)) = false := decide_eq_false (by omega)
        have HF := Lib.hid (show hn = false by rw [HHK.out, hd3]; rfl)
        clear HPL HHK
        go_upto_region 8 with fail
        refine wp_named fun a0 ha0 => ?_
        obtain ⟨fr, hfr⟩ : ∃ fr : (Nat → Value) → Act, ∀ V, fr V = ((((((((((((((((a0.put (some 35) (V 0)).put (some 36) (V 1)).put (some 37) (V 2)).put (some 38) (V 3)).put (some 39) (V 4)).put (some 40) (V 5)).put (some 41) (V 6)).put (some 42) (V 7)).put (some 43) (V 8)).put (some 44) (V 9)).put (some 45) (V 10)).put (some 46) (V 11)).put (some 47) (V 12)).put (some 48) (V 13)).put (some 6) (V 14)).put (some 7) (V 15)) := ⟨fun V => ((((((((((((((((a0.put (some 35) (V 0)).put (some 36) (V 1)).put (some 37) (V 2)).put (some 38) (V 3)).put (some 39) (V 4)).put (some 40) (V 5)).put (some 41) (V 6)).put (some 42) (V 7)).put (some 43) (V 8)).put (some 44) (V 9)).put (some 45) (V 10)).put (some 46) (V 11)).put (some 47) (V 12)).put (some 48) (V 13)).put (some 6) (V 14)).put (some 7) (V 15)), fun _ => rfl⟩
        rw [ha0] at hfr
        simp only [Act.put, List.setIfInBounds_toArray, List.set_cons_zero, List.set_cons_succ] at hfr
        have HFR := Lib.hid hfr
        clear hfr
        refine wp_region_inv (by kernel_rfl) (by kernel_rfl) (fun L A W => ∃ V : Nat → Value, A = fr V ∧ Vals (fun j => ([some (.int .i64 (i : Nat)), some (.int .i64 (i : Nat)), some (.int .i64 (l.length : Nat)), some (.bool false), some (.bool false), some (undef), some (undef), some (undef), some (undef), some (undef), some (undef), some (undef), some (undef), some (.bool false), some (.int .i64 (i : Nat)), some (.bool false)] : List (Option Value)).getD j none) L V ∧ (SrP w g4 x W)) ?_ ⟨?_, ?_, ?_, ?_, ?_, ?_, ?_, ?_, ?_, ?_, ?_, ?_, ?_, ?_, ?_, ?_, trivial⟩ ?_
        · refine ⟨fun j => a0.tmps.getD (([35, 36, 37, 38, 39, 40, 41, 42, 43, 44, 45, 46, 47, 48, 6, 7] : List Nat).getD j 0) undef, ?_, Vals.no _ _ _ (far_none _ _ rfl), HJ.out.ext (Ext.refl _).drew⟩
          rw [HFR.out, ha0]
          rfl
        all_goals clear ha0
        · rintro L A W K hL hC hW ⟨V, rfl, HV, s0⟩ hK
          have H := Lib.hid (show ∀ W', Ext W W' → K (fr (upd V 0 (.int .i64 (i : Nat)))) W' from fun W' he => hK _ _ ⟨upd V 0 (.int .i64 (i : Nat)), rfl, HV.up 0 _ (fun x hx => Option.some.inj hx), SrP.ext s0 he⟩)
          clear hK hC hW hL HV s0
          rw [HFR.out]
          go_wp2_with fail
          show K _ _
          have := H.out _ (Ext.refl _)
          rw [HFR.out] at this
          exact this
        · rintro L A W K hL hC hW ⟨V, rfl, HV, s0⟩ hK
          have H := Lib.hid (show ∀ W', Ext W W' → K (fr (upd V 1 (.int .i64 (i : Nat)))) W' from fun W' he => hK _ _ ⟨upd V 1 (.int .i64 (i : Nat)), rfl, HV.up 1 _ (fun x hx => Option.some.inj hx), SrP.ext s0 he⟩)
          clear hK hC hW hL HV s0
          rw [HFR.out]
          go_wp2_with fail
          show K _ _
          have := H.out _ (Ext.refl _)
          rw [HFR.out] at this
          exact this
        · rintro L A W K hL hC hW ⟨V, rfl, HV, s0⟩ hK
          have H := Lib.hid (show ∀ W', Ext W W' → K (fr (upd V 2 (.int .i64 (l.length : Nat)))) W' from fun W' he => hK _ _ ⟨upd V 2 (.int .i64 (l.length : Nat)), rfl, HV.up 2 _ (fun x hx => Option.some.inj hx), SrP.ext s0 he⟩)
          clear hK hC hW hL HV s0
          rw [HFR.out]
          go_wp2_with fail
          show K _ _
          have := H.out _ (Ext.refl _)
          rw [HFR.out] at this
          exact this
        · rintro L A W K hL hC hW ⟨V, rfl, HV, s0⟩ hK
          have e1 : V 1 = .int .i64 (i : Nat) := HV 1 _ rfl (hW 1 rfl)
          have e2 : V 2 = .int .i64 (l.length : Nat) := HV 2 _ rfl (hW 2 rfl)
          have H := Lib.hid (show ∀ W', Ext W W' → K (fr (upd V 3 (.bool false))) W' from fun W' he => hK _ _ ⟨upd V 3 (.bool false), rfl, HV.up 3 _ (fun x hx => Option.some.inj hx), SrP.ext s0 he⟩)
          have HU := Lib.hid (show (upd V 3 (.bool false)) 1 = .int .i64 (i : Nat) ∧ (upd V 3 (.bool false)) 2 = .int .i64 (l.length : Nat) from ⟨e1, e2⟩)
          clear hK hC hW hL HV s0
          rw [HFR.out]
          rw [e1, e2]
          clear e1 e2
          go_wp2_with fail
          show K _ _
          have := H.out _ (Ext.refl _)
          rw [HFR.out] at this
          obtain ⟨u1, u2⟩ := HU.out
          rw [u1, u2] at this
          exact this
        · rintro L A W K hL hC hW ⟨V, rfl, HV, s0⟩ hK
          have e3 : V 3 = .bool false := HV 3 _ rfl (hW 3 rfl)
          have H := Lib.hid (show ∀ W', Ext W W' → K (fr (upd V 4 (.bool false))) W' from fun W' he => hK _ _ ⟨upd V 4 (.bool false), rfl, HV.up 4 _ (fun x hx => Option.some.inj hx), SrP.ext s0 he⟩)
          have HU := Lib.hid (show (upd V 4 (.bool false)) 3 = .bool false from e3)
          clear hK hC hW hL HV s0
          rw [HFR.out]
          rw [e3]
          clear e3
          go_wp2_with fail
          show K _ _
          have := H.out _ (Ext.refl _)
          rw [HFR.out] at this
          obtain u3 := HU.out
          rw [u3] at this
          exact this
        · rintro L A W K hL hC hW ⟨V, rfl, HV, s0⟩ hK
          have e4 : V 4 = .bool false := HV 4 _ rfl (hW 4 rfl)
          have H := Lib.hid (show ∀ W', Ext W W' → K (fr (upd V 5 (undef))) W' from fun W' he => hK _ _ ⟨upd V 5 (undef), rfl, HV.up 5 _ (fun x hx => Option.some.inj hx), SrP.ext s0 he⟩)
          have HU := Lib.hid (show (upd V 5 (undef)) 4 = .bool false from e4)
          clear hK hC hW hL HV s0
          rw [HFR.out]
          rw [e4]
          clear e4
          go_wp2_with fail
          show K _ _
          have := H.out _ (Ext.refl _)
          rw [HFR.out] at this
          obtain u4 := HU.out
          rw [u4] at this
          exact this
        · rintro L A W K hL hC hW ⟨V, rfl, HV, s0⟩ hK
          have e4 : V 4 = .bool false := HV 4 _ rfl (hW 4 rfl)
          have H := Lib.hid (show ∀ W', Ext W W' → K (fr (upd V 6 (undef))) W' from fun W' he => hK _ _ ⟨upd V 6 (undef), rfl, HV.up 6 _ (fun x hx => Option.some.inj hx), SrP.ext s0 he⟩)
          have HU := Lib.hid (show (upd V 6 (undef)) 4 = .bool false from e4)
          clear hK hC hW hL HV s0
          rw [HFR.out]
          rw [e4]
          clear e4
          go_wp2_with fail
          show K _ _
          have := H.out _ (Ext.refl _)
          rw [HFR.out] at this
          obtain u4 := HU.out
          rw [u4] at this
          exact this
        · rintro L A W K hL hC hW ⟨V, rfl, HV, s0⟩ hK
          have e4 : V 4 = .bool false := HV 4 _ rfl (hW 4 rfl)
          have H := Lib.hid (show ∀ W', Ext W W' → K (fr (upd V 7 (undef))) W' from fun W' he => hK _ _ ⟨upd V 7 (undef), rfl, HV.up 7 _ (fun x hx => Option.some.inj hx), SrP.ext s0 he⟩)
          have HU := Lib.hid (show (upd V 7 (undef)) 4 = .bool false from e4)
          clear hK hC hW hL HV s0
          rw [HFR.out]
          rw [e4]
          clear e4
          go_wp2_with fail
          show K _ _
          have := H.out _ (Ext.refl _)
          rw [HFR.out] at this
          obtain u4 := HU.out
          rw [u4] at this
          exact this
        · rintro L A W K hL hC hW ⟨V, rfl, HV, s0⟩ hK
          have e4 : V 4 = .bool false := HV 4 _ rfl (hW 4 rfl)
          have e6 : V 6 = undef := HV 6 _ rfl (hW 6 rfl)
          have e7 : V 7 = undef := HV 7 _ rfl (hW 7 rfl)
          have H := Lib.hid (show ∀ W', Ext W W' → K (fr (upd V 8 (undef))) W' from fun W' he => hK _ _ ⟨upd V 8 (undef), rfl, HV.up 8 _ (fun x hx => Option.some.inj hx), SrP.ext s0 he⟩)
          have HU := Lib.hid (show (upd V 8 (undef)) 4 = .bool false ∧ (upd V 8 (undef)) 6 = undef ∧ (upd V 8 (undef)) 7 = undef from ⟨e4, e6, e7⟩)
          clear hK hC hW hL HV s0
          rw [HFR.out]
          rw [e4, e6, e7]
          clear e4 e6 e7
          go_wp2_with fail
          show K _ _
          have := H.out _ (Ext.refl _)
          rw [HFR.out] at this
          obtain ⟨u4, u6, u7⟩ := HU.out
          rw [u4, u6, u7] at this
          exact this
        · rintro L A W K hL hC hW ⟨V, rfl, HV, s0⟩ hK
          have e4 : V 4 = .bool false := HV 4 _ rfl (hW 4 rfl)
          have e8 : V 8 = undef := HV 8 _ rfl (hW 8 rfl)
          have H := Lib.hid (show ∀ W', Ext W W' → K (fr (upd V 9 (undef))) W' from fun W' he => hK _ _ ⟨upd V 9 (undef), rfl, HV.up 9 _ (fun x hx => Option.some.inj hx), SrP.ext s0 he⟩)
          have HU := Lib.hid (show (upd V 9 (undef)) 4 = .bool false ∧ (upd V 9 (undef)) 8 = undef from ⟨e4, e8⟩)
          clear hK hC hW hL HV s0
          rw [HFR.out]
          rw [e4, e8]
          clear e4 e8
          go_wp2_with fail
          show K _ _
          have := H.out _ (Ext.refl _)
          rw [HFR.out] at this
          obtain ⟨u4, u8⟩ := HU.out
          rw [u4, u8] at this
          exact this
        · rintro L A W K hL hC hW ⟨V, rfl, HV, s0⟩ hK
          have e4 : V 4 = .bool false := HV 4 _ rfl (hW 4 rfl)
          have H := Lib.hid (show ∀ W', Ext W W' → K (fr (upd V 10 (undef))) W' from fun W' he => hK _ _ ⟨upd V 10 (undef), rfl, HV.up 10 _ (fun x hx => Option.some.inj hx), SrP.ext s0 he⟩)
          have HU := Lib.hid (show (upd V 10 (undef)) 4 = .bool false from e4)
          clear hK hC hW hL HV s0
          rw [HFR.out]
          rw [e4]
          clear e4
          go_wp2_with fail
          show K _ _
          have := H.out _ (Ext.refl _)
          rw [HFR.out] at this
          obtain u4 := HU.out
          rw [u4] at this
          exact this
        · rintro L A W K hL hC hW ⟨V, rfl, HV, s0⟩ hK
          have e4 : V 4 = .bool false := HV 4 _ rfl (hW 4 rfl)
          have e5 : V 5 = undef := HV 5 _ rfl (hW 5 rfl)
          have e9 : V 9 = undef := HV 9 _ rfl (hW 9 rfl)
          have e10 : V 10 = undef := HV 10 _ rfl (hW 10 rfl)
          have H := Lib.hid (show ∀ W', Ext W W' → K (fr (upd V 11 (undef))) W' from fun W' he => hK _ _ ⟨upd V 11 (undef), rfl, HV.up 11 _ (fun x hx => Option.some.inj hx), SrP.ext s0 he⟩)
          have HU := Lib.hid (show (upd V 11 (undef)) 4 = .bool false ∧ (upd V 11 (undef)) 5 = undef ∧ (upd V 11 (undef)) 9 = undef ∧ (upd V 11 (undef)) 10 = undef from ⟨e4, e5, e9, e10⟩)
          clear hK hC hW hL HV s0
          rw [HFR.out]
          rw [e4, e5, e9, e10]
          clear e4 e5 e9 e10
          go_wp2_with fail
          show K _ _
          have := H.out _ (Ext.refl _)
          rw [HFR.out] at this
          obtain ⟨u4, u5, u9, u10⟩ := HU.out
          rw [u4, u5, u9, u10] at this
          exact this
        · rintro L A W K hL hC hW ⟨V, rfl, HV, s0⟩ hK
          have e4 : V 4 = .bool false := HV 4 _ rfl (hW 4 rfl)
          have e11 : V 11 = undef := HV 11 _ rfl (hW 11 rfl)
          have H := Lib.hid (show ∀ W', Ext W W' → K (fr (upd V 12 (undef))) W' from fun W' he => hK _ _ ⟨upd V 12 (undef), rfl, HV.up 12 _ (fun x hx => Option.some.inj hx), SrP.ext s0 he⟩)
          have HU := Lib.hid (show (upd V 12 (undef)) 4 = .bool false ∧ (upd V 12 (undef)) 11 = undef from ⟨e4, e11⟩)
          clear hK hC hW hL HV s0
          rw [HFR.out]
          rw [e4, e11]
          clear e4 e11
          go_wp2_with fail
          show K _ _
          have := H.out _ (Ext.refl _)
          rw [HFR.out] at this
          obtain ⟨u4, u11⟩ := HU.out
          rw [u4, u11] at this
          exact this
        · rintro L A W K hL hC hW ⟨V, rfl, HV, s0⟩ hK
          have e4 : V 4 = .bool false := HV 4 _ rfl (hW 4 rfl)
          have e12 : V 12 = undef := HV 12 _ rfl (hW 12 rfl)
          have H := Lib.hid (show ∀ W', Ext W W' → K (fr (upd V 13 (.bool false))) W' from fun W' he => hK _ _ ⟨upd V 13 (.bool false), rfl, HV.up 13 _ (fun x hx => Option.some.inj hx), SrP.ext s0 he⟩)
          have HU := Lib.hid (show (upd V 13 (.bool false)) 4 = .bool false ∧ (upd V 13 (.bool false)) 12 = undef from ⟨e4, e12⟩)
          clear hK hC hW hL HV s0
          rw [HFR.out]
          rw [e4, e12]
          clear e4 e12
          go_wp2_with fail
          show K _ _
          have := H.out _ (Ext.refl _)
          rw [HFR.out] at this
          obtain ⟨u4, u12⟩ := HU.out
          rw [u4, u12] at this
          exact this
        · rintro L A W K hL hC hW ⟨V, rfl, HV, s0⟩ hK
          have e0 : V 0 = .int .i64 (i : Nat) := HV 0 _ rfl (hW 0 rfl)
          have H := Lib.hid (show ∀ W', Ext W W' → K (fr (upd V 14 (.int .i64 (i : Nat)))) W' from fun W' he => hK _ _ ⟨upd V 14 (.int .i64 (i : Nat)), rfl, HV.up 14 _ (fun x hx => Option.some.inj hx), SrP.ext s0 he⟩)
          have HU := Lib.hid (show (upd V 14 (.int .i64 (i : Nat))) 0 = .int .i64 (i : Nat) from e0)
          clear hK hC hW hL HV s0
          rw [HFR.out]
          rw [e0]
          clear e0
          go_wp2_with fail
          show K _ _
          have := H.out _ (Ext.refl _)
          rw [HFR.out] at this
          obtain u0 := HU.out
          rw [u0] at this
          exact this
        · rintro L A W K hL hC hW ⟨V, rfl, HV, s0⟩ hK
          have e13 : V 13 = .bool false := HV 13 _ rfl (hW 13 rfl)
          have H := Lib.hid (show ∀ W', Ext W W' → K (fr (upd V 15 (.bool false))) W' from fun W' he => hK _ _ ⟨upd V 15 (.bool false), rfl, HV.up 15 _ (fun x hx => Option.some.inj hx), SrP.ext s0 he⟩)
          have HU := Lib.hid (show (upd V 15 (.bool false)) 13 = .bool false from e13)
          clear hK hC hW hL HV s0
          rw [HFR.out]
          rw [e13]
          clear e13
          go_wp2_with fail
          show K _ _
          have := H.out _ (Ext.refl _)
          rw [HFR.out] at this
          obtain u13 := HU.out
          rw [u13] at this
          exact this
        · rintro L A W hL ⟨V, rfl, HV, s0⟩
          have e0 : V 0 = .int .i64 (i : Nat) := HV 0 _ rfl (hL 0 (by simp))
          have e1 : V 1 = .int .i64 (i : Nat) := HV 1 _ rfl (hL 1 (by simp))
          have e2 : V 2 = .int .i64 (l.length : Nat) := HV 2 _ rfl (hL 2 (by simp))
          have e3 : V 3 = .bool false := HV 3 _ rfl (hL 3 (by simp))
          have e4 : V 4 = .bool false := HV 4 _ rfl (hL 4 (by simp))
          have e5 : V 5 = undef := HV 5 _ rfl (hL 5 (by simp))
          have e6 : V 6 = undef := HV 6 _ rfl (hL 6 (by simp))
          have e7 : V 7 = undef := HV 7 _ rfl (hL 7 (by simp))
          have e8 : V 8 = undef := HV 8 _ rfl (hL 8 (by simp))
          have e9 : V 9 = undef := HV 9 _ rfl (hL 9 (by simp))
          have e10 : V 10 = undef := HV 10 _ rfl (hL 10 (by simp))
          have e11 : V 11 = undef := HV 11 _ rfl (hL 11 (by simp))
          have e12 : V 12 = undef := HV 12 _ rfl (hL 12 (by simp))
          have e13 : V 13 = .bool false := HV 13 _ rfl (hL 13 (by simp))
          have e14 : V 14 = .int .i64 (i : Nat) := HV 14 _ rfl (hL 14 (by simp))
          have e15 : V 15 = .bool false := HV 15 _ rfl (hL 15 (by simp))
          have hA := s0
          rw [HFR.out]
          rw [e0, e1, e2, e3, e4, e5, e6, e7, e8, e9, e10, e11, e12, e13, e14, e15]
          clear hL HV HFR e0 e1 e2 e3 e4 e5 e6 e7 e8 e9 e10 e11 e12 e13 e14 e15 s0
          have HJA := Lib.hid hA.2
          clear hA
          go_wp2_with fail
          refine bodyPost_ret (results_tmp2 rfl _ _ _) rfl ?_
          exact ⟨by rw [HF.out]; rfl, HJA.out⟩
end Go.Proofs.Ytjampleddeidaaa
