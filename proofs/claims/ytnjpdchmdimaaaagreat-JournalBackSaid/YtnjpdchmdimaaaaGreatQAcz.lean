/- Package access: Same. -/
import Derived.Test.YtnjpdchmdimaaaaGreatQAcq
namespace Go.Proofs.YtnjpdchmdimaaaaGreat
open Go.ChangeShapes Go.WideShapes Go.ChangeAt Go.RowKit Go.Shelf

theorem eq_addr {p q : Pe} (hp : okA p) (hq : okA q) (h : p.addr = q.addr) : p = q := by
 obtain ⟨a, k, v⟩ := p
 obtain ⟨b, j, u⟩ := q
 obtain ⟨_, h1, h2⟩ := hp
 obtain ⟨_, h3, h4⟩ := hq
 simp only at h h1 h2 h3 h4
 rw [h, h1, h2, h3, h4]
theorem eq_spot {p q : Pe} (hp : okS p) (hq : okS q) (h : p.eqS q = true) : p = q := by
 obtain ⟨a, k, v⟩ := p
 obtain ⟨b, j, u⟩ := q
 obtain ⟨_, _, h2⟩ := hp
 obtain ⟨_, _, h4⟩ := hq
 unfold Pe.eqS at h
 simp only [Bool.and_eq_true, beq_iff_eq] at h h2 h4
 rw [h.1, h.2, h2, h4]
theorem Pe.eqS_self (p : Pe) : p.eqS p = true := by unfold Pe.eqS; rw [beq_self_eq_true, beq_self_eq_true]; rfl
set_option maxRecDepth 100000 in
set_option maxHeartbeats 4000000 in
theorem eqRowA_any (v u : Value) (l m : List Pe) (w : World) (hs : XA w v l) (ht : XA w u m) : Calls Tryz.prog 96 #[v, u] w fun e w' => e = .returned (.bool (decide (l = m))) ∧ Ext w w' := by
 have HS := Lib.hid hs
 have HT := Lib.hid ht
 obtain ⟨A1, c1, rfl, h1, h2⟩ := hs.len
 obtain ⟨A2, c2, rfl, h3, h4⟩ := ht.len
 unfold maxLen at h2 h4
 clear hs ht
 go_enter Tryz.func96, Tryz.ntmps96
 by_cases hl : l.length = m.length
 case neg =>
  have HF : Hid (decide (l = m) = false) := Lib.hid (decide_eq_false (fun e => hl (by rw [e])))
  have e1 : ((l.length : Int) != (m.length : Int)) = true := by rw [bne_iff_ne]; omega
  have e2 : ((l.length : Int) == (m.length : Int)) = false := by rw [beq_eq_false_iff_ne]; omega
  clear hl
  go_wp2_with fail
  go_ret
  exact ⟨by rw [HF.out]; rfl, Ext.refl _⟩
 have e1 : ((l.length : Int) != (m.length : Int)) = false := by rw [bne_eq_false_iff_eq]; omega
 have e2 : ((l.length : Int) == (m.length : Int)) = true := by rw [beq_iff_eq]; omega
 have HL := Lib.hid hl
 clear hl
 go_wp2_with fail
 clear e1 e2
 go_loopw [13] (fun iv wr => ∃ k : Nat, k ≤ l.length ∧ iv = .int .i64 k ∧ Hid ((∀ i, i < k → l.getD i pz0 = m.getD i pz0) ∧ Ext w wr)) (fun iv _ => l.length - (intOf iv).toNat)
 case atStart => exact ⟨0, by omega, rfl, Lib.hid ⟨fun i hi => absurd hi (by omega), Ext.refl _⟩⟩
 case round =>
  obtain ⟨k, hk, rfl, HJ⟩ := hrel
  by_cases hlt : k < l.length
  ·have hd : decide (k < l.length) = true := decide_eq_true hlt
   have hd2 : decide ((k : Int) < (l.length : Int)) = true := decide_eq_true (by omega)
   have hlm : k < m.length := by have := HL.out; omega
   have hd3 : decide (k < m.length) = true := decide_eq_true hlm
   have hd4 : decide ((k : Int) < (m.length : Int)) = true := decide_eq_true (by omega)
   obtain ⟨bb, oo, rfl, hrg, hp⟩ := (HS.out.ext HJ.out.2).at k hlt
   obtain ⟨b2, o2, rfl, hrg2, hp2⟩ := (HT.out.ext HJ.out.2).at k hlm
   have HR := Lib.hid hrg
   have HR2 := Lib.hid hrg2
   have HPP := Lib.hid hp
   have HPQ := Lib.hid hp2
   have HX := Lib.hid HJ.out.2
   have HNX := Lib.hid (show l.getD k pz0 = m.getD k pz0 → ∀ i, i < k + 1 → l.getD i pz0 = m.getD i pz0 from fun h i hi => by
    rcases Nat.lt_or_ge i k with h1 | h1
    ·exact HJ.out.1 i h1
    ·obtain rfl : i = k := by omega
     exact h)
   have HNO := Lib.hid (show l.getD k pz0 ≠ m.getD k pz0 → decide (l = m) = false from fun h => decide_eq_false (fun e => h (by rw [e])))
   clear hrg hp hrg2 hp2 HJ
   generalize l.getD k pz0 = p at *
   generalize m.getD k pz0 = q at *
   obtain ⟨nb, hnb⟩ : ∃ nb, ((p.addr : Int) != (q.addr : Int)) = nb := ⟨_, rfl⟩
   have HNB := Lib.hid hnb
   have HYES := Lib.hid (show nb = true → p ≠ q from fun h e => by rw [← hnb, e] at h; simp at h)
   have HSAM := Lib.hid (show nb = false → p = q from fun h => eq_addr HPP.out HPQ.out (by rw [← hnb] at h; simp at h; omega))
   clear hnb
   go_upto_region 6 with fail
   refine wp_named fun a0 ha0 => ?_
   obtain ⟨fr, hfr⟩ : ∃ fr : (Nat → Value) → Act, ∀ V, fr V = (((((((((a0.put (some 16) (V 0)).put (some 17) (V 1)).put (some 18) (V 2)).put (some 19) (V 3)).put (some 20) (V 4)).put (some 21) (V 5)).put (some 22) (V 6)).put (some 23) (V 7)).put (some 24) (V 8)) := ⟨_, fun _ => rfl⟩
   rw [ha0] at hfr
   simp only [Act.put, List.setIfInBounds_toArray, List.set_cons_zero, List.set_cons_succ] at hfr
   have HFR := Lib.hid hfr
   clear hfr
   refine wp_region_inv (by kernel_rfl) (by kernel_rfl) (fun L A W => ∃ V : Nat → Value, A = fr V ∧ Vals (fun j => ([some (.slice (some ⟨bb, oo, none⟩) l.length c1), some (.int .i64 (k : Nat)), some (.pointer (some ⟨bb, oo + k, none⟩)), some (.int .u64 (p.addr : Nat)), some (.slice (some ⟨b2, o2, none⟩) m.length c2), some (.int .i64 (k : Nat)), some (.pointer (some ⟨b2, o2 + k, none⟩)), some (.int .u64 (q.addr : Nat)), some (.bool nb)] : List (Option Value)).getD j none) L V ∧ (Ext wr W)) ?_ ⟨?_, ?_, ?_, ?_, ?_, ?_, ?_, ?_, ?_, trivial⟩ ?_
   ·refine ⟨fun j => a0.tmps.getD (([16, 17, 18, 19, 20, 21, 22, 23, 24] : List Nat).getD j 0) undef, ?_, Vals.no _ _ _ (far_none _ _ rfl), (Ext.refl wr).drew⟩
    rw [HFR.out, ha0]
    rfl
   all_goals clear ha0
   ·rintro L A W K hL hC hW ⟨V, rfl, HV, s0⟩ hK
    have H := Lib.hid (show ∀ W', Ext W W' → K (fr (upd V 0 (.slice (some ⟨bb, oo, none⟩) l.length c1))) W' from fun W' he => hK _ _ ⟨_, rfl, HV.us 0 _ rfl, Ext.trans s0 he⟩)
    clear hK hC hW hL HV s0
    rw [HFR.out]
    go_wp2_with fail
    show K _ _; have := H.out _ (Ext.refl _); rw [HFR.out] at this
    exact this
   ·rintro L A W K hL hC hW ⟨V, rfl, HV, s0⟩ hK
    have H := Lib.hid (show ∀ W', Ext W W' → K (fr (upd V 1 (.int .i64 (k : Nat)))) W' from fun W' he => hK _ _ ⟨_, rfl, HV.us 1 _ rfl, Ext.trans s0 he⟩)
    clear hK hC hW hL HV s0
    rw [HFR.out]
    go_wp2_with fail
    show K _ _; have := H.out _ (Ext.refl _); rw [HFR.out] at this
    exact this
   ·rintro L A W K hL hC hW ⟨V, rfl, HV, s0⟩ hK
    have e0 := HV 0 _ rfl (hW 0 rfl)
    have e1 := HV 1 _ rfl (hW 1 rfl)
    have H := Lib.hid (show ∀ W', Ext W W' → K (fr (upd V 2 (.pointer (some ⟨bb, oo + k, none⟩)))) W' from fun W' he => hK _ _ ⟨_, rfl, HV.us 2 _ rfl, Ext.trans s0 he⟩)
    have HU := Lib.hid (show (upd V 2 (.pointer (some ⟨bb, oo + k, none⟩))) 0 = .slice (some ⟨bb, oo, none⟩) l.length c1 ∧ (upd V 2 (.pointer (some ⟨bb, oo + k, none⟩))) 1 = .int .i64 (k : Nat) from ⟨e0, e1⟩)
    clear hK hC hW hL HV s0
    rw [HFR.out, e0, e1]
    clear e0 e1
    go_wp2_with fail
    show K _ _; have := H.out _ (Ext.refl _); rw [HFR.out] at this
    obtain ⟨u0, u1⟩ := HU.out
    rw [u0, u1] at this
    exact this
   ·rintro L A W K hL hC hW ⟨V, rfl, HV, s0⟩ hK
    have e2 := HV 2 _ rfl (hW 2 rfl)
    have hB := s0
    have H := Lib.hid (show ∀ W', Ext W W' → K (fr (upd V 3 (.int .u64 (p.addr : Nat)))) W' from fun W' he => hK _ _ ⟨_, rfl, HV.us 3 _ rfl, Ext.trans s0 he⟩)
    have HU := Lib.hid (show (upd V 3 (.int .u64 (p.addr : Nat))) 2 = .pointer (some ⟨bb, oo + k, none⟩) from e2)
    clear hK hC hW hL HV s0
    rw [HFR.out, e2]
    clear e2
    have hcl := hB.cell (ex_addr HR.out)
    clear hB
    go_wp2_with fail
    show K _ _; have := H.out _ (Ext.refl _); rw [HFR.out] at this
    obtain u2 := HU.out
    rw [u2] at this
    exact this
   ·rintro L A W K hL hC hW ⟨V, rfl, HV, s0⟩ hK
    have H := Lib.hid (show ∀ W', Ext W W' → K (fr (upd V 4 (.slice (some ⟨b2, o2, none⟩) m.length c2))) W' from fun W' he => hK _ _ ⟨_, rfl, HV.us 4 _ rfl, Ext.trans s0 he⟩)
    clear hK hC hW hL HV s0
    rw [HFR.out]
    go_wp2_with fail
    show K _ _; have := H.out _ (Ext.refl _); rw [HFR.out] at this
    exact this
   ·rintro L A W K hL hC hW ⟨V, rfl, HV, s0⟩ hK
    have H := Lib.hid (show ∀ W', Ext W W' → K (fr (upd V 5 (.int .i64 (k : Nat)))) W' from fun W' he => hK _ _ ⟨_, rfl, HV.us 5 _ rfl, Ext.trans s0 he⟩)
    clear hK hC hW hL HV s0
    rw [HFR.out]
    go_wp2_with fail
    show K _ _; have := H.out _ (Ext.refl _); rw [HFR.out] at this
    exact this
   ·rintro L A W K hL hC hW ⟨V, rfl, HV, s0⟩ hK
    have e4 := HV 4 _ rfl (hW 4 rfl)
    have e5 := HV 5 _ rfl (hW 5 rfl)
    have H := Lib.hid (show ∀ W', Ext W W' → K (fr (upd V 6 (.pointer (some ⟨b2, o2 + k, none⟩)))) W' from fun W' he => hK _ _ ⟨_, rfl, HV.us 6 _ rfl, Ext.trans s0 he⟩)
    have HU := Lib.hid (show (upd V 6 (.pointer (some ⟨b2, o2 + k, none⟩))) 4 = .slice (some ⟨b2, o2, none⟩) m.length c2 ∧ (upd V 6 (.pointer (some ⟨b2, o2 + k, none⟩))) 5 = .int .i64 (k : Nat) from ⟨e4, e5⟩)
    clear hK hC hW hL HV s0
    rw [HFR.out, e4, e5]
    clear e4 e5
    go_wp2_with fail
    show K _ _; have := H.out _ (Ext.refl _); rw [HFR.out] at this
    obtain ⟨u4, u5⟩ := HU.out
    rw [u4, u5] at this
    exact this
   ·rintro L A W K hL hC hW ⟨V, rfl, HV, s0⟩ hK
    have e6 := HV 6 _ rfl (hW 6 rfl)
    have hB := s0
    have H := Lib.hid (show ∀ W', Ext W W' → K (fr (upd V 7 (.int .u64 (q.addr : Nat)))) W' from fun W' he => hK _ _ ⟨_, rfl, HV.us 7 _ rfl, Ext.trans s0 he⟩)
    have HU := Lib.hid (show (upd V 7 (.int .u64 (q.addr : Nat))) 6 = .pointer (some ⟨b2, o2 + k, none⟩) from e6)
    clear hK hC hW hL HV s0
    rw [HFR.out, e6]
    clear e6
    have hcl := hB.cell (ex_addr HR2.out)
    clear hB
    go_wp2_with fail
    show K _ _; have := H.out _ (Ext.refl _); rw [HFR.out] at this
    obtain u6 := HU.out
    rw [u6] at this
    exact this
   ·rintro L A W K hL hC hW ⟨V, rfl, HV, s0⟩ hK
    have e3 := HV 3 _ rfl (hW 3 rfl)
    have e7 := HV 7 _ rfl (hW 7 rfl)
    have hB := s0
    have H := Lib.hid (show ∀ W', Ext W W' → K (fr (upd V 8 (.bool nb))) W' from fun W' he => hK _ _ ⟨_, rfl, HV.us 8 _ rfl, Ext.trans s0 he⟩)
    have HU := Lib.hid (show (upd V 8 (.bool nb)) 3 = .int .u64 (p.addr : Nat) ∧ (upd V 8 (.bool nb)) 7 = .int .u64 (q.addr : Nat) from ⟨e3, e7⟩)
    clear hK hC hW hL HV s0
    rw [HFR.out, e3, e7]
    clear e3 e7
    clear hB
    go_wp2_with fail
    rw [HNB.out]
    show K _ _; have := H.out _ (Ext.refl _); rw [HFR.out] at this
    obtain ⟨u3, u7⟩ := HU.out
    rw [u3, u7] at this
    exact this
   ·rintro L A W hL ⟨V, rfl, HV, s0⟩
    have e0 := HV 0 _ rfl (hL 0 (by simp))
    have e1 := HV 1 _ rfl (hL 1 (by simp))
    have e2 := HV 2 _ rfl (hL 2 (by simp))
    have e3 := HV 3 _ rfl (hL 3 (by simp))
    have e4 := HV 4 _ rfl (hL 4 (by simp))
    have e5 := HV 5 _ rfl (hL 5 (by simp))
    have e6 := HV 6 _ rfl (hL 6 (by simp))
    have e7 := HV 7 _ rfl (hL 7 (by simp))
    have e8 := HV 8 _ rfl (hL 8 (by simp))
    have hA := s0
    rw [HFR.out, e0, e1, e2, e3, e4, e5, e6, e7, e8]
    clear hL HV HFR e0 e1 e2 e3 e4 e5 e6 e7 e8 s0
    cases nb with
    | true =>
     have HF := Lib.hid (HNO.out (HYES.out rfl))
     go_wp2_with fail
     refine bodyPost_ret (results_tmp rfl _ _ _) rfl ?_
     exact ⟨by rw [HF.out]; rfl, HX.out.trans hA⟩
    | false =>
     have HN := Lib.hid (HNX.out (HSAM.out rfl))
     go_wp2_with fail
     exact ⟨⟨k + 1, by omega, by go_num, Lib.hid ⟨HN.out, HX.out.trans hA⟩⟩, by simp [intOf]; omega⟩
  ·obtain rfl : k = l.length := by omega
   have hd : decide (l.length < l.length) = false := decide_eq_false (by omega)
   have hd2 : decide ((l.length : Int) < (l.length : Int)) = false := decide_eq_false (by omega)
   have HF : Hid (decide (l = m) = true) := Lib.hid (decide_eq_true (by
    apply List.ext_getElem HL.out
    intro i hi hj
    have := HJ.out.1 i hi
    rwa [List.getD_eq_getElem?_getD, List.getD_eq_getElem?_getD, List.getElem?_eq_getElem hi, List.getElem?_eq_getElem hj] at this))
   go_wp2_with fail
   refine bodyPost_ret (results_tmp rfl _ _ _) rfl ?_
   exact ⟨by rw [HF.out]; rfl, HJ.out.2⟩
set_option maxRecDepth 100000 in
set_option maxHeartbeats 4000000 in
theorem eqRowS_any (v u : Value) (l m : List Pe) (w : World) (hs : XS w v l) (ht : XS w u m) : Calls Tryz.prog 97 #[v, u] w fun e w' => e = .returned (.bool (decide (l = m))) ∧ Ext w w' := by
 have HS := Lib.hid hs
 have HT := Lib.hid ht
 obtain ⟨A1, c1, rfl, h1, h2⟩ := hs.len
 obtain ⟨A2, c2, rfl, h3, h4⟩ := ht.len
 unfold maxLen at h2 h4
 clear hs ht
 go_enter Tryz.func97, Tryz.ntmps97
 by_cases hl : l.length = m.length
 case neg =>
  have HF : Hid (decide (l = m) = false) := Lib.hid (decide_eq_false (fun e => hl (by rw [e])))
  have e1 : ((l.length : Int) != (m.length : Int)) = true := by rw [bne_iff_ne]; omega
  have e2 : ((l.length : Int) == (m.length : Int)) = false := by rw [beq_eq_false_iff_ne]; omega
  clear hl
  go_wp2_with fail
  go_ret
  exact ⟨by rw [HF.out]; rfl, Ext.refl _⟩
 have e1 : ((l.length : Int) != (m.length : Int)) = false := by rw [bne_eq_false_iff_eq]; omega
 have e2 : ((l.length : Int) == (m.length : Int)) = true := by rw [beq_iff_eq]; omega
 have HL := Lib.hid hl
 clear hl
 go_wp2_with fail
 clear e1 e2
 go_loopw [13] (fun iv wr => ∃ k : Nat, k ≤ l.length ∧ iv = .int .i64 k ∧ Hid ((∀ i, i < k → l.getD i pz0 = m.getD i pz0) ∧ Ext w wr)) (fun iv _ => l.length - (intOf iv).toNat)
 case atStart => exact ⟨0, by omega, rfl, Lib.hid ⟨fun i hi => absurd hi (by omega), Ext.refl _⟩⟩
 case round =>
  obtain ⟨k, hk, rfl, HJ⟩ := hrel
  by_cases hlt : k < l.length
  ·have hd : decide (k < l.length) = true := decide_eq_true hlt
   have hd2 : decide ((k : Int) < (l.length : Int)) = true := decide_eq_true (by omega)
   have hlm : k < m.length := by have := HL.out; omega
   have hd3 : decide (k < m.length) = true := decide_eq_true hlm
   have hd4 : decide ((k : Int) < (m.length : Int)) = true := decide_eq_true (by omega)
   obtain ⟨bb, oo, rfl, hrg, hp⟩ := (HS.out.ext HJ.out.2).at k hlt
   obtain ⟨b2, o2, rfl, hrg2, hp2⟩ := (HT.out.ext HJ.out.2).at k hlm
   have HR := Lib.hid hrg
   have HR2 := Lib.hid hrg2
   have HPP := Lib.hid hp
   have HPQ := Lib.hid hp2
   have HX := Lib.hid HJ.out.2
   have HNX := Lib.hid (show l.getD k pz0 = m.getD k pz0 → ∀ i, i < k + 1 → l.getD i pz0 = m.getD i pz0 from fun h i hi => by
    rcases Nat.lt_or_ge i k with h1 | h1
    ·exact HJ.out.1 i h1
    ·obtain rfl : i = k := by omega
     exact h)
   have HNO := Lib.hid (show l.getD k pz0 ≠ m.getD k pz0 → decide (l = m) = false from fun h => decide_eq_false (fun e => h (by rw [e])))
   clear hrg hp hrg2 hp2 HJ
   generalize l.getD k pz0 = p at *
   generalize m.getD k pz0 = q at *
   obtain ⟨nb, hnb⟩ : ∃ nb, (!p.eqS q) = nb := ⟨_, rfl⟩
   have HNB := Lib.hid hnb
   have HYES := Lib.hid (show nb = true → p ≠ q from fun h e => by rw [← hnb, e, Pe.eqS_self] at h; cases h)
   have HSAM := Lib.hid (show nb = false → p = q from fun h => eq_spot HPP.out HPQ.out (by rw [← hnb, Bool.not_eq_false'] at h; exact h))
   clear hnb
   go_upto_region 6 with fail
   refine wp_named fun a0 ha0 => ?_
   obtain ⟨fr, hfr⟩ : ∃ fr : (Nat → Value) → Act, ∀ V, fr V = (((((((((a0.put (some 16) (V 0)).put (some 17) (V 1)).put (some 18) (V 2)).put (some 19) (V 3)).put (some 20) (V 4)).put (some 21) (V 5)).put (some 22) (V 6)).put (some 23) (V 7)).put (some 24) (V 8)) := ⟨_, fun _ => rfl⟩
   rw [ha0] at hfr
   simp only [Act.put, List.setIfInBounds_toArray, List.set_cons_zero, List.set_cons_succ] at hfr
   have HFR := Lib.hid hfr
   clear hfr
   refine wp_region_inv (by kernel_rfl) (by kernel_rfl) (fun L A W => ∃ V : Nat → Value, A = fr V ∧ Vals (fun j => ([some (.slice (some ⟨bb, oo, none⟩) l.length c1), some (.int .i64 (k : Nat)), some (.pointer (some ⟨bb, oo + k * 5, none⟩)), some (.agg (cS p)), some (.slice (some ⟨b2, o2, none⟩) m.length c2), some (.int .i64 (k : Nat)), some (.pointer (some ⟨b2, o2 + k * 5, none⟩)), some (.agg (cS q)), some (.bool nb)] : List (Option Value)).getD j none) L V ∧ (Ext wr W)) ?_ ⟨?_, ?_, ?_, ?_, ?_, ?_, ?_, ?_, ?_, trivial⟩ ?_
   ·refine ⟨fun j => a0.tmps.getD (([16, 17, 18, 19, 20, 21, 22, 23, 24] : List Nat).getD j 0) undef, ?_, Vals.no _ _ _ (far_none _ _ rfl), (Ext.refl wr).drew⟩
    rw [HFR.out, ha0]
    rfl
   all_goals clear ha0
   ·rintro L A W K hL hC hW ⟨V, rfl, HV, s0⟩ hK
    have H := Lib.hid (show ∀ W', Ext W W' → K (fr (upd V 0 (.slice (some ⟨bb, oo, none⟩) l.length c1))) W' from fun W' he => hK _ _ ⟨_, rfl, HV.us 0 _ rfl, Ext.trans s0 he⟩)
    clear hK hC hW hL HV s0
    rw [HFR.out]
    go_wp2_with fail
    show K _ _; have := H.out _ (Ext.refl _); rw [HFR.out] at this
    exact this
   ·rintro L A W K hL hC hW ⟨V, rfl, HV, s0⟩ hK
    have H := Lib.hid (show ∀ W', Ext W W' → K (fr (upd V 1 (.int .i64 (k : Nat)))) W' from fun W' he => hK _ _ ⟨_, rfl, HV.us 1 _ rfl, Ext.trans s0 he⟩)
    clear hK hC hW hL HV s0
    rw [HFR.out]
    go_wp2_with fail
    show K _ _; have := H.out _ (Ext.refl _); rw [HFR.out] at this
    exact this
   ·rintro L A W K hL hC hW ⟨V, rfl, HV, s0⟩ hK
    have e0 := HV 0 _ rfl (hW 0 rfl)
    have e1 := HV 1 _ rfl (hW 1 rfl)
    have H := Lib.hid (show ∀ W', Ext W W' → K (fr (upd V 2 (.pointer (some ⟨bb, oo + k * 5, none⟩)))) W' from fun W' he => hK _ _ ⟨_, rfl, HV.us 2 _ rfl, Ext.trans s0 he⟩)
    have HU := Lib.hid (show (upd V 2 (.pointer (some ⟨bb, oo + k * 5, none⟩))) 0 = .slice (some ⟨bb, oo, none⟩) l.length c1 ∧ (upd V 2 (.pointer (some ⟨bb, oo + k * 5, none⟩))) 1 = .int .i64 (k : Nat) from ⟨e0, e1⟩)
    clear hK hC hW hL HV s0
    rw [HFR.out, e0, e1]
    clear e0 e1
    go_wp2_with fail
    show K _ _; have := H.out _ (Ext.refl _); rw [HFR.out] at this
    obtain ⟨u0, u1⟩ := HU.out
    rw [u0, u1] at this
    exact this
   ·rintro L A W K hL hC hW ⟨V, rfl, HV, s0⟩ hK
    have e2 := HV 2 _ rfl (hW 2 rfl)
    have hB := s0
    have H := Lib.hid (show ∀ W', Ext W W' → K (fr (upd V 3 (.agg (cS p)))) W' from fun W' he => hK _ _ ⟨_, rfl, HV.us 3 _ rfl, Ext.trans s0 he⟩)
    have HU := Lib.hid (show (upd V 3 (.agg (cS p))) 2 = .pointer (some ⟨bb, oo + k * 5, none⟩) from e2)
    clear hK hC hW hL HV s0
    rw [HFR.out, e2]
    clear e2
    have HWW := Lib.hid (fun (y : Nat) (z : Value) (hz : (cS p).toList[y]? = some z) => hB.cell (HR.out y z hz))
    clear hB
    refine wpList_loadS rfl (.tmp 18) rfl bb (oo + k * 5) p rfl HWW.out ?_
    show K _ _; have := H.out _ (Ext.refl _); rw [HFR.out] at this
    obtain u2 := HU.out
    rw [u2] at this
    exact this
   ·rintro L A W K hL hC hW ⟨V, rfl, HV, s0⟩ hK
    have H := Lib.hid (show ∀ W', Ext W W' → K (fr (upd V 4 (.slice (some ⟨b2, o2, none⟩) m.length c2))) W' from fun W' he => hK _ _ ⟨_, rfl, HV.us 4 _ rfl, Ext.trans s0 he⟩)
    clear hK hC hW hL HV s0
    rw [HFR.out]
    go_wp2_with fail
    show K _ _; have := H.out _ (Ext.refl _); rw [HFR.out] at this
    exact this
   ·rintro L A W K hL hC hW ⟨V, rfl, HV, s0⟩ hK
    have H := Lib.hid (show ∀ W', Ext W W' → K (fr (upd V 5 (.int .i64 (k : Nat)))) W' from fun W' he => hK _ _ ⟨_, rfl, HV.us 5 _ rfl, Ext.trans s0 he⟩)
    clear hK hC hW hL HV s0
    rw [HFR.out]
    go_wp2_with fail
    show K _ _; have := H.out _ (Ext.refl _); rw [HFR.out] at this
    exact this
   ·rintro L A W K hL hC hW ⟨V, rfl, HV, s0⟩ hK
    have e4 := HV 4 _ rfl (hW 4 rfl)
    have e5 := HV 5 _ rfl (hW 5 rfl)
    have H := Lib.hid (show ∀ W', Ext W W' → K (fr (upd V 6 (.pointer (some ⟨b2, o2 + k * 5, none⟩)))) W' from fun W' he => hK _ _ ⟨_, rfl, HV.us 6 _ rfl, Ext.trans s0 he⟩)
    have HU := Lib.hid (show (upd V 6 (.pointer (some ⟨b2, o2 + k * 5, none⟩))) 4 = .slice (some ⟨b2, o2, none⟩) m.length c2 ∧ (upd V 6 (.pointer (some ⟨b2, o2 + k * 5, none⟩))) 5 = .int .i64 (k : Nat) from ⟨e4, e5⟩)
    clear hK hC hW hL HV s0
    rw [HFR.out, e4, e5]
    clear e4 e5
    go_wp2_with fail
    show K _ _; have := H.out _ (Ext.refl _); rw [HFR.out] at this
    obtain ⟨u4, u5⟩ := HU.out
    rw [u4, u5] at this
    exact this
   ·rintro L A W K hL hC hW ⟨V, rfl, HV, s0⟩ hK
    have e6 := HV 6 _ rfl (hW 6 rfl)
    have hB := s0
    have H := Lib.hid (show ∀ W', Ext W W' → K (fr (upd V 7 (.agg (cS q)))) W' from fun W' he => hK _ _ ⟨_, rfl, HV.us 7 _ rfl, Ext.trans s0 he⟩)
    have HU := Lib.hid (show (upd V 7 (.agg (cS q))) 6 = .pointer (some ⟨b2, o2 + k * 5, none⟩) from e6)
    clear hK hC hW hL HV s0
    rw [HFR.out, e6]
    clear e6
    have HWW := Lib.hid (fun (y : Nat) (z : Value) (hz : (cS q).toList[y]? = some z) => hB.cell (HR2.out y z hz))
    clear hB
    refine wpList_loadS rfl (.tmp 22) rfl b2 (o2 + k * 5) q rfl HWW.out ?_
    show K _ _; have := H.out _ (Ext.refl _); rw [HFR.out] at this
    obtain u6 := HU.out
    rw [u6] at this
    exact this
   ·rintro L A W K hL hC hW ⟨V, rfl, HV, s0⟩ hK
    have e3 := HV 3 _ rfl (hW 3 rfl)
    have e7 := HV 7 _ rfl (hW 7 rfl)
    have hB := s0
    have H := Lib.hid (show ∀ W', Ext W W' → K (fr (upd V 8 (.bool nb))) W' from fun W' he => hK _ _ ⟨_, rfl, HV.us 8 _ rfl, Ext.trans s0 he⟩)
    have HU := Lib.hid (show (upd V 8 (.bool nb)) 3 = .agg (cS p) ∧ (upd V 8 (.bool nb)) 7 = .agg (cS q) from ⟨e3, e7⟩)
    clear hK hC hW hL HV s0
    rw [HFR.out, e3, e7]
    clear e3 e7
    clear hB
    refine wpList_neqS rfl (.tmp 19) (.tmp 23) rfl p q HPP.out.2.1 HPQ.out.2.1 rfl rfl ?_
    rw [HNB.out]
    show K _ _; have := H.out _ (Ext.refl _); rw [HFR.out] at this
    obtain ⟨u3, u7⟩ := HU.out
    rw [u3, u7] at this
    exact this
   ·rintro L A W hL ⟨V, rfl, HV, s0⟩
    have e0 := HV 0 _ rfl (hL 0 (by simp))
    have e1 := HV 1 _ rfl (hL 1 (by simp))
    have e2 := HV 2 _ rfl (hL 2 (by simp))
    have e3 := HV 3 _ rfl (hL 3 (by simp))
    have e4 := HV 4 _ rfl (hL 4 (by simp))
    have e5 := HV 5 _ rfl (hL 5 (by simp))
    have e6 := HV 6 _ rfl (hL 6 (by simp))
    have e7 := HV 7 _ rfl (hL 7 (by simp))
    have e8 := HV 8 _ rfl (hL 8 (by simp))
    have hA := s0
    rw [HFR.out, e0, e1, e2, e3, e4, e5, e6, e7, e8]
    clear hL HV HFR e0 e1 e2 e3 e4 e5 e6 e7 e8 s0
    cases nb with
    | true =>
     have HF := Lib.hid (HNO.out (HYES.out rfl))
     go_wp2_with fail
     refine bodyPost_ret (results_tmp rfl _ _ _) rfl ?_
     exact ⟨by rw [HF.out]; rfl, HX.out.trans hA⟩
    | false =>
     have HN := Lib.hid (HNX.out (HSAM.out rfl))
     go_wp2_with fail
     exact ⟨⟨k + 1, by omega, by go_num, Lib.hid ⟨HN.out, HX.out.trans hA⟩⟩, by simp [intOf]; omega⟩
  ·obtain rfl : k = l.length := by omega
   have hd : decide (l.length < l.length) = false := decide_eq_false (by omega)
   have hd2 : decide ((l.length : Int) < (l.length : Int)) = false := decide_eq_false (by omega)
   have HF : Hid (decide (l = m) = true) := Lib.hid (decide_eq_true (by
    apply List.ext_getElem HL.out
    intro i hi hj
    have := HJ.out.1 i hi
    rwa [List.getD_eq_getElem?_getD, List.getD_eq_getElem?_getD, List.getElem?_eq_getElem hi, List.getElem?_eq_getElem hj] at this))
   go_wp2_with fail
   refine bodyPost_ret (results_tmp rfl _ _ _) rfl ?_
   exact ⟨by rw [HF.out]; rfl, HJ.out.2⟩
set_option maxRecDepth 100000 in
set_option maxHeartbeats 4000000 in
theorem eqRowP_any (v u : Value) (l m : List Pe) (w : World) (hs : XP w v l) (ht : XP w u m) : Calls Tryz.prog 98 #[v, u] w fun e w' => e = .returned (.bool (decide (l = m))) ∧ Ext w w' := by
 have HS := Lib.hid hs
 have HT := Lib.hid ht
 obtain ⟨A1, c1, rfl, h1, h2⟩ := hs.len
 obtain ⟨A2, c2, rfl, h3, h4⟩ := ht.len
 unfold maxLen at h2 h4
 clear hs ht
 go_enter Tryz.func98, Tryz.ntmps98
 by_cases hl : l.length = m.length
 case neg =>
  have HF : Hid (decide (l = m) = false) := Lib.hid (decide_eq_false (fun e => hl (by rw [e])))
  have e1 : ((l.length : Int) != (m.length : Int)) = true := by rw [bne_iff_ne]; omega
  have e2 : ((l.length : Int) == (m.length : Int)) = false := by rw [beq_eq_false_iff_ne]; omega
  clear hl
  go_wp2_with fail
  go_ret
  exact ⟨by rw [HF.out]; rfl, Ext.refl _⟩
 have e1 : ((l.length : Int) != (m.length : Int)) = false := by rw [bne_eq_false_iff_eq]; omega
 have e2 : ((l.length : Int) == (m.length : Int)) = true := by rw [beq_iff_eq]; omega
 have HL := Lib.hid hl
 clear hl
 go_wp2_with fail
 clear e1 e2
 go_loopw [13] (fun iv wr => ∃ k : Nat, k ≤ l.length ∧ iv = .int .i64 k ∧ Hid ((∀ i, i < k → l.getD i pz0 = m.getD i pz0) ∧ Ext w wr)) (fun iv _ => l.length - (intOf iv).toNat)
 case atStart => exact ⟨0, by omega, rfl, Lib.hid ⟨fun i hi => absurd hi (by omega), Ext.refl _⟩⟩
 case round =>
  obtain ⟨k, hk, rfl, HJ⟩ := hrel
  by_cases hlt : k < l.length
  ·have hd : decide (k < l.length) = true := decide_eq_true hlt
   have hd2 : decide ((k : Int) < (l.length : Int)) = true := decide_eq_true (by omega)
   have hlm : k < m.length := by have := HL.out; omega
   have hd3 : decide (k < m.length) = true := decide_eq_true hlm
   have hd4 : decide ((k : Int) < (m.length : Int)) = true := decide_eq_true (by omega)
   obtain ⟨bb, oo, rfl, hrg, hp⟩ := (HS.out.ext HJ.out.2).at k hlt
   obtain ⟨b2, o2, rfl, hrg2, hp2⟩ := (HT.out.ext HJ.out.2).at k hlm
   have HR := Lib.hid hrg
   have HR2 := Lib.hid hrg2
   have HPP := Lib.hid hp
   have HPQ := Lib.hid hp2
   have HX := Lib.hid HJ.out.2
   have HNX := Lib.hid (show l.getD k pz0 = m.getD k pz0 → ∀ i, i < k + 1 → l.getD i pz0 = m.getD i pz0 from fun h i hi => by
    rcases Nat.lt_or_ge i k with h1 | h1
    ·exact HJ.out.1 i h1
    ·obtain rfl : i = k := by omega
     exact h)
   have HNO := Lib.hid (show l.getD k pz0 ≠ m.getD k pz0 → decide (l = m) = false from fun h => decide_eq_false (fun e => h (by rw [e])))
   clear hrg hp hrg2 hp2 HJ
   generalize l.getD k pz0 = p at *
   generalize m.getD k pz0 = q at *
   obtain ⟨nb, hnb⟩ : ∃ nb, (!p.eqB q) = nb := ⟨_, rfl⟩
   have HNB := Lib.hid hnb
   have HYES := Lib.hid (show nb = true → p ≠ q from fun h e => by rw [← hnb, e, Pe.eqB_self] at h; cases h)
   have HSAM := Lib.hid (show nb = false → p = q from fun h => (Pe.eqB_iff p q).1 (by rw [← hnb, Bool.not_eq_false'] at h; exact h))
   clear hnb
   go_upto_region 6 with fail
   refine wp_named fun a0 ha0 => ?_
   obtain ⟨fr, hfr⟩ : ∃ fr : (Nat → Value) → Act, ∀ V, fr V = (((((((((a0.put (some 16) (V 0)).put (some 17) (V 1)).put (some 18) (V 2)).put (some 19) (V 3)).put (some 20) (V 4)).put (some 21) (V 5)).put (some 22) (V 6)).put (some 23) (V 7)).put (some 24) (V 8)) := ⟨_, fun _ => rfl⟩
   rw [ha0] at hfr
   simp only [Act.put, List.setIfInBounds_toArray, List.set_cons_zero, List.set_cons_succ] at hfr
   have HFR := Lib.hid hfr
   clear hfr
   refine wp_region_inv (by kernel_rfl) (by kernel_rfl) (fun L A W => ∃ V : Nat → Value, A = fr V ∧ Vals (fun j => ([some (.slice (some ⟨bb, oo, none⟩) l.length c1), some (.int .i64 (k : Nat)), some (.pointer (some ⟨bb, oo + k * 9, none⟩)), some (.agg (cP p)), some (.slice (some ⟨b2, o2, none⟩) m.length c2), some (.int .i64 (k : Nat)), some (.pointer (some ⟨b2, o2 + k * 9, none⟩)), some (.agg (cP q)), some (.bool nb)] : List (Option Value)).getD j none) L V ∧ (Ext wr W)) ?_ ⟨?_, ?_, ?_, ?_, ?_, ?_, ?_, ?_, ?_, trivial⟩ ?_
   ·refine ⟨fun j => a0.tmps.getD (([16, 17, 18, 19, 20, 21, 22, 23, 24] : List Nat).getD j 0) undef, ?_, Vals.no _ _ _ (far_none _ _ rfl), (Ext.refl wr).drew⟩
    rw [HFR.out, ha0]
    rfl
   all_goals clear ha0
   ·rintro L A W K hL hC hW ⟨V, rfl, HV, s0⟩ hK
    have H := Lib.hid (show ∀ W', Ext W W' → K (fr (upd V 0 (.slice (some ⟨bb, oo, none⟩) l.length c1))) W' from fun W' he => hK _ _ ⟨_, rfl, HV.us 0 _ rfl, Ext.trans s0 he⟩)
    clear hK hC hW hL HV s0
    rw [HFR.out]
    go_wp2_with fail
    show K _ _; have := H.out _ (Ext.refl _); rw [HFR.out] at this
    exact this
   ·rintro L A W K hL hC hW ⟨V, rfl, HV, s0⟩ hK
    have H := Lib.hid (show ∀ W', Ext W W' → K (fr (upd V 1 (.int .i64 (k : Nat)))) W' from fun W' he => hK _ _ ⟨_, rfl, HV.us 1 _ rfl, Ext.trans s0 he⟩)
    clear hK hC hW hL HV s0
    rw [HFR.out]
    go_wp2_with fail
    show K _ _; have := H.out _ (Ext.refl _); rw [HFR.out] at this
    exact this
   ·rintro L A W K hL hC hW ⟨V, rfl, HV, s0⟩ hK
    have e0 := HV 0 _ rfl (hW 0 rfl)
    have e1 := HV 1 _ rfl (hW 1 rfl)
    have H := Lib.hid (show ∀ W', Ext W W' → K (fr (upd V 2 (.pointer (some ⟨bb, oo + k * 9, none⟩)))) W' from fun W' he => hK _ _ ⟨_, rfl, HV.us 2 _ rfl, Ext.trans s0 he⟩)
    have HU := Lib.hid (show (upd V 2 (.pointer (some ⟨bb, oo + k * 9, none⟩))) 0 = .slice (some ⟨bb, oo, none⟩) l.length c1 ∧ (upd V 2 (.pointer (some ⟨bb, oo + k * 9, none⟩))) 1 = .int .i64 (k : Nat) from ⟨e0, e1⟩)
    clear hK hC hW hL HV s0
    rw [HFR.out, e0, e1]
    clear e0 e1
    go_wp2_with fail
    show K _ _; have := H.out _ (Ext.refl _); rw [HFR.out] at this
    obtain ⟨u0, u1⟩ := HU.out
    rw [u0, u1] at this
    exact this
   ·rintro L A W K hL hC hW ⟨V, rfl, HV, s0⟩ hK
    have e2 := HV 2 _ rfl (hW 2 rfl)
    have hB := s0
    have H := Lib.hid (show ∀ W', Ext W W' → K (fr (upd V 3 (.agg (cP p)))) W' from fun W' he => hK _ _ ⟨_, rfl, HV.us 3 _ rfl, Ext.trans s0 he⟩)
    have HU := Lib.hid (show (upd V 3 (.agg (cP p))) 2 = .pointer (some ⟨bb, oo + k * 9, none⟩) from e2)
    clear hK hC hW hL HV s0
    rw [HFR.out, e2]
    clear e2
    have HWW := Lib.hid (fun (y : Nat) (z : Value) (hz : (cP p).toList[y]? = some z) => hB.cell (HR.out y z hz))
    clear hB
    refine wpList_loadP rfl (.tmp 18) rfl bb (oo + k * 9) p rfl HWW.out ?_
    show K _ _; have := H.out _ (Ext.refl _); rw [HFR.out] at this
    obtain u2 := HU.out
    rw [u2] at this
    exact this
   ·rintro L A W K hL hC hW ⟨V, rfl, HV, s0⟩ hK
    have H := Lib.hid (show ∀ W', Ext W W' → K (fr (upd V 4 (.slice (some ⟨b2, o2, none⟩) m.length c2))) W' from fun W' he => hK _ _ ⟨_, rfl, HV.us 4 _ rfl, Ext.trans s0 he⟩)
    clear hK hC hW hL HV s0
    rw [HFR.out]
    go_wp2_with fail
    show K _ _; have := H.out _ (Ext.refl _); rw [HFR.out] at this
    exact this
   ·rintro L A W K hL hC hW ⟨V, rfl, HV, s0⟩ hK
    have H := Lib.hid (show ∀ W', Ext W W' → K (fr (upd V 5 (.int .i64 (k : Nat)))) W' from fun W' he => hK _ _ ⟨_, rfl, HV.us 5 _ rfl, Ext.trans s0 he⟩)
    clear hK hC hW hL HV s0
    rw [HFR.out]
    go_wp2_with fail
    show K _ _; have := H.out _ (Ext.refl _); rw [HFR.out] at this
    exact this
   ·rintro L A W K hL hC hW ⟨V, rfl, HV, s0⟩ hK
    have e4 := HV 4 _ rfl (hW 4 rfl)
    have e5 := HV 5 _ rfl (hW 5 rfl)
    have H := Lib.hid (show ∀ W', Ext W W' → K (fr (upd V 6 (.pointer (some ⟨b2, o2 + k * 9, none⟩)))) W' from fun W' he => hK _ _ ⟨_, rfl, HV.us 6 _ rfl, Ext.trans s0 he⟩)
    have HU := Lib.hid (show (upd V 6 (.pointer (some ⟨b2, o2 + k * 9, none⟩))) 4 = .slice (some ⟨b2, o2, none⟩) m.length c2 ∧ (upd V 6 (.pointer (some ⟨b2, o2 + k * 9, none⟩))) 5 = .int .i64 (k : Nat) from ⟨e4, e5⟩)
    clear hK hC hW hL HV s0
    rw [HFR.out, e4, e5]
    clear e4 e5
    go_wp2_with fail
    show K _ _; have := H.out _ (Ext.refl _); rw [HFR.out] at this
    obtain ⟨u4, u5⟩ := HU.out
    rw [u4, u5] at this
    exact this
   ·rintro L A W K hL hC hW ⟨V, rfl, HV, s0⟩ hK
    have e6 := HV 6 _ rfl (hW 6 rfl)
    have hB := s0
    have H := Lib.hid (show ∀ W', Ext W W' → K (fr (upd V 7 (.agg (cP q)))) W' from fun W' he => hK _ _ ⟨_, rfl, HV.us 7 _ rfl, Ext.trans s0 he⟩)
    have HU := Lib.hid (show (upd V 7 (.agg (cP q))) 6 = .pointer (some ⟨b2, o2 + k * 9, none⟩) from e6)
    clear hK hC hW hL HV s0
    rw [HFR.out, e6]
    clear e6
    have HWW := Lib.hid (fun (y : Nat) (z : Value) (hz : (cP q).toList[y]? = some z) => hB.cell (HR2.out y z hz))
    clear hB
    refine wpList_loadP rfl (.tmp 22) rfl b2 (o2 + k * 9) q rfl HWW.out ?_
    show K _ _; have := H.out _ (Ext.refl _); rw [HFR.out] at this
    obtain u6 := HU.out
    rw [u6] at this
    exact this
   ·rintro L A W K hL hC hW ⟨V, rfl, HV, s0⟩ hK
    have e3 := HV 3 _ rfl (hW 3 rfl)
    have e7 := HV 7 _ rfl (hW 7 rfl)
    have hB := s0
    have H := Lib.hid (show ∀ W', Ext W W' → K (fr (upd V 8 (.bool nb))) W' from fun W' he => hK _ _ ⟨_, rfl, HV.us 8 _ rfl, Ext.trans s0 he⟩)
    have HU := Lib.hid (show (upd V 8 (.bool nb)) 3 = .agg (cP p) ∧ (upd V 8 (.bool nb)) 7 = .agg (cP q) from ⟨e3, e7⟩)
    clear hK hC hW hL HV s0
    rw [HFR.out, e3, e7]
    clear e3 e7
    clear hB
    refine wpList_neqP rfl (.tmp 19) (.tmp 23) rfl p q HPP.out HPQ.out rfl rfl ?_
    rw [HNB.out]
    show K _ _; have := H.out _ (Ext.refl _); rw [HFR.out] at this
    obtain ⟨u3, u7⟩ := HU.out
    rw [u3, u7] at this
    exact this
   ·rintro L A W hL ⟨V, rfl, HV, s0⟩
    have e0 := HV 0 _ rfl (hL 0 (by simp))
    have e1 := HV 1 _ rfl (hL 1 (by simp))
    have e2 := HV 2 _ rfl (hL 2 (by simp))
    have e3 := HV 3 _ rfl (hL 3 (by simp))
    have e4 := HV 4 _ rfl (hL 4 (by simp))
    have e5 := HV 5 _ rfl (hL 5 (by simp))
    have e6 := HV 6 _ rfl (hL 6 (by simp))
    have e7 := HV 7 _ rfl (hL 7 (by simp))
    have e8 := HV 8 _ rfl (hL 8 (by simp))
    have hA := s0
    rw [HFR.out, e0, e1, e2, e3, e4, e5, e6, e7, e8]
    clear hL HV HFR e0 e1 e2 e3 e4 e5 e6 e7 e8 s0
    cases nb with
    | true =>
     have HF := Lib.hid (HNO.out (HYES.out rfl))
     go_wp2_with fail
     refine bodyPost_ret (results_tmp rfl _ _ _) rfl ?_
     exact ⟨by rw [HF.out]; rfl, HX.out.trans hA⟩
    | false =>
     have HN := Lib.hid (HNX.out (HSAM.out rfl))
     go_wp2_with fail
     exact ⟨⟨k + 1, by omega, by go_num, Lib.hid ⟨HN.out, HX.out.trans hA⟩⟩, by simp [intOf]; omega⟩
  ·obtain rfl : k = l.length := by omega
   have hd : decide (l.length < l.length) = false := decide_eq_false (by omega)
   have hd2 : decide ((l.length : Int) < (l.length : Int)) = false := decide_eq_false (by omega)
   have HF : Hid (decide (l = m) = true) := Lib.hid (decide_eq_true (by
    apply List.ext_getElem HL.out
    intro i hi hj
    have := HJ.out.1 i hi
    rwa [List.getD_eq_getElem?_getD, List.getD_eq_getElem?_getD, List.getElem?_eq_getElem hi, List.getElem?_eq_getElem hj] at this))
   go_wp2_with fail
   refine bodyPost_ret (results_tmp rfl _ _ _) rfl ?_
   exact ⟨by rw [HF.out]; rfl, HJ.out.2⟩
def sameX (x y : Ax) : Bool := decide (x.a = y.a) && (decide (x.s = y.s) && decide (x.p = y.p))
theorem sameX_iff {x y : Ax} : sameX x y = true ↔ x = y := by
 obtain ⟨a, b, c⟩ := x
 obtain ⟨a2, b2, c2⟩ := y
 unfold sameX
 simp only [Bool.and_eq_true, decide_eq_true_eq, Ax.mk.injEq]
set_option maxRecDepth 100000 in
set_option maxHeartbeats 4000000 in
theorem sameX_any (va vs vp ua us up : Value) (x y : Ax) (w : World) (hx : AxR w va vs vp x) (hy : AxR w ua us up y) : Calls Tryz.prog 43 #[.agg #[va, vs, vp], .agg #[ua, us, up]] w fun e w' => e = .returned (.bool (sameX x y)) ∧ Ext w w' := by
 have HX := Lib.hid hx
 have HY := Lib.hid hy
 obtain ⟨A1, c1, rfl, _, _⟩ := hx.1.len
 obtain ⟨A2, c2, rfl, _, _⟩ := hx.2.1.len
 obtain ⟨A3, c3, rfl, _, _⟩ := hx.2.2.len
 obtain ⟨B1, d1, rfl, _, _⟩ := hy.1.len
 obtain ⟨B2, d2, rfl, _, _⟩ := hy.2.1.len
 obtain ⟨B3, d3, rfl, _, _⟩ := hy.2.2.len
 obtain ⟨w0, hw0⟩ : ∃ w0, (w.alloc (.cells #[.slice A1 x.a.length c1, .slice A2 x.s.length c2, .slice A3 x.p.length c3] 35)).alloc (.cells #[.slice B1 y.a.length d1, .slice B2 y.s.length d2, .slice B3 y.p.length d3] 35) = w0 := ⟨_, rfl⟩
 have HC : Hid (Cs w0 w.heap.size 35 #[.slice A1 x.a.length c1, .slice A2 x.s.length c2, .slice A3 x.p.length c3]) := Lib.hid (by rw [← hw0]; exact Cs.alloc (Cs.new _ _ _ _ rfl) _)
 have HD : Hid (Cs w0 (w.heap.size + 1) 35 #[.slice B1 y.a.length d1, .slice B2 y.s.length d2, .slice B3 y.p.length d3]) := Lib.hid (by rw [← hw0]; exact Cs.new _ _ _ _ (by simp))
 have HE : Hid (Ext w w0) := Lib.hid (by rw [← hw0]; exact ((Ext.refl w).alloc _).alloc _)
 have HDF : Hid (sameX x y = (decide (x.a = y.a) && (decide (x.s = y.s) && decide (x.p = y.p)))) := Lib.hid rfl
 have HW0 := Lib.hid hw0
 clear hx hy hw0
 go_enter Tryz.func43, Tryz.ntmps43
 go_upto_region 1 with fail
 rw [HW0.out]
 clear HW0
 have q1 := HC.out.cell 0 _ rfl
 have q2 := HD.out.cell 0 _ rfl
 go_wp2_with fail
 refine (eqRowA_any _ _ x.a y.a _ (HX.out.1.ext HE.out) (HY.out.1.ext HE.out)).mono ?_
 rintro e w1 ⟨rfl, he⟩
 have HE1 := Lib.hid (HE.out.trans he)
 have HC1 := Lib.hid (Cs.ext HC.out he)
 have HD1 := Lib.hid (Cs.ext HD.out he)
 clear he q1 q2
 cases ha : decide (x.a = y.a) with
 | false =>
  have HF := Lib.hid (show sameX x y = false by rw [HDF.out, ha, Bool.false_and])
  clear ha
  go_wp2_with fail
  refine bodyPost_ret (results_tmp rfl _ _ _) rfl ?_
  exact ⟨by rw [HF.out]; rfl, HE1.out⟩
 | true =>
  have HDF := Lib.hid (show sameX x y = (decide (x.s = y.s) && decide (x.p = y.p)) by rw [HDF.out, ha, Bool.true_and])
  have q1 := HC1.out.cell 1 _ rfl
  have q2 := HD1.out.cell 1 _ rfl
  clear ha
  go_wp2_with fail
  refine (eqRowS_any _ _ x.s y.s _ (HX.out.2.1.ext HE1.out) (HY.out.2.1.ext HE1.out)).mono ?_
  rintro e w2 ⟨rfl, he⟩
  have HE2 := Lib.hid (HE1.out.trans he)
  have HC2 := Lib.hid (Cs.ext HC1.out he)
  have HD2 := Lib.hid (Cs.ext HD1.out he)
  clear he q1 q2
  cases hs : decide (x.s = y.s) with
  | false =>
   have HF := Lib.hid (show sameX x y = false by rw [HDF.out, hs, Bool.false_and])
   clear hs
   go_wp2_with fail
   refine bodyPost_ret (results_tmp rfl _ _ _) rfl ?_
   exact ⟨by rw [HF.out]; rfl, HE2.out⟩
  | true =>
   have HF := Lib.hid (show sameX x y = decide (x.p = y.p) by rw [HDF.out, hs, Bool.true_and])
   have q1 := HC2.out.cell 2 _ rfl
   have q2 := HD2.out.cell 2 _ rfl
   clear hs
   go_wp2_with fail
   refine (eqRowP_any _ _ x.p y.p _ (HX.out.2.2.ext HE2.out) (HY.out.2.2.ext HE2.out)).mono ?_
   rintro e w3 ⟨rfl, he⟩
   have HE3 := Lib.hid (HE2.out.trans he)
   clear he q1 q2
   go_wp2_with fail
   refine bodyPost_ret (results_tmp rfl _ _ _) rfl ?_
   exact ⟨by rw [HF.out]; rfl, HE3.out⟩
end Go.Proofs.YtnjpdchmdimaaaaGreat
