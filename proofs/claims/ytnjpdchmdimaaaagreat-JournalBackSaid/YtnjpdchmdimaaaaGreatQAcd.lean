/- Package access: which rows may be. -/
import Derived.Test.YtnjpdchmdimaaaaGreatQAcb
import Derived.Test.YtnjpdchmdimaaaaGreatQAcm
namespace Go.Proofs.YtnjpdchmdimaaaaGreat
open Go.ChangeShapes Go.WideShapes Go.ChangeAt Go.RowKit Go.Shelf

theorem rs_long {l : List Pe} (h : 400 < l.length) : rsB l = false := by unfold rsB; rw [decide_eq_false (by omega)]; rfl
theorem rs_stop {l : List Pe} (m : Nat) (hm : m + 1 < l.length) (h : ¬ (l.getD m pz0).cod < (l.getD (m + 1) pz0).cod) : rsB l = false := by
 cases hr : rsB l with
 | false => rfl
 | true => exact absurd ((rs_iff.1 hr).2 m (m + 1) (by omega) hm) h
theorem rs_all {l : List Pe} (h4 : l.length ≤ 400) (h : ∀ m, m + 1 < l.length → (l.getD m pz0).cod < (l.getD (m + 1) pz0).cod) : rsB l = true := by
 refine rs_iff.2 ⟨h4, fun i j hij hj => ?_⟩
 induction j with
 | zero => omega
 | succ j ih =>
  have h1 := h j hj
  rcases Nat.lt_or_ge i j with hlt | hge
  ·exact Nat.lt_trans (ih hlt (by omega)) h1
  ·obtain rfl : i = j := by omega
   exact h1
theorem ex_addr {W : World} {b o : Nat} {p : Pe} (h : W.rangeAt b o (cA p).toList) : W.cell? ⟨b, o, none⟩ = some (.int .u64 (p.addr : Nat)) := h 0 _ rfl
theorem cod_addr {p q : Pe} (hp : okA p) (hq : okA q) : cmpN p.addr q.addr = cmpN p.cod q.cod := by
 have e1 : p.cod = p.addr * M256 := by unfold Pe.cod ceN; rw [hp.2.1, Nat.add_zero]
 have e2 : q.cod = q.addr * M256 := by unfold Pe.cod ceN; rw [hq.2.1, Nat.add_zero]
 have hM : 0 < M256 := by decide
 have h1 : p.addr * M256 < q.addr * M256 ↔ p.addr < q.addr := Nat.mul_lt_mul_right hM
 have h2 : q.addr * M256 < p.addr * M256 ↔ q.addr < p.addr := Nat.mul_lt_mul_right hM
 rw [e1, e2]
 unfold cmpN
 generalize p.addr * M256 = a at *
 generalize q.addr * M256 = b at *
 simp only [h1, h2]
set_option maxRecDepth 100000 in
set_option maxHeartbeats 4000000 in
theorem risesA_any (v : Value) (l : List Pe) (w : World) (hs : XA w v l) : Calls Tryz.prog 113 #[v, .func (.func 114) #[] #[]] w fun e w' => e = .returned (.bool (rsB l)) ∧ Ext w w' := by
 have HS := Lib.hid hs
 obtain ⟨A1, c, rfl, h1, h2⟩ := hs.len
 unfold maxLen at h2
 clear hs
 go_enter Tryz.func113, Tryz.ntmps113
 by_cases hl : 400 < l.length
 ·have hd : decide (400 < l.length) = true := decide_eq_true hl
  have hd2 : decide ((400 : Int) < (l.length : Int)) = true := decide_eq_true (by omega)
  have HF := Lib.hid (rs_long hl)
  clear hl
  go_wp2_with fail
  go_ret
  exact ⟨by rw [HF.out]; rfl, Ext.refl _⟩
 have hd : decide (400 < l.length) = false := decide_eq_false hl
 have hd2 : decide ((400 : Int) < (l.length : Int)) = false := decide_eq_false (by omega)
 have HL := Lib.hid (show l.length ≤ 400 by omega)
 clear hl
 go_wp2_with fail
 clear hd hd2
 go_loopw [5] (fun iv wr => ∃ k : Nat, (k + 1 ≤ l.length ∨ k = 0) ∧ iv = .int .i64 ((k + 1 : Nat) : Int) ∧ Hid ((∀ m, m < k → (l.getD m pz0).cod < (l.getD (m + 1) pz0).cod) ∧ Ext w wr)) (fun iv _ => l.length + 1 - (intOf iv).toNat)
 case atStart => exact ⟨0, .inr rfl, rfl, Lib.hid ⟨fun m hm => absurd hm (by omega), Ext.refl _⟩⟩
 case round =>
  obtain ⟨k, hk, rfl, HJ⟩ := hrel
  by_cases hlt : k + 1 < l.length
  ·have hd : decide (k + 1 < l.length) = true := decide_eq_true hlt
   have hd2 : decide (((k + 1 : Nat) : Int) < (l.length : Int)) = true := decide_eq_true (by omega)
   have hd3 : decide ((k : Int) + 1 < (l.length : Int)) = true := decide_eq_true (by omega)
   have hd4 : decide (k < l.length) = true := decide_eq_true (by omega)
   have hd5 : decide ((k : Int) < (l.length : Int)) = true := decide_eq_true (by omega)
   have HB := Lib.hid (show (k : Int) + 1 < 100000 by have := HL.out; omega)
   obtain ⟨bb, oo, rfl, hp1, hp2⟩ := (HS.out.ext HJ.out.2).at k (by omega)
   obtain ⟨b2, o2, e2, hq1, hq2⟩ := (HS.out.ext HJ.out.2).at (k + 1) hlt
   injection e2 with e2
   injection e2 with e2 e3
   subst e2 e3
   have HST := Lib.hid (fun (h : ¬ (l.getD k pz0).cod < (l.getD (k + 1) pz0).cod) => rs_stop k hlt h)
   have HMO := Lib.hid (fun (h : (l.getD k pz0).cod < (l.getD (k + 1) pz0).cod) => show ∀ m, m < k + 1 → (l.getD m pz0).cod < (l.getD (m + 1) pz0).cod from fun m hm => by
    rcases Nat.lt_or_ge m k with h' | h'
    ·exact HJ.out.1 m h'
    ·obtain rfl : m = k := by omega
     exact h)
   generalize l.getD k pz0 = p at *
   generalize l.getD (k + 1) pz0 = q at *
   have HP := Lib.hid (ex_addr hp1)
   have HQ := Lib.hid (ex_addr hq1)
   have HC := Lib.hid (fun W => show Calls Tryz.prog 114 #[.int .u64 (p.addr : Nat), .int .u64 (q.addr : Nat)] W (fun e w' => e = .returned (.int .i64 (cmpN p.cod q.cod)) ∧ Ext W w') from by rw [← cod_addr hp2 hq2]; exact compareAd_any p.addr q.addr W)
   obtain ⟨r, hr⟩ : ∃ r, cmpN p.cod q.cod = r := ⟨_, rfl⟩
   obtain ⟨rb, hrb⟩ : ∃ b, decide (0 ≤ r) = b := ⟨_, rfl⟩
   have HGE : Hid (decide (0 ≤ r) = rb) := Lib.hid hrb
   have HRB := Lib.hid (show rb = !decide (p.cod < q.cod) by
    rw [← hrb, ← hr]
    unfold cmpN
    by_cases hx : p.cod < q.cod
    ·rw [if_pos hx, decide_eq_true hx]; rfl
    ·rw [if_neg hx, decide_eq_false hx]; split <;> rfl)
   rw [hr] at HC
   clear hr hrb hp1 hp2 hq1 hq2 HS
   go_upto_region 6 with fail
   refine wp_named fun a0 ha0 => ?_
   obtain ⟨fr, hfr⟩ : ∃ fr : (Nat → Value) → Act, ∀ V, fr V = ((((((((((((a0.put (some 15) (V 0)).put (some 16) (V 1)).put (some 17) (V 2)).put (some 18) (V 3)).put (some 19) (V 4)).put (some 20) (V 5)).put (some 21) (V 6)).put (some 22) (V 7)).put (some 23) (V 8)).put (some 24) (V 9)).put (some 25) (V 10)).put (some 26) (V 11)) := ⟨_, fun _ => rfl⟩
   rw [ha0] at hfr
   simp only [Act.put, List.setIfInBounds_toArray, List.set_cons_zero, List.set_cons_succ] at hfr
   have HFR := Lib.hid hfr
   clear hfr
   refine wp_region_inv (by kernel_rfl) (by kernel_rfl) (fun L A W => ∃ V : Nat → Value, A = fr V ∧ Vals (fun j => ([some (.func (.func 114) #[] #[]), some (.slice (some ⟨bb, oo, none⟩) l.length c), some (.int .i64 ((k + 1 : Nat) : Int)), some (.int .i64 (k : Nat)), some (.pointer (some ⟨bb, oo + k, none⟩)), some (.int .u64 (p.addr : Nat)), some (.slice (some ⟨bb, oo, none⟩) l.length c), some (.int .i64 ((k + 1 : Nat) : Int)), some (.pointer (some ⟨bb, oo + (k + 1), none⟩)), some (.int .u64 (q.addr : Nat)), some (.int .i64 r), some (.bool rb)] : List (Option Value)).getD j none) L V ∧ (Ext wr W)) ?_ ⟨?_, ?_, ?_, ?_, ?_, ?_, ?_, ?_, ?_, ?_, ?_, ?_, trivial⟩ ?_
   ·refine ⟨fun j => a0.tmps.getD (([15, 16, 17, 18, 19, 20, 21, 22, 23, 24, 25, 26] : List Nat).getD j 0) undef, ?_, Vals.no _ _ _ (far_none _ _ rfl), (Ext.refl _).drew⟩
    rw [HFR.out, ha0]
    rfl
   all_goals clear ha0
   ·rintro L A W K hL hC hW ⟨V, rfl, HV, s0⟩ hK
    have H := Lib.hid (show ∀ W', Ext W W' → K (fr (upd V 0 (.func (.func 114) #[] #[]))) W' from fun W' he => hK _ _ ⟨_, rfl, HV.us 0 _ rfl, Ext.trans s0 he⟩)
    clear hK hC hW hL HV s0
    rw [HFR.out]
    go_wp2_with fail
    show K _ _; have := H.out _ (Ext.refl _); rw [HFR.out] at this
    exact this
   ·rintro L A W K hL hC hW ⟨V, rfl, HV, s0⟩ hK
    have H := Lib.hid (show ∀ W', Ext W W' → K (fr (upd V 1 (.slice (some ⟨bb, oo, none⟩) l.length c))) W' from fun W' he => hK _ _ ⟨_, rfl, HV.us 1 _ rfl, Ext.trans s0 he⟩)
    clear hK hC hW hL HV s0
    rw [HFR.out]
    go_wp2_with fail
    show K _ _; have := H.out _ (Ext.refl _); rw [HFR.out] at this
    exact this
   ·rintro L A W K hL hC hW ⟨V, rfl, HV, s0⟩ hK
    have H := Lib.hid (show ∀ W', Ext W W' → K (fr (upd V 2 (.int .i64 ((k + 1 : Nat) : Int)))) W' from fun W' he => hK _ _ ⟨_, rfl, HV.us 2 _ rfl, Ext.trans s0 he⟩)
    clear hK hC hW hL HV s0
    rw [HFR.out]
    go_wp2_with fail
    show K _ _; have := H.out _ (Ext.refl _); rw [HFR.out] at this
    exact this
   ·rintro L A W K hL hC hW ⟨V, rfl, HV, s0⟩ hK
    have e2 := HV 2 _ rfl (hW 2 rfl)
    have H := Lib.hid (show ∀ W', Ext W W' → K (fr (upd V 3 (.int .i64 (k : Nat)))) W' from fun W' he => hK _ _ ⟨_, rfl, HV.us 3 _ rfl, Ext.trans s0 he⟩)
    have HU := Lib.hid (show (upd V 3 (.int .i64 (k : Nat))) 2 = .int .i64 ((k + 1 : Nat) : Int) from e2)
    clear hK hC hW hL HV s0
    rw [HFR.out, e2]
    clear e2
    go_wp2_with fail
    show K _ _; have := H.out _ (Ext.refl _); rw [HFR.out] at this
    obtain u2 := HU.out
    rw [u2] at this
    exact this
   ·rintro L A W K hL hC hW ⟨V, rfl, HV, s0⟩ hK
    have e1 := HV 1 _ rfl (hW 1 rfl)
    have e3 := HV 3 _ rfl (hW 3 rfl)
    have H := Lib.hid (show ∀ W', Ext W W' → K (fr (upd V 4 (.pointer (some ⟨bb, oo + k, none⟩)))) W' from fun W' he => hK _ _ ⟨_, rfl, HV.us 4 _ rfl, Ext.trans s0 he⟩)
    have HU := Lib.hid (show (upd V 4 (.pointer (some ⟨bb, oo + k, none⟩))) 1 = .slice (some ⟨bb, oo, none⟩) l.length c ∧ (upd V 4 (.pointer (some ⟨bb, oo + k, none⟩))) 3 = .int .i64 (k : Nat) from ⟨e1, e3⟩)
    clear hK hC hW hL HV s0
    rw [HFR.out, e1, e3]
    clear e1 e3
    go_wp2_with fail
    show K _ _; have := H.out _ (Ext.refl _); rw [HFR.out] at this
    obtain ⟨u1, u3⟩ := HU.out
    rw [u1, u3] at this
    exact this
   ·rintro L A W K hL hC hW ⟨V, rfl, HV, s0⟩ hK
    have e4 := HV 4 _ rfl (hW 4 rfl)
    have hB := s0
    have H := Lib.hid (show ∀ W', Ext W W' → K (fr (upd V 5 (.int .u64 (p.addr : Nat)))) W' from fun W' he => hK _ _ ⟨_, rfl, HV.us 5 _ rfl, Ext.trans s0 he⟩)
    have HU := Lib.hid (show (upd V 5 (.int .u64 (p.addr : Nat))) 4 = .pointer (some ⟨bb, oo + k, none⟩) from e4)
    clear hK hC hW hL HV s0
    rw [HFR.out, e4]
    clear e4
    have qq := hB.cell HP.out
    clear hB
    go_wp2_with fail
    show K _ _; have := H.out _ (Ext.refl _); rw [HFR.out] at this
    obtain u4 := HU.out
    rw [u4] at this
    exact this
   ·rintro L A W K hL hC hW ⟨V, rfl, HV, s0⟩ hK
    have H := Lib.hid (show ∀ W', Ext W W' → K (fr (upd V 6 (.slice (some ⟨bb, oo, none⟩) l.length c))) W' from fun W' he => hK _ _ ⟨_, rfl, HV.us 6 _ rfl, Ext.trans s0 he⟩)
    clear hK hC hW hL HV s0
    rw [HFR.out]
    go_wp2_with fail
    show K _ _; have := H.out _ (Ext.refl _); rw [HFR.out] at this
    exact this
   ·rintro L A W K hL hC hW ⟨V, rfl, HV, s0⟩ hK
    have H := Lib.hid (show ∀ W', Ext W W' → K (fr (upd V 7 (.int .i64 ((k + 1 : Nat) : Int)))) W' from fun W' he => hK _ _ ⟨_, rfl, HV.us 7 _ rfl, Ext.trans s0 he⟩)
    clear hK hC hW hL HV s0
    rw [HFR.out]
    go_wp2_with fail
    show K _ _; have := H.out _ (Ext.refl _); rw [HFR.out] at this
    exact this
   ·rintro L A W K hL hC hW ⟨V, rfl, HV, s0⟩ hK
    have e6 := HV 6 _ rfl (hW 6 rfl)
    have e7 := HV 7 _ rfl (hW 7 rfl)
    have H := Lib.hid (show ∀ W', Ext W W' → K (fr (upd V 8 (.pointer (some ⟨bb, oo + (k + 1), none⟩)))) W' from fun W' he => hK _ _ ⟨_, rfl, HV.us 8 _ rfl, Ext.trans s0 he⟩)
    have HU := Lib.hid (show (upd V 8 (.pointer (some ⟨bb, oo + (k + 1), none⟩))) 6 = .slice (some ⟨bb, oo, none⟩) l.length c ∧ (upd V 8 (.pointer (some ⟨bb, oo + (k + 1), none⟩))) 7 = .int .i64 ((k + 1 : Nat) : Int) from ⟨e6, e7⟩)
    clear hK hC hW hL HV s0
    rw [HFR.out, e6, e7]
    clear e6 e7
    go_wp2_with fail
    show K _ _; have := H.out _ (Ext.refl _); rw [HFR.out] at this
    obtain ⟨u6, u7⟩ := HU.out
    rw [u6, u7] at this
    exact this
   ·rintro L A W K hL hC hW ⟨V, rfl, HV, s0⟩ hK
    have e8 := HV 8 _ rfl (hW 8 rfl)
    have hB := s0
    have H := Lib.hid (show ∀ W', Ext W W' → K (fr (upd V 9 (.int .u64 (q.addr : Nat)))) W' from fun W' he => hK _ _ ⟨_, rfl, HV.us 9 _ rfl, Ext.trans s0 he⟩)
    have HU := Lib.hid (show (upd V 9 (.int .u64 (q.addr : Nat))) 8 = .pointer (some ⟨bb, oo + (k + 1), none⟩) from e8)
    clear hK hC hW hL HV s0
    rw [HFR.out, e8]
    clear e8
    have qq := hB.cell HQ.out
    clear hB
    go_wp2_with fail
    show K _ _; have := H.out _ (Ext.refl _); rw [HFR.out] at this
    obtain u8 := HU.out
    rw [u8] at this
    exact this
   ·rintro L A W K hL hC hW ⟨V, rfl, HV, s0⟩ hK
    have e0 := HV 0 _ rfl (hW 0 rfl)
    have e5 := HV 5 _ rfl (hW 5 rfl)
    have e9 := HV 9 _ rfl (hW 9 rfl)
    have hB := s0
    have H := Lib.hid (show ∀ W', Ext W W' → K (fr (upd V 10 (.int .i64 r))) W' from fun W' he => hK _ _ ⟨_, rfl, HV.us 10 _ rfl, Ext.trans s0 he⟩)
    have HU := Lib.hid (show (upd V 10 (.int .i64 r)) 0 = .func (.func 114) #[] #[] ∧ (upd V 10 (.int .i64 r)) 5 = .int .u64 (p.addr : Nat) ∧ (upd V 10 (.int .i64 r)) 9 = .int .u64 (q.addr : Nat) from ⟨e0, e5, e9⟩)
    clear hK hC hW hL HV s0
    rw [HFR.out, e0, e5, e9]
    clear e0 e5 e9
    clear hB
    go_wp2_with fail
    refine (HC.out _).mono ?_
    rintro e wx ⟨rfl, he⟩
    have := H.out _ he
    clear H
    go_wp2_with fail
    show K _ _
    rw [HFR.out] at this
    obtain ⟨u0, u5, u9⟩ := HU.out
    rw [u0, u5, u9] at this
    exact this
   ·rintro L A W K hL hC hW ⟨V, rfl, HV, s0⟩ hK
    have e10 := HV 10 _ rfl (hW 10 rfl)
    have H := Lib.hid (show ∀ W', Ext W W' → K (fr (upd V 11 (.bool rb))) W' from fun W' he => hK _ _ ⟨_, rfl, HV.us 11 _ rfl, Ext.trans s0 he⟩)
    have HU := Lib.hid (show (upd V 11 (.bool rb)) 10 = .int .i64 r from e10)
    clear hK hC hW hL HV s0
    rw [HFR.out, e10]
    clear e10
    go_wp2_with fail
    rw [HGE.out]
    show K _ _; have := H.out _ (Ext.refl _); rw [HFR.out] at this
    obtain u10 := HU.out
    rw [u10] at this
    exact this
   ·rintro L A W hL ⟨V, rfl, HV, s0⟩
    have e0 := HV 0 _ rfl (hL 0 (by simp))
    have e1 := HV 1 _ rfl (hL 1 (by simp))
    have e2 := HV 2 _ rfl (hL 2 (by simp))
    have e3 := HV 3 _ rfl (hL 3 (by simp))
    have e4 := HV 4 _ rfl (hL 4 (by simp))
    have e5 := HV 5 _ rfl (hL 5 (by simp))
    have e6 := HV 6 _ rfl (hL 6 (by simp))
    have e7 := HV 7 _ rfl (hL 7 (by simp))
    have e8 := HV 8 _ rfl (hL 8 (by simp))
    have e9 := HV 9 _ rfl (hL 9 (by simp))
    have e10 := HV 10 _ rfl (hL 10 (by simp))
    have e11 := HV 11 _ rfl (hL 11 (by simp))
    have hA := s0
    rw [HFR.out, e0, e1, e2, e3, e4, e5, e6, e7, e8, e9, e10, e11]
    clear hL HV HFR e0 e1 e2 e3 e4 e5 e6 e7 e8 e9 e10 e11 s0
    have HE := Lib.hid (HJ.out.2.trans hA)
    clear hA
    cases rb with
    | true =>
     have HF := Lib.hid (HST.out (fun h => by have := HRB.out; rw [decide_eq_true h] at this; cases this))
     go_wp2_with fail
     refine bodyPost_ret (results_tmp rfl _ _ _) rfl ?_
     exact ⟨by rw [HF.out]; rfl, HE.out⟩
    | false =>
     have HM := Lib.hid (HMO.out (Decidable.byContradiction fun h => by have := HRB.out; rw [decide_eq_false h] at this; cases this))
     go_wp2_with fail
     exact ⟨⟨k + 1, .inl (by omega), by go_num, Lib.hid ⟨HM.out, HE.out⟩⟩, by simp [intOf]; omega⟩
  ·have hd : decide (k + 1 < l.length) = false := decide_eq_false hlt
   have hd2 : decide (((k + 1 : Nat) : Int) < (l.length : Int)) = false := decide_eq_false (by omega)
   have hd3 : decide ((k : Int) + 1 < (l.length : Int)) = false := decide_eq_false (by omega)
   have HF := Lib.hid (rs_all HL.out (fun m hm => HJ.out.1 m (by omega)))
   go_wp2_with fail
   refine bodyPost_ret (results_tmp rfl _ _ _) rfl ?_
   exact ⟨by rw [HF.out]; rfl, HJ.out.2⟩
set_option maxRecDepth 100000 in
set_option maxHeartbeats 4000000 in
theorem risesS_any (v : Value) (l : List Pe) (w : World) (hs : XS w v l) : Calls Tryz.prog 115 #[v, .func (.func 116) #[] #[]] w fun e w' => e = .returned (.bool (rsB l)) ∧ Ext w w' := by
 have HS := Lib.hid hs
 obtain ⟨A1, c, rfl, h1, h2⟩ := hs.len
 unfold maxLen at h2
 clear hs
 go_enter Tryz.func115, Tryz.ntmps115
 by_cases hl : 400 < l.length
 ·have hd : decide (400 < l.length) = true := decide_eq_true hl
  have hd2 : decide ((400 : Int) < (l.length : Int)) = true := decide_eq_true (by omega)
  have HF := Lib.hid (rs_long hl)
  clear hl
  go_wp2_with fail
  go_ret
  exact ⟨by rw [HF.out]; rfl, Ext.refl _⟩
 have hd : decide (400 < l.length) = false := decide_eq_false hl
 have hd2 : decide ((400 : Int) < (l.length : Int)) = false := decide_eq_false (by omega)
 have HL := Lib.hid (show l.length ≤ 400 by omega)
 clear hl
 go_wp2_with fail
 clear hd hd2
 go_loopw [5] (fun iv wr => ∃ k : Nat, (k + 1 ≤ l.length ∨ k = 0) ∧ iv = .int .i64 ((k + 1 : Nat) : Int) ∧ Hid ((∀ m, m < k → (l.getD m pz0).cod < (l.getD (m + 1) pz0).cod) ∧ Ext w wr)) (fun iv _ => l.length + 1 - (intOf iv).toNat)
 case atStart => exact ⟨0, .inr rfl, rfl, Lib.hid ⟨fun m hm => absurd hm (by omega), Ext.refl _⟩⟩
 case round =>
  obtain ⟨k, hk, rfl, HJ⟩ := hrel
  by_cases hlt : k + 1 < l.length
  ·have hd : decide (k + 1 < l.length) = true := decide_eq_true hlt
   have hd2 : decide (((k + 1 : Nat) : Int) < (l.length : Int)) = true := decide_eq_true (by omega)
   have hd3 : decide ((k : Int) + 1 < (l.length : Int)) = true := decide_eq_true (by omega)
   have hd4 : decide (k < l.length) = true := decide_eq_true (by omega)
   have hd5 : decide ((k : Int) < (l.length : Int)) = true := decide_eq_true (by omega)
   have HB := Lib.hid (show (k : Int) + 1 < 100000 by have := HL.out; omega)
   obtain ⟨bb, oo, rfl, hp1, hp2⟩ := (HS.out.ext HJ.out.2).at k (by omega)
   obtain ⟨b2, o2, e2, hq1, hq2⟩ := (HS.out.ext HJ.out.2).at (k + 1) hlt
   injection e2 with e2
   injection e2 with e2 e3
   subst e2 e3
   have HST := Lib.hid (fun (h : ¬ (l.getD k pz0).cod < (l.getD (k + 1) pz0).cod) => rs_stop k hlt h)
   have HMO := Lib.hid (fun (h : (l.getD k pz0).cod < (l.getD (k + 1) pz0).cod) => show ∀ m, m < k + 1 → (l.getD m pz0).cod < (l.getD (m + 1) pz0).cod from fun m hm => by
    rcases Nat.lt_or_ge m k with h' | h'
    ·exact HJ.out.1 m h'
    ·obtain rfl : m = k := by omega
     exact h)
   generalize l.getD k pz0 = p at *
   generalize l.getD (k + 1) pz0 = q at *
   have HP := Lib.hid hp1
   have HQ := Lib.hid hq1
   have HPK := Lib.hid hp2.2.1
   have HQK := Lib.hid hq2.2.1
   have HC := Lib.hid (fun W => show Calls Tryz.prog 116 #[.agg (cS p), .agg (cS q)] W (fun e w' => e = .returned (.int .i64 (cmpN p.cod q.cod)) ∧ Ext W w') from compareSp_any p q W HPK.out HQK.out)
   obtain ⟨r, hr⟩ : ∃ r, cmpN p.cod q.cod = r := ⟨_, rfl⟩
   obtain ⟨rb, hrb⟩ : ∃ b, decide (0 ≤ r) = b := ⟨_, rfl⟩
   have HGE : Hid (decide (0 ≤ r) = rb) := Lib.hid hrb
   have HRB := Lib.hid (show rb = !decide (p.cod < q.cod) by
    rw [← hrb, ← hr]
    unfold cmpN
    by_cases hx : p.cod < q.cod
    ·rw [if_pos hx, decide_eq_true hx]; rfl
    ·rw [if_neg hx, decide_eq_false hx]; split <;> rfl)
   rw [hr] at HC
   clear hr hrb hp1 hp2 hq1 hq2 HS
   go_upto_region 6 with fail
   refine wp_named fun a0 ha0 => ?_
   obtain ⟨fr, hfr⟩ : ∃ fr : (Nat → Value) → Act, ∀ V, fr V = ((((((((((((a0.put (some 15) (V 0)).put (some 16) (V 1)).put (some 17) (V 2)).put (some 18) (V 3)).put (some 19) (V 4)).put (some 20) (V 5)).put (some 21) (V 6)).put (some 22) (V 7)).put (some 23) (V 8)).put (some 24) (V 9)).put (some 25) (V 10)).put (some 26) (V 11)) := ⟨_, fun _ => rfl⟩
   rw [ha0] at hfr
   simp only [Act.put, List.setIfInBounds_toArray, List.set_cons_zero, List.set_cons_succ] at hfr
   have HFR := Lib.hid hfr
   clear hfr
   refine wp_region_inv (by kernel_rfl) (by kernel_rfl) (fun L A W => ∃ V : Nat → Value, A = fr V ∧ Vals (fun j => ([some (.func (.func 116) #[] #[]), some (.slice (some ⟨bb, oo, none⟩) l.length c), some (.int .i64 ((k + 1 : Nat) : Int)), some (.int .i64 (k : Nat)), some (.pointer (some ⟨bb, oo + k * 5, none⟩)), some (.agg (cS p)), some (.slice (some ⟨bb, oo, none⟩) l.length c), some (.int .i64 ((k + 1 : Nat) : Int)), some (.pointer (some ⟨bb, oo + (k + 1) * 5, none⟩)), some (.agg (cS q)), some (.int .i64 r), some (.bool rb)] : List (Option Value)).getD j none) L V ∧ (Ext wr W)) ?_ ⟨?_, ?_, ?_, ?_, ?_, ?_, ?_, ?_, ?_, ?_, ?_, ?_, trivial⟩ ?_
   ·refine ⟨fun j => a0.tmps.getD (([15, 16, 17, 18, 19, 20, 21, 22, 23, 24, 25, 26] : List Nat).getD j 0) undef, ?_, Vals.no _ _ _ (far_none _ _ rfl), (Ext.refl _).drew⟩
    rw [HFR.out, ha0]
    rfl
   all_goals clear ha0
   ·rintro L A W K hL hC hW ⟨V, rfl, HV, s0⟩ hK
    have H := Lib.hid (show ∀ W', Ext W W' → K (fr (upd V 0 (.func (.func 116) #[] #[]))) W' from fun W' he => hK _ _ ⟨_, rfl, HV.us 0 _ rfl, Ext.trans s0 he⟩)
    clear hK hC hW hL HV s0
    rw [HFR.out]
    go_wp2_with fail
    show K _ _; have := H.out _ (Ext.refl _); rw [HFR.out] at this
    exact this
   ·rintro L A W K hL hC hW ⟨V, rfl, HV, s0⟩ hK
    have H := Lib.hid (show ∀ W', Ext W W' → K (fr (upd V 1 (.slice (some ⟨bb, oo, none⟩) l.length c))) W' from fun W' he => hK _ _ ⟨_, rfl, HV.us 1 _ rfl, Ext.trans s0 he⟩)
    clear hK hC hW hL HV s0
    rw [HFR.out]
    go_wp2_with fail
    show K _ _; have := H.out _ (Ext.refl _); rw [HFR.out] at this
    exact this
   ·rintro L A W K hL hC hW ⟨V, rfl, HV, s0⟩ hK
    have H := Lib.hid (show ∀ W', Ext W W' → K (fr (upd V 2 (.int .i64 ((k + 1 : Nat) : Int)))) W' from fun W' he => hK _ _ ⟨_, rfl, HV.us 2 _ rfl, Ext.trans s0 he⟩)
    clear hK hC hW hL HV s0
    rw [HFR.out]
    go_wp2_with fail
    show K _ _; have := H.out _ (Ext.refl _); rw [HFR.out] at this
    exact this
   ·rintro L A W K hL hC hW ⟨V, rfl, HV, s0⟩ hK
    have e2 := HV 2 _ rfl (hW 2 rfl)
    have H := Lib.hid (show ∀ W', Ext W W' → K (fr (upd V 3 (.int .i64 (k : Nat)))) W' from fun W' he => hK _ _ ⟨_, rfl, HV.us 3 _ rfl, Ext.trans s0 he⟩)
    have HU := Lib.hid (show (upd V 3 (.int .i64 (k : Nat))) 2 = .int .i64 ((k + 1 : Nat) : Int) from e2)
    clear hK hC hW hL HV s0
    rw [HFR.out, e2]
    clear e2
    go_wp2_with fail
    show K _ _; have := H.out _ (Ext.refl _); rw [HFR.out] at this
    obtain u2 := HU.out
    rw [u2] at this
    exact this
   ·rintro L A W K hL hC hW ⟨V, rfl, HV, s0⟩ hK
    have e1 := HV 1 _ rfl (hW 1 rfl)
    have e3 := HV 3 _ rfl (hW 3 rfl)
    have H := Lib.hid (show ∀ W', Ext W W' → K (fr (upd V 4 (.pointer (some ⟨bb, oo + k * 5, none⟩)))) W' from fun W' he => hK _ _ ⟨_, rfl, HV.us 4 _ rfl, Ext.trans s0 he⟩)
    have HU := Lib.hid (show (upd V 4 (.pointer (some ⟨bb, oo + k * 5, none⟩))) 1 = .slice (some ⟨bb, oo, none⟩) l.length c ∧ (upd V 4 (.pointer (some ⟨bb, oo + k * 5, none⟩))) 3 = .int .i64 (k : Nat) from ⟨e1, e3⟩)
    clear hK hC hW hL HV s0
    rw [HFR.out, e1, e3]
    clear e1 e3
    go_wp2_with fail
    show K _ _; have := H.out _ (Ext.refl _); rw [HFR.out] at this
    obtain ⟨u1, u3⟩ := HU.out
    rw [u1, u3] at this
    exact this
   ·rintro L A W K hL hC hW ⟨V, rfl, HV, s0⟩ hK
    have e4 := HV 4 _ rfl (hW 4 rfl)
    have hB := s0
    have H := Lib.hid (show ∀ W', Ext W W' → K (fr (upd V 5 (.agg (cS p)))) W' from fun W' he => hK _ _ ⟨_, rfl, HV.us 5 _ rfl, Ext.trans s0 he⟩)
    have HU := Lib.hid (show (upd V 5 (.agg (cS p))) 4 = .pointer (some ⟨bb, oo + k * 5, none⟩) from e4)
    clear hK hC hW hL HV s0
    rw [HFR.out, e4]
    clear e4
    have HWW := Lib.hid (fun (y : Nat) (z : Value) (hz : (cS p).toList[y]? = some z) => hB.cell (HP.out y z hz))
    clear hB
    refine wpList_loadS rfl (.tmp 19) rfl bb (oo + k * 5) p rfl HWW.out ?_
    show K _ _; have := H.out _ (Ext.refl _); rw [HFR.out] at this
    obtain u4 := HU.out
    rw [u4] at this
    exact this
   ·rintro L A W K hL hC hW ⟨V, rfl, HV, s0⟩ hK
    have H := Lib.hid (show ∀ W', Ext W W' → K (fr (upd V 6 (.slice (some ⟨bb, oo, none⟩) l.length c))) W' from fun W' he => hK _ _ ⟨_, rfl, HV.us 6 _ rfl, Ext.trans s0 he⟩)
    clear hK hC hW hL HV s0
    rw [HFR.out]
    go_wp2_with fail
    show K _ _; have := H.out _ (Ext.refl _); rw [HFR.out] at this
    exact this
   ·rintro L A W K hL hC hW ⟨V, rfl, HV, s0⟩ hK
    have H := Lib.hid (show ∀ W', Ext W W' → K (fr (upd V 7 (.int .i64 ((k + 1 : Nat) : Int)))) W' from fun W' he => hK _ _ ⟨_, rfl, HV.us 7 _ rfl, Ext.trans s0 he⟩)
    clear hK hC hW hL HV s0
    rw [HFR.out]
    go_wp2_with fail
    show K _ _; have := H.out _ (Ext.refl _); rw [HFR.out] at this
    exact this
   ·rintro L A W K hL hC hW ⟨V, rfl, HV, s0⟩ hK
    have e6 := HV 6 _ rfl (hW 6 rfl)
    have e7 := HV 7 _ rfl (hW 7 rfl)
    have H := Lib.hid (show ∀ W', Ext W W' → K (fr (upd V 8 (.pointer (some ⟨bb, oo + (k + 1) * 5, none⟩)))) W' from fun W' he => hK _ _ ⟨_, rfl, HV.us 8 _ rfl, Ext.trans s0 he⟩)
    have HU := Lib.hid (show (upd V 8 (.pointer (some ⟨bb, oo + (k + 1) * 5, none⟩))) 6 = .slice (some ⟨bb, oo, none⟩) l.length c ∧ (upd V 8 (.pointer (some ⟨bb, oo + (k + 1) * 5, none⟩))) 7 = .int .i64 ((k + 1 : Nat) : Int) from ⟨e6, e7⟩)
    clear hK hC hW hL HV s0
    rw [HFR.out, e6, e7]
    clear e6 e7
    go_wp2_with fail
    show K _ _; have := H.out _ (Ext.refl _); rw [HFR.out] at this
    obtain ⟨u6, u7⟩ := HU.out
    rw [u6, u7] at this
    exact this
   ·rintro L A W K hL hC hW ⟨V, rfl, HV, s0⟩ hK
    have e8 := HV 8 _ rfl (hW 8 rfl)
    have hB := s0
    have H := Lib.hid (show ∀ W', Ext W W' → K (fr (upd V 9 (.agg (cS q)))) W' from fun W' he => hK _ _ ⟨_, rfl, HV.us 9 _ rfl, Ext.trans s0 he⟩)
    have HU := Lib.hid (show (upd V 9 (.agg (cS q))) 8 = .pointer (some ⟨bb, oo + (k + 1) * 5, none⟩) from e8)
    clear hK hC hW hL HV s0
    rw [HFR.out, e8]
    clear e8
    have HWW := Lib.hid (fun (y : Nat) (z : Value) (hz : (cS q).toList[y]? = some z) => hB.cell (HQ.out y z hz))
    clear hB
    refine wpList_loadS rfl (.tmp 23) rfl bb (oo + (k + 1) * 5) q rfl HWW.out ?_
    show K _ _; have := H.out _ (Ext.refl _); rw [HFR.out] at this
    obtain u8 := HU.out
    rw [u8] at this
    exact this
   ·rintro L A W K hL hC hW ⟨V, rfl, HV, s0⟩ hK
    have e0 := HV 0 _ rfl (hW 0 rfl)
    have e5 := HV 5 _ rfl (hW 5 rfl)
    have e9 := HV 9 _ rfl (hW 9 rfl)
    have hB := s0
    have H := Lib.hid (show ∀ W', Ext W W' → K (fr (upd V 10 (.int .i64 r))) W' from fun W' he => hK _ _ ⟨_, rfl, HV.us 10 _ rfl, Ext.trans s0 he⟩)
    have HU := Lib.hid (show (upd V 10 (.int .i64 r)) 0 = .func (.func 116) #[] #[] ∧ (upd V 10 (.int .i64 r)) 5 = .agg (cS p) ∧ (upd V 10 (.int .i64 r)) 9 = .agg (cS q) from ⟨e0, e5, e9⟩)
    clear hK hC hW hL HV s0
    rw [HFR.out, e0, e5, e9]
    clear e0 e5 e9
    clear hB
    go_wp2_with fail
    refine (HC.out _).mono ?_
    rintro e wx ⟨rfl, he⟩
    have := H.out _ he
    clear H
    go_wp2_with fail
    show K _ _
    rw [HFR.out] at this
    obtain ⟨u0, u5, u9⟩ := HU.out
    rw [u0, u5, u9] at this
    exact this
   ·rintro L A W K hL hC hW ⟨V, rfl, HV, s0⟩ hK
    have e10 := HV 10 _ rfl (hW 10 rfl)
    have H := Lib.hid (show ∀ W', Ext W W' → K (fr (upd V 11 (.bool rb))) W' from fun W' he => hK _ _ ⟨_, rfl, HV.us 11 _ rfl, Ext.trans s0 he⟩)
    have HU := Lib.hid (show (upd V 11 (.bool rb)) 10 = .int .i64 r from e10)
    clear hK hC hW hL HV s0
    rw [HFR.out, e10]
    clear e10
    go_wp2_with fail
    rw [HGE.out]
    show K _ _; have := H.out _ (Ext.refl _); rw [HFR.out] at this
    obtain u10 := HU.out
    rw [u10] at this
    exact this
   ·rintro L A W hL ⟨V, rfl, HV, s0⟩
    have e0 := HV 0 _ rfl (hL 0 (by simp))
    have e1 := HV 1 _ rfl (hL 1 (by simp))
    have e2 := HV 2 _ rfl (hL 2 (by simp))
    have e3 := HV 3 _ rfl (hL 3 (by simp))
    have e4 := HV 4 _ rfl (hL 4 (by simp))
    have e5 := HV 5 _ rfl (hL 5 (by simp))
    have e6 := HV 6 _ rfl (hL 6 (by simp))
    have e7 := HV 7 _ rfl (hL 7 (by simp))
    have e8 := HV 8 _ rfl (hL 8 (by simp))
    have e9 := HV 9 _ rfl (hL 9 (by simp))
    have e10 := HV 10 _ rfl (hL 10 (by simp))
    have e11 := HV 11 _ rfl (hL 11 (by simp))
    have hA := s0
    rw [HFR.out, e0, e1, e2, e3, e4, e5, e6, e7, e8, e9, e10, e11]
    clear hL HV HFR e0 e1 e2 e3 e4 e5 e6 e7 e8 e9 e10 e11 s0
    have HE := Lib.hid (HJ.out.2.trans hA)
    clear hA
    cases rb with
    | true =>
     have HF := Lib.hid (HST.out (fun h => by have := HRB.out; rw [decide_eq_true h] at this; cases this))
     go_wp2_with fail
     refine bodyPost_ret (results_tmp rfl _ _ _) rfl ?_
     exact ⟨by rw [HF.out]; rfl, HE.out⟩
    | false =>
     have HM := Lib.hid (HMO.out (Decidable.byContradiction fun h => by have := HRB.out; rw [decide_eq_false h] at this; cases this))
     go_wp2_with fail
     exact ⟨⟨k + 1, .inl (by omega), by go_num, Lib.hid ⟨HM.out, HE.out⟩⟩, by simp [intOf]; omega⟩
  ·have hd : decide (k + 1 < l.length) = false := decide_eq_false hlt
   have hd2 : decide (((k + 1 : Nat) : Int) < (l.length : Int)) = false := decide_eq_false (by omega)
   have hd3 : decide ((k : Int) + 1 < (l.length : Int)) = false := decide_eq_false (by omega)
   have HF := Lib.hid (rs_all HL.out (fun m hm => HJ.out.1 m (by omega)))
   go_wp2_with fail
   refine bodyPost_ret (results_tmp rfl _ _ _) rfl ?_
   exact ⟨by rw [HF.out]; rfl, HJ.out.2⟩
set_option maxRecDepth 100000 in
set_option maxHeartbeats 4000000 in
theorem risesP_any (v : Value) (l : List Pe) (w : World) (hs : XP w v l) : Calls Tryz.prog 117 #[v, .func (.func 118) #[] #[]] w fun e w' => e = .returned (.bool (rsB l)) ∧ Ext w w' := by
 have HS := Lib.hid hs
 obtain ⟨A1, c, rfl, h1, h2⟩ := hs.len
 unfold maxLen at h2
 clear hs
 go_enter Tryz.func117, Tryz.ntmps117
 by_cases hl : 400 < l.length
 ·have hd : decide (400 < l.length) = true := decide_eq_true hl
  have hd2 : decide ((400 : Int) < (l.length : Int)) = true := decide_eq_true (by omega)
  have HF := Lib.hid (rs_long hl)
  clear hl
  go_wp2_with fail
  go_ret
  exact ⟨by rw [HF.out]; rfl, Ext.refl _⟩
 have hd : decide (400 < l.length) = false := decide_eq_false hl
 have hd2 : decide ((400 : Int) < (l.length : Int)) = false := decide_eq_false (by omega)
 have HL := Lib.hid (show l.length ≤ 400 by omega)
 clear hl
 go_wp2_with fail
 clear hd hd2
 go_loopw [5] (fun iv wr => ∃ k : Nat, (k + 1 ≤ l.length ∨ k = 0) ∧ iv = .int .i64 ((k + 1 : Nat) : Int) ∧ Hid ((∀ m, m < k → (l.getD m pz0).cod < (l.getD (m + 1) pz0).cod) ∧ Ext w wr)) (fun iv _ => l.length + 1 - (intOf iv).toNat)
 case atStart => exact ⟨0, .inr rfl, rfl, Lib.hid ⟨fun m hm => absurd hm (by omega), Ext.refl _⟩⟩
 case round =>
  obtain ⟨k, hk, rfl, HJ⟩ := hrel
  by_cases hlt : k + 1 < l.length
  ·have hd : decide (k + 1 < l.length) = true := decide_eq_true hlt
   have hd2 : decide (((k + 1 : Nat) : Int) < (l.length : Int)) = true := decide_eq_true (by omega)
   have hd3 : decide ((k : Int) + 1 < (l.length : Int)) = true := decide_eq_true (by omega)
   have hd4 : decide (k < l.length) = true := decide_eq_true (by omega)
   have hd5 : decide ((k : Int) < (l.length : Int)) = true := decide_eq_true (by omega)
   have HB := Lib.hid (show (k : Int) + 1 < 100000 by have := HL.out; omega)
   obtain ⟨bb, oo, rfl, hp1, hp2⟩ := (HS.out.ext HJ.out.2).at k (by omega)
   obtain ⟨b2, o2, e2, hq1, hq2⟩ := (HS.out.ext HJ.out.2).at (k + 1) hlt
   injection e2 with e2
   injection e2 with e2 e3
   subst e2 e3
   have HST := Lib.hid (fun (h : ¬ (l.getD k pz0).cod < (l.getD (k + 1) pz0).cod) => rs_stop k hlt h)
   have HMO := Lib.hid (fun (h : (l.getD k pz0).cod < (l.getD (k + 1) pz0).cod) => show ∀ m, m < k + 1 → (l.getD m pz0).cod < (l.getD (m + 1) pz0).cod from fun m hm => by
    rcases Nat.lt_or_ge m k with h' | h'
    ·exact HJ.out.1 m h'
    ·obtain rfl : m = k := by omega
     exact h)
   generalize l.getD k pz0 = p at *
   generalize l.getD (k + 1) pz0 = q at *
   have HP := Lib.hid hp1
   have HQ := Lib.hid hq1
   have HPK := Lib.hid hp2.2.1
   have HQK := Lib.hid hq2.2.1
   have HC := Lib.hid (fun W => show Calls Tryz.prog 118 #[.agg (cP p), .agg (cP q)] W (fun e w' => e = .returned (.int .i64 (cmpN p.cod q.cod)) ∧ Ext W w') from comparePa_any p q W HPK.out HQK.out)
   obtain ⟨r, hr⟩ : ∃ r, cmpN p.cod q.cod = r := ⟨_, rfl⟩
   obtain ⟨rb, hrb⟩ : ∃ b, decide (0 ≤ r) = b := ⟨_, rfl⟩
   have HGE : Hid (decide (0 ≤ r) = rb) := Lib.hid hrb
   have HRB := Lib.hid (show rb = !decide (p.cod < q.cod) by
    rw [← hrb, ← hr]
    unfold cmpN
    by_cases hx : p.cod < q.cod
    ·rw [if_pos hx, decide_eq_true hx]; rfl
    ·rw [if_neg hx, decide_eq_false hx]; split <;> rfl)
   rw [hr] at HC
   clear hr hrb hp1 hp2 hq1 hq2 HS
   go_upto_region 6 with fail
   refine wp_named fun a0 ha0 => ?_
   obtain ⟨fr, hfr⟩ : ∃ fr : (Nat → Value) → Act, ∀ V, fr V = ((((((((((((a0.put (some 15) (V 0)).put (some 16) (V 1)).put (some 17) (V 2)).put (some 18) (V 3)).put (some 19) (V 4)).put (some 20) (V 5)).put (some 21) (V 6)).put (some 22) (V 7)).put (some 23) (V 8)).put (some 24) (V 9)).put (some 25) (V 10)).put (some 26) (V 11)) := ⟨_, fun _ => rfl⟩
   rw [ha0] at hfr
   simp only [Act.put, List.setIfInBounds_toArray, List.set_cons_zero, List.set_cons_succ] at hfr
   have HFR := Lib.hid hfr
   clear hfr
   refine wp_region_inv (by kernel_rfl) (by kernel_rfl) (fun L A W => ∃ V : Nat → Value, A = fr V ∧ Vals (fun j => ([some (.func (.func 118) #[] #[]), some (.slice (some ⟨bb, oo, none⟩) l.length c), some (.int .i64 ((k + 1 : Nat) : Int)), some (.int .i64 (k : Nat)), some (.pointer (some ⟨bb, oo + k * 9, none⟩)), some (.agg (cP p)), some (.slice (some ⟨bb, oo, none⟩) l.length c), some (.int .i64 ((k + 1 : Nat) : Int)), some (.pointer (some ⟨bb, oo + (k + 1) * 9, none⟩)), some (.agg (cP q)), some (.int .i64 r), some (.bool rb)] : List (Option Value)).getD j none) L V ∧ (Ext wr W)) ?_ ⟨?_, ?_, ?_, ?_, ?_, ?_, ?_, ?_, ?_, ?_, ?_, ?_, trivial⟩ ?_
   ·refine ⟨fun j => a0.tmps.getD (([15, 16, 17, 18, 19, 20, 21, 22, 23, 24, 25, 26] : List Nat).getD j 0) undef, ?_, Vals.no _ _ _ (far_none _ _ rfl), (Ext.refl _).drew⟩
    rw [HFR.out, ha0]
    rfl
   all_goals clear ha0
   ·rintro L A W K hL hC hW ⟨V, rfl, HV, s0⟩ hK
    have H := Lib.hid (show ∀ W', Ext W W' → K (fr (upd V 0 (.func (.func 118) #[] #[]))) W' from fun W' he => hK _ _ ⟨_, rfl, HV.us 0 _ rfl, Ext.trans s0 he⟩)
    clear hK hC hW hL HV s0
    rw [HFR.out]
    go_wp2_with fail
    show K _ _; have := H.out _ (Ext.refl _); rw [HFR.out] at this
    exact this
   ·rintro L A W K hL hC hW ⟨V, rfl, HV, s0⟩ hK
    have H := Lib.hid (show ∀ W', Ext W W' → K (fr (upd V 1 (.slice (some ⟨bb, oo, none⟩) l.length c))) W' from fun W' he => hK _ _ ⟨_, rfl, HV.us 1 _ rfl, Ext.trans s0 he⟩)
    clear hK hC hW hL HV s0
    rw [HFR.out]
    go_wp2_with fail
    show K _ _; have := H.out _ (Ext.refl _); rw [HFR.out] at this
    exact this
   ·rintro L A W K hL hC hW ⟨V, rfl, HV, s0⟩ hK
    have H := Lib.hid (show ∀ W', Ext W W' → K (fr (upd V 2 (.int .i64 ((k + 1 : Nat) : Int)))) W' from fun W' he => hK _ _ ⟨_, rfl, HV.us 2 _ rfl, Ext.trans s0 he⟩)
    clear hK hC hW hL HV s0
    rw [HFR.out]
    go_wp2_with fail
    show K _ _; have := H.out _ (Ext.refl _); rw [HFR.out] at this
    exact this
   ·rintro L A W K hL hC hW ⟨V, rfl, HV, s0⟩ hK
    have e2 := HV 2 _ rfl (hW 2 rfl)
    have H := Lib.hid (show ∀ W', Ext W W' → K (fr (upd V 3 (.int .i64 (k : Nat)))) W' from fun W' he => hK _ _ ⟨_, rfl, HV.us 3 _ rfl, Ext.trans s0 he⟩)
    have HU := Lib.hid (show (upd V 3 (.int .i64 (k : Nat))) 2 = .int .i64 ((k + 1 : Nat) : Int) from e2)
    clear hK hC hW hL HV s0
    rw [HFR.out, e2]
    clear e2
    go_wp2_with fail
    show K _ _; have := H.out _ (Ext.refl _); rw [HFR.out] at this
    obtain u2 := HU.out
    rw [u2] at this
    exact this
   ·rintro L A W K hL hC hW ⟨V, rfl, HV, s0⟩ hK
    have e1 := HV 1 _ rfl (hW 1 rfl)
    have e3 := HV 3 _ rfl (hW 3 rfl)
    have H := Lib.hid (show ∀ W', Ext W W' → K (fr (upd V 4 (.pointer (some ⟨bb, oo + k * 9, none⟩)))) W' from fun W' he => hK _ _ ⟨_, rfl, HV.us 4 _ rfl, Ext.trans s0 he⟩)
    have HU := Lib.hid (show (upd V 4 (.pointer (some ⟨bb, oo + k * 9, none⟩))) 1 = .slice (some ⟨bb, oo, none⟩) l.length c ∧ (upd V 4 (.pointer (some ⟨bb, oo + k * 9, none⟩))) 3 = .int .i64 (k : Nat) from ⟨e1, e3⟩)
    clear hK hC hW hL HV s0
    rw [HFR.out, e1, e3]
    clear e1 e3
    go_wp2_with fail
    show K _ _; have := H.out _ (Ext.refl _); rw [HFR.out] at this
    obtain ⟨u1, u3⟩ := HU.out
    rw [u1, u3] at this
    exact this
   ·rintro L A W K hL hC hW ⟨V, rfl, HV, s0⟩ hK
    have e4 := HV 4 _ rfl (hW 4 rfl)
    have hB := s0
    have H := Lib.hid (show ∀ W', Ext W W' → K (fr (upd V 5 (.agg (cP p)))) W' from fun W' he => hK _ _ ⟨_, rfl, HV.us 5 _ rfl, Ext.trans s0 he⟩)
    have HU := Lib.hid (show (upd V 5 (.agg (cP p))) 4 = .pointer (some ⟨bb, oo + k * 9, none⟩) from e4)
    clear hK hC hW hL HV s0
    rw [HFR.out, e4]
    clear e4
    have HWW := Lib.hid (fun (y : Nat) (z : Value) (hz : (cP p).toList[y]? = some z) => hB.cell (HP.out y z hz))
    clear hB
    refine wpList_loadP rfl (.tmp 19) rfl bb (oo + k * 9) p rfl HWW.out ?_
    show K _ _; have := H.out _ (Ext.refl _); rw [HFR.out] at this
    obtain u4 := HU.out
    rw [u4] at this
    exact this
   ·rintro L A W K hL hC hW ⟨V, rfl, HV, s0⟩ hK
    have H := Lib.hid (show ∀ W', Ext W W' → K (fr (upd V 6 (.slice (some ⟨bb, oo, none⟩) l.length c))) W' from fun W' he => hK _ _ ⟨_, rfl, HV.us 6 _ rfl, Ext.trans s0 he⟩)
    clear hK hC hW hL HV s0
    rw [HFR.out]
    go_wp2_with fail
    show K _ _; have := H.out _ (Ext.refl _); rw [HFR.out] at this
    exact this
   ·rintro L A W K hL hC hW ⟨V, rfl, HV, s0⟩ hK
    have H := Lib.hid (show ∀ W', Ext W W' → K (fr (upd V 7 (.int .i64 ((k + 1 : Nat) : Int)))) W' from fun W' he => hK _ _ ⟨_, rfl, HV.us 7 _ rfl, Ext.trans s0 he⟩)
    clear hK hC hW hL HV s0
    rw [HFR.out]
    go_wp2_with fail
    show K _ _; have := H.out _ (Ext.refl _); rw [HFR.out] at this
    exact this
   ·rintro L A W K hL hC hW ⟨V, rfl, HV, s0⟩ hK
    have e6 := HV 6 _ rfl (hW 6 rfl)
    have e7 := HV 7 _ rfl (hW 7 rfl)
    have H := Lib.hid (show ∀ W', Ext W W' → K (fr (upd V 8 (.pointer (some ⟨bb, oo + (k + 1) * 9, none⟩)))) W' from fun W' he => hK _ _ ⟨_, rfl, HV.us 8 _ rfl, Ext.trans s0 he⟩)
    have HU := Lib.hid (show (upd V 8 (.pointer (some ⟨bb, oo + (k + 1) * 9, none⟩))) 6 = .slice (some ⟨bb, oo, none⟩) l.length c ∧ (upd V 8 (.pointer (some ⟨bb, oo + (k + 1) * 9, none⟩))) 7 = .int .i64 ((k + 1 : Nat) : Int) from ⟨e6, e7⟩)
    clear hK hC hW hL HV s0
    rw [HFR.out, e6, e7]
    clear e6 e7
    go_wp2_with fail
    show K _ _; have := H.out _ (Ext.refl _); rw [HFR.out] at this
    obtain ⟨u6, u7⟩ := HU.out
    rw [u6, u7] at this
    exact this
   ·rintro L A W K hL hC hW ⟨V, rfl, HV, s0⟩ hK
    have e8 := HV 8 _ rfl (hW 8 rfl)
    have hB := s0
    have H := Lib.hid (show ∀ W', Ext W W' → K (fr (upd V 9 (.agg (cP q)))) W' from fun W' he => hK _ _ ⟨_, rfl, HV.us 9 _ rfl, Ext.trans s0 he⟩)
    have HU := Lib.hid (show (upd V 9 (.agg (cP q))) 8 = .pointer (some ⟨bb, oo + (k + 1) * 9, none⟩) from e8)
    clear hK hC hW hL HV s0
    rw [HFR.out, e8]
    clear e8
    have HWW := Lib.hid (fun (y : Nat) (z : Value) (hz : (cP q).toList[y]? = some z) => hB.cell (HQ.out y z hz))
    clear hB
    refine wpList_loadP rfl (.tmp 23) rfl bb (oo + (k + 1) * 9) q rfl HWW.out ?_
    show K _ _; have := H.out _ (Ext.refl _); rw [HFR.out] at this
    obtain u8 := HU.out
    rw [u8] at this
    exact this
   ·rintro L A W K hL hC hW ⟨V, rfl, HV, s0⟩ hK
    have e0 := HV 0 _ rfl (hW 0 rfl)
    have e5 := HV 5 _ rfl (hW 5 rfl)
    have e9 := HV 9 _ rfl (hW 9 rfl)
    have hB := s0
    have H := Lib.hid (show ∀ W', Ext W W' → K (fr (upd V 10 (.int .i64 r))) W' from fun W' he => hK _ _ ⟨_, rfl, HV.us 10 _ rfl, Ext.trans s0 he⟩)
    have HU := Lib.hid (show (upd V 10 (.int .i64 r)) 0 = .func (.func 118) #[] #[] ∧ (upd V 10 (.int .i64 r)) 5 = .agg (cP p) ∧ (upd V 10 (.int .i64 r)) 9 = .agg (cP q) from ⟨e0, e5, e9⟩)
    clear hK hC hW hL HV s0
    rw [HFR.out, e0, e5, e9]
    clear e0 e5 e9
    clear hB
    go_wp2_with fail
    refine (HC.out _).mono ?_
    rintro e wx ⟨rfl, he⟩
    have := H.out _ he
    clear H
    go_wp2_with fail
    show K _ _
    rw [HFR.out] at this
    obtain ⟨u0, u5, u9⟩ := HU.out
    rw [u0, u5, u9] at this
    exact this
   ·rintro L A W K hL hC hW ⟨V, rfl, HV, s0⟩ hK
    have e10 := HV 10 _ rfl (hW 10 rfl)
    have H := Lib.hid (show ∀ W', Ext W W' → K (fr (upd V 11 (.bool rb))) W' from fun W' he => hK _ _ ⟨_, rfl, HV.us 11 _ rfl, Ext.trans s0 he⟩)
    have HU := Lib.hid (show (upd V 11 (.bool rb)) 10 = .int .i64 r from e10)
    clear hK hC hW hL HV s0
    rw [HFR.out, e10]
    clear e10
    go_wp2_with fail
    rw [HGE.out]
    show K _ _; have := H.out _ (Ext.refl _); rw [HFR.out] at this
    obtain u10 := HU.out
    rw [u10] at this
    exact this
   ·rintro L A W hL ⟨V, rfl, HV, s0⟩
    have e0 := HV 0 _ rfl (hL 0 (by simp))
    have e1 := HV 1 _ rfl (hL 1 (by simp))
    have e2 := HV 2 _ rfl (hL 2 (by simp))
    have e3 := HV 3 _ rfl (hL 3 (by simp))
    have e4 := HV 4 _ rfl (hL 4 (by simp))
    have e5 := HV 5 _ rfl (hL 5 (by simp))
    have e6 := HV 6 _ rfl (hL 6 (by simp))
    have e7 := HV 7 _ rfl (hL 7 (by simp))
    have e8 := HV 8 _ rfl (hL 8 (by simp))
    have e9 := HV 9 _ rfl (hL 9 (by simp))
    have e10 := HV 10 _ rfl (hL 10 (by simp))
    have e11 := HV 11 _ rfl (hL 11 (by simp))
    have hA := s0
    rw [HFR.out, e0, e1, e2, e3, e4, e5, e6, e7, e8, e9, e10, e11]
    clear hL HV HFR e0 e1 e2 e3 e4 e5 e6 e7 e8 e9 e10 e11 s0
    have HE := Lib.hid (HJ.out.2.trans hA)
    clear hA
    cases rb with
    | true =>
     have HF := Lib.hid (HST.out (fun h => by have := HRB.out; rw [decide_eq_true h] at this; cases this))
     go_wp2_with fail
     refine bodyPost_ret (results_tmp rfl _ _ _) rfl ?_
     exact ⟨by rw [HF.out]; rfl, HE.out⟩
    | false =>
     have HM := Lib.hid (HMO.out (Decidable.byContradiction fun h => by have := HRB.out; rw [decide_eq_false h] at this; cases this))
     go_wp2_with fail
     exact ⟨⟨k + 1, .inl (by omega), by go_num, Lib.hid ⟨HM.out, HE.out⟩⟩, by simp [intOf]; omega⟩
  ·have hd : decide (k + 1 < l.length) = false := decide_eq_false hlt
   have hd2 : decide (((k + 1 : Nat) : Int) < (l.length : Int)) = false := decide_eq_false (by omega)
   have hd3 : decide ((k : Int) + 1 < (l.length : Int)) = false := decide_eq_false (by omega)
   have HF := Lib.hid (rs_all HL.out (fun m hm => HJ.out.1 m (by omega)))
   go_wp2_with fail
   refine bodyPost_ret (results_tmp rfl _ _ _) rfl ?_
   exact ⟨by rw [HF.out]; rfl, HJ.out.2⟩
end Go.Proofs.YtnjpdchmdimaaaaGreat
