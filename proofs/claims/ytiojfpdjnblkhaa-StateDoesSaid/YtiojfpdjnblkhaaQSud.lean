/- The document's own answers of layer 6: Same, Right. -/
import Derived.Test.YtiojfpdjnblkhaaQSub
namespace Go.Proofs.Ytiojfpdjnblkhaa
open Go.ChangeShapes Go.WideShapes Go.ChangeAt Go.RowKit Go.Shelf

set_option maxRecDepth 100000 in
set_option maxHeartbeats 8000000 in
theorem refSame_any (s1 s2 : Value) (la lb : List Ac) (w : World) (h1 : Acs w s1 la) (h2 : Acs w s2 lb) :
  Calls Try.prog 14 #[.agg #[s1], .agg #[s2]] w fun e w' => e = .returned (.bool (eqL la lb)) ∧ Ext w w' := by
 have HA := Lib.hid h1
 have HB := Lib.hid h2
 obtain ⟨A1, c1, rfl, a1, a2⟩ := h1.len
 obtain ⟨A2, c2, rfl, b1, b2⟩ := h2.len
 unfold maxLen at a2 b2
 obtain ⟨w0, hw0⟩ : ∃ w0, ((w.alloc (.cells #[.slice A1 la.length c1] 24)).alloc (.cells #[.slice A2 lb.length c2] 24)) = w0 := ⟨_, rfl⟩
 have HW0 := Lib.hid hw0
 have HB0 : Hid (Cs w0 w.heap.size 24 #[.slice A1 la.length c1] ∧ Cs w0 (w.heap.size + 1) 24 #[.slice A2 lb.length c2] ∧ Ext w w0) := by
  rw [← hw0]
  exact Lib.hid ⟨Cs.alloc (Cs.new _ _ _ _ rfl) _, Cs.new _ _ _ _ (by simp), ((Ext.refl w).alloc _).alloc _⟩
 have x1 : w0.cell? ⟨w.heap.size, 0, none⟩ = some (.slice A1 la.length c1) := HB0.out.1.cell 0 _ rfl
 have x2 : w0.cell? ⟨w.heap.size + 1, 0, none⟩ = some (.slice A2 lb.length c2) := HB0.out.2.1.cell 0 _ rfl
 clear h1 h2 hw0
 go_enter Try.func14, Try.ntmps14
 go_upto_region 1 with fail
 rw [HW0.out]
 clear HW0
 by_cases hl : la.length = lb.length
 case neg =>
  have hd : ((la.length : Int) != (lb.length : Int)) = true := by rw [bne_iff_ne]; omega
  have HF := Lib.hid (eqL_len la lb hl)
  clear hl
  go_wp2_with fail
  go_ret
  exact ⟨by rw [HF.out]; rfl, HB0.out.2.2⟩
 have HL := Lib.hid hl
 rw [← hl] at HB0 x2 HB
 have hd : ((la.length : Int) != (la.length : Int)) = false := by rw [bne_eq_false_iff_eq]
 clear hl
 go_wp2_with fail
 clear x1 x2 hd
 go_loopw [16] (fun iv wr => ∃ k : Nat, k ≤ la.length ∧ iv = .int .i64 k ∧ Hid ((∀ j, j < k → la.getD j acz = lb.getD j acz) ∧ Ext w0 wr)) (fun iv _ => la.length - (intOf iv).toNat)
 case atStart => exact ⟨0, by omega, rfl, Lib.hid ⟨fun j hj => by omega, Ext.refl _⟩⟩
 case round =>
  obtain ⟨k, hk, rfl, HJ⟩ := hrel
  have HE := Lib.hid HJ.out.2
  have HE0 := Lib.hid (HB0.out.2.2.trans HE.out)
  by_cases hlt : k < la.length
  ·have hd : decide (k < la.length) = true := decide_eq_true hlt
   obtain ⟨b1, o1, u, v, rfl, x1, hu, hv, hp⟩ := (HA.out.ext HE0.out).at k hlt
   obtain ⟨b2, o2, u2, v2, rfl, x2, hu2, hv2, hq⟩ := (HB.out.ext HE0.out).at k (by rw [← HL.out]; exact hlt)
   have X1 := Lib.hid x1
   have X2 := Lib.hid x2
   have HCALL := Lib.hid (fun W (h : Ext wr W) => refSameAccount_any _ _ u v u2 v2 W hp hq (hu.ext h) (hv.ext h) (hu2.ext h) (hv2.ext h))
   clear x1 x2 hu hv hu2 hv2 hp hq
   obtain ⟨p, hpp⟩ : ∃ p, la.getD k acz = p := ⟨_, rfl⟩
   obtain ⟨q, hqq⟩ : ∃ q, lb.getD k acz = q := ⟨_, rfl⟩
   have HXX := Lib.hid (And.intro hpp hqq)
   rw [hpp] at X1 HCALL
   rw [hqq] at X2 HCALL
   clear hpp hqq
   cases hbo : p.eqB q with
   | true =>
    have HS := Lib.hid (show ∀ j, j < k + 1 → la.getD j acz = lb.getD j acz from fun j hj => by
     rcases Nat.lt_succ_iff_lt_or_eq.1 hj with h | rfl
     ·exact HJ.out.1 j h
     ·rw [HXX.out.1, HXX.out.2]; exact (Ac.eqB_iff _ _).1 hbo)
    rw [hbo] at HCALL
    clear hbo
    go_upto_region 6 with fail
    refine wp_named fun a0 ha0 => ?_
    obtain ⟨fr, hfr⟩ : ∃ fr : (Nat → Value) → Act, ∀ V, fr V = ((((((((((((a0.put (some 19) (V 0)).put (some 20) (V 1)).put (some 21) (V 2)).put (some 22) (V 3)).put (some 23) (V 4)).put (some 24) (V 5)).put (some 25) (V 6)).put (some 26) (V 7)).put (some 27) (V 8)).put (some 28) (V 9)).put (some 29) (V 10)).put (some 30) (V 11)) := ⟨_, fun _ => rfl⟩
    rw [ha0] at hfr
    simp only [Act.put, List.setIfInBounds_toArray, List.set_cons_zero, List.set_cons_succ] at hfr
    have HFR := Lib.hid hfr
    clear hfr
    refine wp_region_inv (by kernel_rfl) (by kernel_rfl) (fun L A W => ∃ V : Nat → Value, A = fr V ∧ Vals (fun j => ([some (.pointer (some ⟨w.heap.size, 0, none⟩)), some (.slice (some ⟨b1, o1, none⟩) la.length c1), some (.int .i64 (k : Nat)), some (.pointer (some ⟨b1, o1 + k * 8, none⟩)), some (.agg (acc p u v)), some (.pointer (some ⟨w.heap.size + 1, 0, none⟩)), some (.slice (some ⟨b2, o2, none⟩) la.length c2), some (.int .i64 (k : Nat)), some (.pointer (some ⟨b2, o2 + k * 8, none⟩)), some (.agg (acc q u2 v2)), some (.bool true), some (.bool false)] : List (Option Value)).getD j none) L V ∧ (Ext wr W)) ?_ ⟨?_, ?_, ?_, ?_, ?_, ?_, ?_, ?_, ?_, ?_, ?_, ?_, trivial⟩ ?_
    ·refine ⟨fun j => a0.tmps.getD (([19, 20, 21, 22, 23, 24, 25, 26, 27, 28, 29, 30] : List Nat).getD j 0) undef, ?_, Vals.no _ _ _ (far_none _ _ rfl), (Ext.refl _).drew⟩
     rw [HFR.out, ha0]
     rfl
    all_goals clear ha0
    ·rintro L A W K hL hC hW ⟨V, rfl, HV, s0⟩ hK
     have H := Lib.hid (show ∀ W', Ext W W' → K (fr (upd V 0 (.pointer (some ⟨w.heap.size, 0, none⟩)))) W' from fun W' he => hK _ _ ⟨_, rfl, HV.us 0 _ rfl, Ext.trans s0 he⟩)
     clear hK hC hW hL HV s0
     rw [HFR.out]
     go_wp2_with fail
     show K _ _; have := H.out _ (Ext.refl _); rw [HFR.out] at this
     exact this
    ·rintro L A W K hL hC hW ⟨V, rfl, HV, s0⟩ hK
     have e0 := HV 0 _ rfl (hW 0 rfl)
     have hB := s0
     have H := Lib.hid (show ∀ W', Ext W W' → K (fr (upd V 1 (.slice (some ⟨b1, o1, none⟩) la.length c1))) W' from fun W' he => hK _ _ ⟨_, rfl, HV.us 1 _ rfl, Ext.trans s0 he⟩)
     have HU := Lib.hid (show (upd V 1 (.slice (some ⟨b1, o1, none⟩) la.length c1)) 0 = .pointer (some ⟨w.heap.size, 0, none⟩) from e0)
     clear hK hC hW hL HV s0
     rw [HFR.out, e0]
     clear e0
     have hcl := (Cs.ext HB0.out.1 (HE.out.trans hB)).cell 0 _ rfl
     clear hB
     go_wp2_with fail
     show K _ _; have := H.out _ (Ext.refl _); rw [HFR.out] at this
     obtain u0 := HU.out
     rw [u0] at this
     exact this
    ·rintro L A W K hL hC hW ⟨V, rfl, HV, s0⟩ hK
     have H := Lib.hid (show ∀ W', Ext W W' → K (fr (upd V 2 (.int .i64 (k : Nat)))) W' from fun W' he => hK _ _ ⟨_, rfl, HV.us 2 _ rfl, Ext.trans s0 he⟩)
     clear hK hC hW hL HV s0
     rw [HFR.out]
     go_wp2_with fail
     show K _ _; have := H.out _ (Ext.refl _); rw [HFR.out] at this
     exact this
    ·rintro L A W K hL hC hW ⟨V, rfl, HV, s0⟩ hK
     have e1 := HV 1 _ rfl (hW 1 rfl)
     have e2 := HV 2 _ rfl (hW 2 rfl)
     have H := Lib.hid (show ∀ W', Ext W W' → K (fr (upd V 3 (.pointer (some ⟨b1, o1 + k * 8, none⟩)))) W' from fun W' he => hK _ _ ⟨_, rfl, HV.us 3 _ rfl, Ext.trans s0 he⟩)
     have HU := Lib.hid (show (upd V 3 (.pointer (some ⟨b1, o1 + k * 8, none⟩))) 1 = .slice (some ⟨b1, o1, none⟩) la.length c1 ∧ (upd V 3 (.pointer (some ⟨b1, o1 + k * 8, none⟩))) 2 = .int .i64 (k : Nat) from ⟨e1, e2⟩)
     clear hK hC hW hL HV s0
     rw [HFR.out, e1, e2]
     clear e1 e2
     go_wp2_with fail
     show K _ _; have := H.out _ (Ext.refl _); rw [HFR.out] at this
     obtain ⟨u1, u2⟩ := HU.out
     rw [u1, u2] at this
     exact this
    ·rintro L A W K hL hC hW ⟨V, rfl, HV, s0⟩ hK
     have e3 := HV 3 _ rfl (hW 3 rfl)
     have hB := s0
     have H := Lib.hid (show ∀ W', Ext W W' → K (fr (upd V 4 (.agg (acc p u v)))) W' from fun W' he => hK _ _ ⟨_, rfl, HV.us 4 _ rfl, Ext.trans s0 he⟩)
     have HU := Lib.hid (show (upd V 4 (.agg (acc p u v))) 3 = .pointer (some ⟨b1, o1 + k * 8, none⟩) from e3)
     clear hK hC hW hL HV s0
     rw [HFR.out, e3]
     clear e3
     have HCR := Lib.hid (fun (j : Nat) (z : Value) (hz : (acc p u v).toList[j]? = some z) => hB.cell (X1.out j z hz))
     clear hB
     ((with_reducible refine wpList_load_ac ?_ (.tmp 22) ?_ b1 (o1 + k * 8) p u v ?_ ?_ ?_); (exact rfl); (exact rfl); (exact rfl); (exact HCR.out))
     show K _ _; have := H.out _ (Ext.refl _); rw [HFR.out] at this
     obtain u3 := HU.out
     rw [u3] at this
     exact this
    ·rintro L A W K hL hC hW ⟨V, rfl, HV, s0⟩ hK
     have H := Lib.hid (show ∀ W', Ext W W' → K (fr (upd V 5 (.pointer (some ⟨w.heap.size + 1, 0, none⟩)))) W' from fun W' he => hK _ _ ⟨_, rfl, HV.us 5 _ rfl, Ext.trans s0 he⟩)
     clear hK hC hW hL HV s0
     rw [HFR.out]
     go_wp2_with fail
     show K _ _; have := H.out _ (Ext.refl _); rw [HFR.out] at this
     exact this
    ·rintro L A W K hL hC hW ⟨V, rfl, HV, s0⟩ hK
     have e5 := HV 5 _ rfl (hW 5 rfl)
     have hB := s0
     have H := Lib.hid (show ∀ W', Ext W W' → K (fr (upd V 6 (.slice (some ⟨b2, o2, none⟩) la.length c2))) W' from fun W' he => hK _ _ ⟨_, rfl, HV.us 6 _ rfl, Ext.trans s0 he⟩)
     have HU := Lib.hid (show (upd V 6 (.slice (some ⟨b2, o2, none⟩) la.length c2)) 5 = .pointer (some ⟨w.heap.size + 1, 0, none⟩) from e5)
     clear hK hC hW hL HV s0
     rw [HFR.out, e5]
     clear e5
     have hcl := (Cs.ext HB0.out.2.1 (HE.out.trans hB)).cell 0 _ rfl
     clear hB
     go_wp2_with fail
     show K _ _; have := H.out _ (Ext.refl _); rw [HFR.out] at this
     obtain u5 := HU.out
     rw [u5] at this
     exact this
    ·rintro L A W K hL hC hW ⟨V, rfl, HV, s0⟩ hK
     have H := Lib.hid (show ∀ W', Ext W W' → K (fr (upd V 7 (.int .i64 (k : Nat)))) W' from fun W' he => hK _ _ ⟨_, rfl, HV.us 7 _ rfl, Ext.trans s0 he⟩)
     clear hK hC hW hL HV s0
     rw [HFR.out]
     go_wp2_with fail
     show K _ _; have := H.out _ (Ext.refl _); rw [HFR.out] at this
     exact this
    ·rintro L A W K hL hC hW ⟨V, rfl, HV, s0⟩ hK
     have e6 := HV 6 _ rfl (hW 6 rfl)
     have e7 := HV 7 _ rfl (hW 7 rfl)
     have H := Lib.hid (show ∀ W', Ext W W' → K (fr (upd V 8 (.pointer (some ⟨b2, o2 + k * 8, none⟩)))) W' from fun W' he => hK _ _ ⟨_, rfl, HV.us 8 _ rfl, Ext.trans s0 he⟩)
     have HU := Lib.hid (show (upd V 8 (.pointer (some ⟨b2, o2 + k * 8, none⟩))) 6 = .slice (some ⟨b2, o2, none⟩) la.length c2 ∧ (upd V 8 (.pointer (some ⟨b2, o2 + k * 8, none⟩))) 7 = .int .i64 (k : Nat) from ⟨e6, e7⟩)
     clear hK hC hW hL HV s0
     rw [HFR.out, e6, e7]
     clear e6 e7
     go_wp2_with fail
     show K _ _; have := H.out _ (Ext.refl _); rw [HFR.out] at this
     obtain ⟨u6, u7⟩ := HU.out
     rw [u6, u7] at this
     exact this
    ·rintro L A W K hL hC hW ⟨V, rfl, HV, s0⟩ hK
     have e8 := HV 8 _ rfl (hW 8 rfl)
     have hB := s0
     have H := Lib.hid (show ∀ W', Ext W W' → K (fr (upd V 9 (.agg (acc q u2 v2)))) W' from fun W' he => hK _ _ ⟨_, rfl, HV.us 9 _ rfl, Ext.trans s0 he⟩)
     have HU := Lib.hid (show (upd V 9 (.agg (acc q u2 v2))) 8 = .pointer (some ⟨b2, o2 + k * 8, none⟩) from e8)
     clear hK hC hW hL HV s0
     rw [HFR.out, e8]
     clear e8
     have HCR := Lib.hid (fun (j : Nat) (z : Value) (hz : (acc q u2 v2).toList[j]? = some z) => hB.cell (X2.out j z hz))
     clear hB
     ((with_reducible refine wpList_load_ac ?_ (.tmp 27) ?_ b2 (o2 + k * 8) q u2 v2 ?_ ?_ ?_); (exact rfl); (exact rfl); (exact rfl); (exact HCR.out))
     show K _ _; have := H.out _ (Ext.refl _); rw [HFR.out] at this
     obtain u8 := HU.out
     rw [u8] at this
     exact this
    ·rintro L A W K hL hC hW ⟨V, rfl, HV, s0⟩ hK
     have e4 := HV 4 _ rfl (hW 4 rfl)
     have e9 := HV 9 _ rfl (hW 9 rfl)
     have hB := s0
     have H := Lib.hid (show ∀ W', Ext W W' → K (fr (upd V 10 (.bool true))) W' from fun W' he => hK _ _ ⟨_, rfl, HV.us 10 _ rfl, Ext.trans s0 he⟩)
     have HU := Lib.hid (show (upd V 10 (.bool true)) 4 = .agg (acc p u v) ∧ (upd V 10 (.bool true)) 9 = .agg (acc q u2 v2) from ⟨e4, e9⟩)
     clear hK hC hW hL HV s0
     rw [HFR.out, e4, e9]
     clear e4 e9
     have HB' := Lib.hid hB
     clear hB
     go_wp2_with fail
     refine (HCALL.out _ HB'.out).mono ?_
     rintro e wx ⟨rfl, he⟩
     have := H.out _ he
     clear H
     go_wp2_with fail
     show K _ _
     rw [HFR.out] at this
     obtain ⟨u4, u9⟩ := HU.out
     rw [u4, u9] at this
     exact this
    ·rintro L A W K hL hC hW ⟨V, rfl, HV, s0⟩ hK
     have e10 := HV 10 _ rfl (hW 10 rfl)
     have H := Lib.hid (show ∀ W', Ext W W' → K (fr (upd V 11 (.bool false))) W' from fun W' he => hK _ _ ⟨_, rfl, HV.us 11 _ rfl, Ext.trans s0 he⟩)
     have HU := Lib.hid (show (upd V 11 (.bool false)) 10 = .bool true from e10)
     clear hK hC hW hL HV s0
     rw [HFR.out, e10]
     clear e10
     go_wp2_with fail
     show K _ _; have := H.out _ (Ext.refl _); rw [HFR.out] at this
     obtain u10 := HU.out
     rw [u10] at this
     exact this
    ·rintro L A W hL ⟨V, rfl, HV, s0⟩
     have e0 := HV 0 _ rfl (hL 0 (by simp))
     have e1 := HV 1 _ rfl (hL 1 (by simp))
     have e2 := HV 2 _ rfl (hL 2 (by simp))
     have e3 := HV 3 _ rfl (hL 3 (by simp))
     have e4 := HV 4 _ rfl (hL 4 (by simp))
     have e5 := HV 5 _ rfl (hL 5 (by simp))
     have e6 := HV 6 _ rfl (hL 6 (by simp))
     have e7 := HV 7 _ rfl (hL 7 (by simp))
     have e8 := HV 8 _ rfl (hL 8 (by simp))
     have e9 := HV 9 _ rfl (hL 9 (by simp))
     have e10 := HV 10 _ rfl (hL 10 (by simp))
     have e11 := HV 11 _ rfl (hL 11 (by simp))
     have hA := s0
     rw [HFR.out, e0, e1, e2, e3, e4, e5, e6, e7, e8, e9, e10, e11]
     clear hL HV HFR e0 e1 e2 e3 e4 e5 e6 e7 e8 e9 e10 e11 s0
     have HA6 := Lib.hid hA
     clear hA
     go_wp2_with fail
     exact ⟨⟨k + 1, by omega, by go_num, Lib.hid ⟨HS.out, HJ.out.2.trans HA6.out⟩⟩, by simp [intOf]; omega⟩
   | false =>
    have HF := Lib.hid (show eqL la lb = false from eqL_ne la lb k (by rw [HXX.out.1, HXX.out.2]; exact hbo))
    rw [hbo] at HCALL
    clear hbo
    go_upto_region 6 with fail
    refine wp_named fun a0 ha0 => ?_
    obtain ⟨fr, hfr⟩ : ∃ fr : (Nat → Value) → Act, ∀ V, fr V = ((((((((((((a0.put (some 19) (V 0)).put (some 20) (V 1)).put (some 21) (V 2)).put (some 22) (V 3)).put (some 23) (V 4)).put (some 24) (V 5)).put (some 25) (V 6)).put (some 26) (V 7)).put (some 27) (V 8)).put (some 28) (V 9)).put (some 29) (V 10)).put (some 30) (V 11)) := ⟨_, fun _ => rfl⟩
    rw [ha0] at hfr
    simp only [Act.put, List.setIfInBounds_toArray, List.set_cons_zero, List.set_cons_succ] at hfr
    have HFR := Lib.hid hfr
    clear hfr
    refine wp_region_inv (by kernel_rfl) (by kernel_rfl) (fun L A W => ∃ V : Nat → Value, A = fr V ∧ Vals (fun j => ([some (.pointer (some ⟨w.heap.size, 0, none⟩)), some (.slice (some ⟨b1, o1, none⟩) la.length c1), some (.int .i64 (k : Nat)), some (.pointer (some ⟨b1, o1 + k * 8, none⟩)), some (.agg (acc p u v)), some (.pointer (some ⟨w.heap.size + 1, 0, none⟩)), some (.slice (some ⟨b2, o2, none⟩) la.length c2), some (.int .i64 (k : Nat)), some (.pointer (some ⟨b2, o2 + k * 8, none⟩)), some (.agg (acc q u2 v2)), some (.bool false), some (.bool true)] : List (Option Value)).getD j none) L V ∧ (Ext wr W)) ?_ ⟨?_, ?_, ?_, ?_, ?_, ?_, ?_, ?_, ?_, ?_, ?_, ?_, trivial⟩ ?_
    ·refine ⟨fun j => a0.tmps.getD (([19, 20, 21, 22, 23, 24, 25, 26, 27, 28, 29, 30] : List Nat).getD j 0) undef, ?_, Vals.no _ _ _ (far_none _ _ rfl), (Ext.refl _).drew⟩
     rw [HFR.out, ha0]
     rfl
    all_goals clear ha0
    ·rintro L A W K hL hC hW ⟨V, rfl, HV, s0⟩ hK
     have H := Lib.hid (show ∀ W', Ext W W' → K (fr (upd V 0 (.pointer (some ⟨w.heap.size, 0, none⟩)))) W' from fun W' he => hK _ _ ⟨_, rfl, HV.us 0 _ rfl, Ext.trans s0 he⟩)
     clear hK hC hW hL HV s0
     rw [HFR.out]
     go_wp2_with fail
     show K _ _; have := H.out _ (Ext.refl _); rw [HFR.out] at this
     exact this
    ·rintro L A W K hL hC hW ⟨V, rfl, HV, s0⟩ hK
     have e0 := HV 0 _ rfl (hW 0 rfl)
     have hB := s0
     have H := Lib.hid (show ∀ W', Ext W W' → K (fr (upd V 1 (.slice (some ⟨b1, o1, none⟩) la.length c1))) W' from fun W' he => hK _ _ ⟨_, rfl, HV.us 1 _ rfl, Ext.trans s0 he⟩)
     have HU := Lib.hid (show (upd V 1 (.slice (some ⟨b1, o1, none⟩) la.length c1)) 0 = .pointer (some ⟨w.heap.size, 0, none⟩) from e0)
     clear hK hC hW hL HV s0
     rw [HFR.out, e0]
     clear e0
     have hcl := (Cs.ext HB0.out.1 (HE.out.trans hB)).cell 0 _ rfl
     clear hB
     go_wp2_with fail
     show K _ _; have := H.out _ (Ext.refl _); rw [HFR.out] at this
     obtain u0 := HU.out
     rw [u0] at this
     exact this
    ·rintro L A W K hL hC hW ⟨V, rfl, HV, s0⟩ hK
     have H := Lib.hid (show ∀ W', Ext W W' → K (fr (upd V 2 (.int .i64 (k : Nat)))) W' from fun W' he => hK _ _ ⟨_, rfl, HV.us 2 _ rfl, Ext.trans s0 he⟩)
     clear hK hC hW hL HV s0
     rw [HFR.out]
     go_wp2_with fail
     show K _ _; have := H.out _ (Ext.refl _); rw [HFR.out] at this
     exact this
    ·rintro L A W K hL hC hW ⟨V, rfl, HV, s0⟩ hK
     have e1 := HV 1 _ rfl (hW 1 rfl)
     have e2 := HV 2 _ rfl (hW 2 rfl)
     have H := Lib.hid (show ∀ W', Ext W W' → K (fr (upd V 3 (.pointer (some ⟨b1, o1 + k * 8, none⟩)))) W' from fun W' he => hK _ _ ⟨_, rfl, HV.us 3 _ rfl, Ext.trans s0 he⟩)
     have HU := Lib.hid (show (upd V 3 (.pointer (some ⟨b1, o1 + k * 8, none⟩))) 1 = .slice (some ⟨b1, o1, none⟩) la.length c1 ∧ (upd V 3 (.pointer (some ⟨b1, o1 + k * 8, none⟩))) 2 = .int .i64 (k : Nat) from ⟨e1, e2⟩)
     clear hK hC hW hL HV s0
     rw [HFR.out, e1, e2]
     clear e1 e2
     go_wp2_with fail
     show K _ _; have := H.out _ (Ext.refl _); rw [HFR.out] at this
     obtain ⟨u1, u2⟩ := HU.out
     rw [u1, u2] at this
     exact this
    ·rintro L A W K hL hC hW ⟨V, rfl, HV, s0⟩ hK
     have e3 := HV 3 _ rfl (hW 3 rfl)
     have hB := s0
     have H := Lib.hid (show ∀ W', Ext W W' → K (fr (upd V 4 (.agg (acc p u v)))) W' from fun W' he => hK _ _ ⟨_, rfl, HV.us 4 _ rfl, Ext.trans s0 he⟩)
     have HU := Lib.hid (show (upd V 4 (.agg (acc p u v))) 3 = .pointer (some ⟨b1, o1 + k * 8, none⟩) from e3)
     clear hK hC hW hL HV s0
     rw [HFR.out, e3]
     clear e3
     have HCR := Lib.hid (fun (j : Nat) (z : Value) (hz : (acc p u v).toList[j]? = some z) => hB.cell (X1.out j z hz))
     clear hB
     ((with_reducible refine wpList_load_ac ?_ (.tmp 22) ?_ b1 (o1 + k * 8) p u v ?_ ?_ ?_); (exact rfl); (exact rfl); (exact rfl); (exact HCR.out))
     show K _ _; have := H.out _ (Ext.refl _); rw [HFR.out] at this
     obtain u3 := HU.out
     rw [u3] at this
     exact this
    ·rintro L A W K hL hC hW ⟨V, rfl, HV, s0⟩ hK
     have H := Lib.hid (show ∀ W', Ext W W' → K (fr (upd V 5 (.pointer (some ⟨w.heap.size + 1, 0, none⟩)))) W' from fun W' he => hK _ _ ⟨_, rfl, HV.us 5 _ rfl, Ext.trans s0 he⟩)
     clear hK hC hW hL HV s0
     rw [HFR.out]
     go_wp2_with fail
     show K _ _; have := H.out _ (Ext.refl _); rw [HFR.out] at this
     exact this
    ·rintro L A W K hL hC hW ⟨V, rfl, HV, s0⟩ hK
     have e5 := HV 5 _ rfl (hW 5 rfl)
     have hB := s0
     have H := Lib.hid (show ∀ W', Ext W W' → K (fr (upd V 6 (.slice (some ⟨b2, o2, none⟩) la.length c2))) W' from fun W' he => hK _ _ ⟨_, rfl, HV.us 6 _ rfl, Ext.trans s0 he⟩)
     have HU := Lib.hid (show (upd V 6 (.slice (some ⟨b2, o2, none⟩) la.length c2)) 5 = .pointer (some ⟨w.heap.size + 1, 0, none⟩) from e5)
     clear hK hC hW hL HV s0
     rw [HFR.out, e5]
     clear e5
     have hcl := (Cs.ext HB0.out.2.1 (HE.out.trans hB)).cell 0 _ rfl
     clear hB
     go_wp2_with fail
     show K _ _; have := H.out _ (Ext.refl _); rw [HFR.out] at this
     obtain u5 := HU.out
     rw [u5] at this
     exact this
    ·rintro L A W K hL hC hW ⟨V, rfl, HV, s0⟩ hK
     have H := Lib.hid (show ∀ W', Ext W W' → K (fr (upd V 7 (.int .i64 (k : Nat)))) W' from fun W' he => hK _ _ ⟨_, rfl, HV.us 7 _ rfl, Ext.trans s0 he⟩)
     clear hK hC hW hL HV s0
     rw [HFR.out]
     go_wp2_with fail
     show K _ _; have := H.out _ (Ext.refl _); rw [HFR.out] at this
     exact this
    ·rintro L A W K hL hC hW ⟨V, rfl, HV, s0⟩ hK
     have e6 := HV 6 _ rfl (hW 6 rfl)
     have e7 := HV 7 _ rfl (hW 7 rfl)
     have H := Lib.hid (show ∀ W', Ext W W' → K (fr (upd V 8 (.pointer (some ⟨b2, o2 + k * 8, none⟩)))) W' from fun W' he => hK _ _ ⟨_, rfl, HV.us 8 _ rfl, Ext.trans s0 he⟩)
     have HU := Lib.hid (show (upd V 8 (.pointer (some ⟨b2, o2 + k * 8, none⟩))) 6 = .slice (some ⟨b2, o2, none⟩) la.length c2 ∧ (upd V 8 (.pointer (some ⟨b2, o2 + k * 8, none⟩))) 7 = .int .i64 (k : Nat) from ⟨e6, e7⟩)
     clear hK hC hW hL HV s0
     rw [HFR.out, e6, e7]
     clear e6 e7
     go_wp2_with fail
     show K _ _; have := H.out _ (Ext.refl _); rw [HFR.out] at this
     obtain ⟨u6, u7⟩ := HU.out
     rw [u6, u7] at this
     exact this
    ·rintro L A W K hL hC hW ⟨V, rfl, HV, s0⟩ hK
     have e8 := HV 8 _ rfl (hW 8 rfl)
     have hB := s0
     have H := Lib.hid (show ∀ W', Ext W W' → K (fr (upd V 9 (.agg (acc q u2 v2)))) W' from fun W' he => hK _ _ ⟨_, rfl, HV.us 9 _ rfl, Ext.trans s0 he⟩)
     have HU := Lib.hid (show (upd V 9 (.agg (acc q u2 v2))) 8 = .pointer (some ⟨b2, o2 + k * 8, none⟩) from e8)
     clear hK hC hW hL HV s0
     rw [HFR.out, e8]
     clear e8
     have HCR := Lib.hid (fun (j : Nat) (z : Value) (hz : (acc q u2 v2).toList[j]? = some z) => hB.cell (X2.out j z hz))
     clear hB
     ((with_reducible refine wpList_load_ac ?_ (.tmp 27) ?_ b2 (o2 + k * 8) q u2 v2 ?_ ?_ ?_); (exact rfl); (exact rfl); (exact rfl); (exact HCR.out))
     show K _ _; have := H.out _ (Ext.refl _); rw [HFR.out] at this
     obtain u8 := HU.out
     rw [u8] at this
     exact this
    ·rintro L A W K hL hC hW ⟨V, rfl, HV, s0⟩ hK
     have e4 := HV 4 _ rfl (hW 4 rfl)
     have e9 := HV 9 _ rfl (hW 9 rfl)
     have hB := s0
     have H := Lib.hid (show ∀ W', Ext W W' → K (fr (upd V 10 (.bool false))) W' from fun W' he => hK _ _ ⟨_, rfl, HV.us 10 _ rfl, Ext.trans s0 he⟩)
     have HU := Lib.hid (show (upd V 10 (.bool false)) 4 = .agg (acc p u v) ∧ (upd V 10 (.bool false)) 9 = .agg (acc q u2 v2) from ⟨e4, e9⟩)
     clear hK hC hW hL HV s0
     rw [HFR.out, e4, e9]
     clear e4 e9
     have HB' := Lib.hid hB
     clear hB
     go_wp2_with fail
     refine (HCALL.out _ HB'.out).mono ?_
     rintro e wx ⟨rfl, he⟩
     have := H.out _ he
     clear H
     go_wp2_with fail
     show K _ _
     rw [HFR.out] at this
     obtain ⟨u4, u9⟩ := HU.out
     rw [u4, u9] at this
     exact this
    ·rintro L A W K hL hC hW ⟨V, rfl, HV, s0⟩ hK
     have e10 := HV 10 _ rfl (hW 10 rfl)
     have H := Lib.hid (show ∀ W', Ext W W' → K (fr (upd V 11 (.bool true))) W' from fun W' he => hK _ _ ⟨_, rfl, HV.us 11 _ rfl, Ext.trans s0 he⟩)
     have HU := Lib.hid (show (upd V 11 (.bool true)) 10 = .bool false from e10)
     clear hK hC hW hL HV s0
     rw [HFR.out, e10]
     clear e10
     go_wp2_with fail
     show K _ _; have := H.out _ (Ext.refl _); rw [HFR.out] at this
     obtain u10 := HU.out
     rw [u10] at this
     exact this
    ·rintro L A W hL ⟨V, rfl, HV, s0⟩
     have e0 := HV 0 _ rfl (hL 0 (by simp))
     have e1 := HV 1 _ rfl (hL 1 (by simp))
     have e2 := HV 2 _ rfl (hL 2 (by simp))
     have e3 := HV 3 _ rfl (hL 3 (by simp))
     have e4 := HV 4 _ rfl (hL 4 (by simp))
     have e5 := HV 5 _ rfl (hL 5 (by simp))
     have e6 := HV 6 _ rfl (hL 6 (by simp))
     have e7 := HV 7 _ rfl (hL 7 (by simp))
     have e8 := HV 8 _ rfl (hL 8 (by simp))
     have e9 := HV 9 _ rfl (hL 9 (by simp))
     have e10 := HV 10 _ rfl (hL 10 (by simp))
     have e11 := HV 11 _ rfl (hL 11 (by simp))
     have hA := s0
     rw [HFR.out, e0, e1, e2, e3, e4, e5, e6, e7, e8, e9, e10, e11]
     clear hL HV HFR e0 e1 e2 e3 e4 e5 e6 e7 e8 e9 e10 e11 s0
     have HA6 := Lib.hid hA
     clear hA
     go_wp2_with fail
     go_ret
     exact ⟨by rw [HF.out]; rfl, HE0.out.trans HA6.out⟩
  ·obtain rfl : k = la.length := by omega
   have HF := Lib.hid (eqL_all la lb HL.out HJ.out.1)
   go_wp2_with fail
   go_ret
   exact ⟨by rw [HF.out]; rfl, HE0.out⟩
def stB (l : List Ac) (i : Nat) : Prop := (l.getD i acz).rightB = true ∧ (l.getD i acz).emptyB = false ∧ (0 < i → (l.getD (i - 1) acz).addr < (l.getD i acz).addr)
theorem rise_of_steps : ∀ (l : List Ac), (∀ i, i + 1 < l.length → (l.getD i acz).addr < (l.getD (i + 1) acz).addr) → RiseA l
 | [], _ => List.Pairwise.nil
 | [p], _ => List.pairwise_singleton _ _
 | p :: q :: l, h => by
  have ih := rise_of_steps (q :: l) (fun i hi => by have := h (i + 1) (by simpa using hi); simpa using this)
  have h0 : p.addr < q.addr := by have := h 0 (by simp); simpa using this
  refine List.pairwise_cons.2 ⟨fun r hr => ?_, ih⟩
  rcases List.mem_cons.1 hr with rfl | hr
  ·exact h0
  ·exact Nat.lt_trans h0 ((List.pairwise_cons.1 ih).1 r hr)
theorem getD_mem' {l : List Ac} {i : Nat} (h : i < l.length) : l.getD i acz ∈ l := by
 rw [List.getD_eq_getElem?_getD, List.getElem?_eq_getElem h]
 exact List.getElem_mem h
theorem mem_getD {l : List Ac} {p : Ac} (h : p ∈ l) : ∃ i, i < l.length ∧ l.getD i acz = p := by
 obtain ⟨i, hi, e⟩ := List.getElem_of_mem h
 exact ⟨i, hi, by rw [List.getD_eq_getElem?_getD, List.getElem?_eq_getElem hi]; exact e⟩
theorem rise_steps {l : List Ac} (h : RiseA l) (i : Nat) (h0 : 0 < i) (hi : i < l.length) : (l.getD (i - 1) acz).addr < (l.getD i acz).addr := by
 have := List.pairwise_iff_getElem.1 h (i - 1) i (by omega) hi (by omega)
 rw [List.getD_eq_getElem?_getD, List.getD_eq_getElem?_getD, List.getElem?_eq_getElem hi, List.getElem?_eq_getElem (show i - 1 < l.length by omega)]
 exact this
theorem right_yes {l : List Ac} (hok : ∀ p ∈ l, p.ok) (h : ∀ i, i < l.length → stB l i) : rightL l = (decide (freeN l ≤ 24) && !(sumW (bals l)).2) := by
 rw [Bool.eq_iff_iff, rt_iff hok, Bool.and_eq_true, decide_eq_true_eq, Bool.not_eq_true', sumW_eq (bals l) (fun x hx => by obtain ⟨p, hp, rfl⟩ := List.mem_map.1 hx; exact (hok p hp).2.1)]
 simp only [decide_eq_false_iff_not, Nat.not_le]
 refine ⟨fun r => ⟨r.free, r.fits⟩, fun r => ⟨rise_of_steps l (fun i hi => by have := (h (i + 1) hi).2.2 (by omega); simpa using this), fun p hp => ?_, r.1, r.2⟩⟩
 obtain ⟨i, hi, e⟩ := mem_getD hp
 have := h i hi
 unfold stB at this
 rw [e] at this
 refine ⟨?_, this.1, this.2.1⟩
 have ha := this.1
 simp only [Ac.rightB, Bool.and_eq_true, decide_eq_true_eq] at ha
 omega
theorem right_no {l : List Ac} (hok : ∀ p ∈ l, p.ok) {i : Nat} (hi : i < l.length) (h : ¬ stB l i) : rightL l = false := by
 cases hr : rightL l with
 | false => rfl
 | true =>
  have r := (rt_iff hok).1 hr
  have := r.each _ (getD_mem' hi)
  exact absurd ⟨this.2.1, this.2.2, fun h0 => rise_steps r.rise i h0 hi⟩ h
theorem ext_two {a b W W' : World} (h : Ext a W ∧ Ext b W) (he : Ext W W') : Ext a W' ∧ Ext b W' := ⟨h.1.trans he, h.2.trans he⟩
set_option maxRecDepth 100000 in
set_option maxHeartbeats 16000000 in
theorem refRight_any (sv : Value) (l : List Ac) (w : World) (hs : Acs w sv l) (hl : l.length ≤ 10000) :
  Calls Try.prog 43 #[.agg #[sv]] w fun e w' => e = .returned (.bool (rightL l)) ∧ Ext w w' := by
 have HS := Lib.hid hs
 have HL := Lib.hid hl
 have HOKS := Lib.hid hs.oks
 obtain ⟨A0, c0, rfl, a1, a2⟩ := hs.len
 unfold maxLen at a2
 obtain ⟨w0, hw0⟩ : ∃ w0, (w.alloc (.cells #[.slice A0 l.length c0] 24)) = w0 := ⟨_, rfl⟩
 have HW0 := Lib.hid hw0
 have HB0 : Hid (Cs w0 w.heap.size 24 #[.slice A0 l.length c0] ∧ Ext w w0) := by
  rw [← hw0]
  exact Lib.hid ⟨Cs.new _ _ _ _ rfl, (Ext.refl w).alloc _⟩
 have x1 : w0.cell? ⟨w.heap.size, 0, none⟩ = some (.slice A0 l.length c0) := HB0.out.1.cell 0 _ rfl
 clear hs hw0
 go_enter Try.func43, Try.ntmps43
 go_upto_region 1 with fail
 rw [HW0.out]
 clear HW0
 go_wp2_with fail
 clear x1
 go_loopw [8] (fun iv wr => ∃ k : Nat, k ≤ l.length ∧ iv = .int .i64 k ∧ Hid ((∀ j, j < k → stB l j) ∧ Ext w0 wr)) (fun iv _ => l.length - (intOf iv).toNat)
 case atStart => exact ⟨0, by omega, rfl, Lib.hid ⟨fun j hj => by omega, Ext.refl _⟩⟩
 case round =>
  obtain ⟨k, hk, rfl, HJ⟩ := hrel
  have HE := Lib.hid HJ.out.2
  have HE0 := Lib.hid (HB0.out.2.trans HE.out)
  by_cases hlt : k < l.length
  ·have hd : decide (k < l.length) = true := decide_eq_true hlt
   obtain ⟨b, o, u, v, rfl, x1, hu, hv, hp⟩ := (HS.out.ext HE0.out).at k hlt
   have HR := Lib.hid x1
   have HUV := Lib.hid (And.intro hu hv)
   have HK := Lib.hid hlt
   have HOK := Lib.hid hp
   clear x1 hu hv hp
   have HX0 := Lib.hid (fun (h0 : 0 < k) => (HS.out.ext HE0.out).at (k - 1) (by omega))
   obtain ⟨p, hpp⟩ : ∃ p, l.getD k acz = p := ⟨_, rfl⟩
   have HPP := Lib.hid hpp
   rw [hpp] at HR HUV HOK
   clear hpp
   go_upto_region 4 with (first
    | ((with_reducible refine wpList_load_ac ?_ (.tmp 11) ?_ b (o + k * 8) p u v ?_ ?_ ?_); (exact rfl); (exact rfl); (exact rfl); (exact HR.out))
    | ((with_reducible refine wpList_store_ac ?_ ?_ (.tmp 4) (.tmp 12) ?_ wr.heap.size az0 p u v ?_ ?_ ?_ ?_ ?_ ?_ ?_); (exact rfl); (exact rfl); (exact rfl); (exact bs_one HUV.out.1); (exact pks_one HUV.out.2); (exact rfl); (exact rfl); (exact Cs.new _ _ _ _ rfl); (exact rfl); intro w4 k4 g4; have K4 := Lib.hid k4; have HX4 := Lib.hid (((Ext.refl wr).alloc _).grown g4 (Nat.le_refl _)); clear k4 g4))
   have HC1 := Lib.hid (fun W (h : Ext w4 W) => rightAccount_any p u v W HOK.out ((HUV.out.1.ext HX4.out).ext h) ((HUV.out.2.ext HX4.out).ext h))
   have HC2 := Lib.hid (fun W (h : Ext w4 W) => refEmpty_any p u v W HOK.out ((HUV.out.1.ext HX4.out).ext h) ((HUV.out.2.ext HX4.out).ext h))
   obtain ⟨B, hB'⟩ : ∃ B, wr.heap.size = B := ⟨_, rfl⟩
   rw [hB'] at K4 ⊢
   clear hB' HR
   cases h1 : p.rightB with
   | false =>
    have HF := Lib.hid (right_no HOKS.out HK.out (fun h => by have := h.1; rw [HPP.out, h1] at this; cases this))
    rw [h1] at HC1
    clear h1
    refine wp_named fun a0 ha0 => ?_
    obtain ⟨fr, hfr⟩ : ∃ fr : (Nat → Value) → Act, ∀ V, fr V = (((((((((((((((((((((((a0.put (some 13) (V 0)).put (some 14) (V 1)).put (some 15) (V 2)).put (some 16) (V 3)).put (some 17) (V 4)).put (some 18) (V 5)).put (some 19) (V 6)).put (some 20) (V 7)).put (some 21) (V 8)).put (some 22) (V 9)).put (some 23) (V 10)).put (some 24) (V 11)).put (some 25) (V 12)).put (some 26) (V 13)).put (some 27) (V 14)).put (some 28) (V 15)).put (some 29) (V 16)).put (some 30) (V 17)).put (some 31) (V 18)).put (some 32) (V 19)).put (some 33) (V 20)).put (some 34) (V 21)).put (some 35) (V 22)) := ⟨_, fun _ => rfl⟩
    rw [ha0] at hfr
    simp only [Act.put, List.setIfInBounds_toArray, List.set_cons_zero, List.set_cons_succ] at hfr
    have HFR := Lib.hid hfr
    clear hfr
    refine wp_region_inv (by kernel_rfl) (by kernel_rfl) (fun L A W => ∃ V : Nat → Value, A = fr V ∧ Vals (fun j => ([some (.agg (acc p u v)), some (.bool false), some (.bool true), some (.bool true), some (undef), some (undef), some (.bool true), some (.bool true), some (undef), some (undef), some (undef), some (undef), some (undef), some (undef), some (undef), some (undef), some (undef), some (undef), some (undef), some (undef), some (undef), some (undef), some (.bool true)] : List (Option Value)).getD j none) L V ∧ (Ext wr W ∧ Ext w4 W)) ?_ ⟨?_, ?_, ?_, ?_, ?_, ?_, ?_, ?_, ?_, ?_, ?_, ?_, ?_, ?_, ?_, ?_, ?_, ?_, ?_, ?_, ?_, ?_, ?_, trivial⟩ ?_
    ·refine ⟨fun j => a0.tmps.getD (([13, 14, 15, 16, 17, 18, 19, 20, 21, 22, 23, 24, 25, 26, 27, 28, 29, 30, 31, 32, 33, 34, 35] : List Nat).getD j 0) undef, ?_, Vals.no _ _ _ (far_none _ _ rfl), ⟨HX4.out.trans (Ext.refl _).drew, (Ext.refl _).drew⟩⟩
     rw [HFR.out, ha0]
     rfl
    all_goals clear ha0
    ·rintro L A W K hL hC hW ⟨V, rfl, HV, s0⟩ hK
     have hB := s0
     have H := Lib.hid (show ∀ W', Ext W W' → K (fr (upd V 0 (.agg (acc p u v)))) W' from fun W' he => hK _ _ ⟨_, rfl, HV.us 0 _ rfl, ext_two s0 he⟩)
     clear hK hC hW hL HV s0
     rw [HFR.out]
     have HCR := Lib.hid (Ab.range (Ab.ext K4.out hB.2))
     clear hB
     ((with_reducible refine wpList_load_ac ?_ (.tmp 4) ?_ B 0 p u v ?_ ?_ ?_); (exact rfl); (exact rfl); (exact rfl); (exact HCR.out))
     show K _ _; have := H.out _ (Ext.refl _); rw [HFR.out] at this
     exact this
    ·rintro L A W K hL hC hW ⟨V, rfl, HV, s0⟩ hK
     have e0 := HV 0 _ rfl (hW 0 rfl)
     have hB := s0
     have H := Lib.hid (show ∀ W', Ext W W' → K (fr (upd V 1 (.bool false))) W' from fun W' he => hK _ _ ⟨_, rfl, HV.us 1 _ rfl, ext_two s0 he⟩)
     have HU := Lib.hid (show (upd V 1 (.bool false)) 0 = .agg (acc p u v) from e0)
     clear hK hC hW hL HV s0
     rw [HFR.out, e0]
     clear e0
     have HB' := Lib.hid hB
     clear hB
     go_wp2_with fail
     refine (HC1.out _ HB'.out.2).mono ?_
     rintro e wx ⟨rfl, he⟩
     have := H.out _ he
     clear H
     go_wp2_with fail
     show K _ _
     rw [HFR.out] at this
     obtain u0 := HU.out
     rw [u0] at this
     exact this
    ·rintro L A W K hL hC hW ⟨V, rfl, HV, s0⟩ hK
     have e1 := HV 1 _ rfl (hW 1 rfl)
     have H := Lib.hid (show ∀ W', Ext W W' → K (fr (upd V 2 (.bool true))) W' from fun W' he => hK _ _ ⟨_, rfl, HV.us 2 _ rfl, ext_two s0 he⟩)
     have HU := Lib.hid (show (upd V 2 (.bool true)) 1 = .bool false from e1)
     clear hK hC hW hL HV s0
     rw [HFR.out, e1]
     clear e1
     go_wp2_with fail
     show K _ _; have := H.out _ (Ext.refl _); rw [HFR.out] at this
     obtain u1 := HU.out
     rw [u1] at this
     exact this
    ·rintro L A W K hL hC hW ⟨V, rfl, HV, s0⟩ hK
     have e2 := HV 2 _ rfl (hW 2 rfl)
     have H := Lib.hid (show ∀ W', Ext W W' → K (fr (upd V 3 (.bool true))) W' from fun W' he => hK _ _ ⟨_, rfl, HV.us 3 _ rfl, ext_two s0 he⟩)
     have HU := Lib.hid (show (upd V 3 (.bool true)) 2 = .bool true from e2)
     clear hK hC hW hL HV s0
     rw [HFR.out, e2]
     clear e2
     go_wp2_with fail
     show K _ _; have := H.out _ (Ext.refl _); rw [HFR.out] at this
     obtain u2 := HU.out
     rw [u2] at this
     exact this
    ·rintro L A W K hL hC hW ⟨V, rfl, HV, s0⟩ hK
     have e3 := HV 3 _ rfl (hW 3 rfl)
     have H := Lib.hid (show ∀ W', Ext W W' → K (fr (upd V 4 (undef))) W' from fun W' he => hK _ _ ⟨_, rfl, HV.us 4 _ rfl, ext_two s0 he⟩)
     have HU := Lib.hid (show (upd V 4 (undef)) 3 = .bool true from e3)
     clear hK hC hW hL HV s0
     rw [HFR.out, e3]
     clear e3
     go_wp2_with fail
     show K _ _; have := H.out _ (Ext.refl _); rw [HFR.out] at this
     obtain u3 := HU.out
     rw [u3] at this
     exact this
    ·rintro L A W K hL hC hW ⟨V, rfl, HV, s0⟩ hK
     have e3 := HV 3 _ rfl (hW 3 rfl)
     have e4 := HV 4 _ rfl (hW 4 rfl)
     have H := Lib.hid (show ∀ W', Ext W W' → K (fr (upd V 5 (undef))) W' from fun W' he => hK _ _ ⟨_, rfl, HV.us 5 _ rfl, ext_two s0 he⟩)
     have HU := Lib.hid (show (upd V 5 (undef)) 3 = .bool true ∧ (upd V 5 (undef)) 4 = undef from ⟨e3, e4⟩)
     clear hK hC hW hL HV s0
     rw [HFR.out, e3, e4]
     clear e3 e4
     go_wp2_with fail
     show K _ _; have := H.out _ (Ext.refl _); rw [HFR.out] at this
     obtain ⟨u3, u4⟩ := HU.out
     rw [u3, u4] at this
     exact this
    ·rintro L A W K hL hC hW ⟨V, rfl, HV, s0⟩ hK
     have e3 := HV 3 _ rfl (hW 3 rfl)
     have e5 := HV 5 _ rfl (hW 5 rfl)
     have H := Lib.hid (show ∀ W', Ext W W' → K (fr (upd V 6 (.bool true))) W' from fun W' he => hK _ _ ⟨_, rfl, HV.us 6 _ rfl, ext_two s0 he⟩)
     have HU := Lib.hid (show (upd V 6 (.bool true)) 3 = .bool true ∧ (upd V 6 (.bool true)) 5 = undef from ⟨e3, e5⟩)
     clear hK hC hW hL HV s0
     rw [HFR.out, e3, e5]
     clear e3 e5
     go_wp2_with fail
     show K _ _; have := H.out _ (Ext.refl _); rw [HFR.out] at this
     obtain ⟨u3, u5⟩ := HU.out
     rw [u3, u5] at this
     exact this
    ·rintro L A W K hL hC hW ⟨V, rfl, HV, s0⟩ hK
     have e6 := HV 6 _ rfl (hW 6 rfl)
     have H := Lib.hid (show ∀ W', Ext W W' → K (fr (upd V 7 (.bool true))) W' from fun W' he => hK _ _ ⟨_, rfl, HV.us 7 _ rfl, ext_two s0 he⟩)
     have HU := Lib.hid (show (upd V 7 (.bool true)) 6 = .bool true from e6)
     clear hK hC hW hL HV s0
     rw [HFR.out, e6]
     clear e6
     go_wp2_with fail
     show K _ _; have := H.out _ (Ext.refl _); rw [HFR.out] at this
     obtain u6 := HU.out
     rw [u6] at this
     exact this
    ·rintro L A W K hL hC hW ⟨V, rfl, HV, s0⟩ hK
     have e7 := HV 7 _ rfl (hW 7 rfl)
     have H := Lib.hid (show ∀ W', Ext W W' → K (fr (upd V 8 (undef))) W' from fun W' he => hK _ _ ⟨_, rfl, HV.us 8 _ rfl, ext_two s0 he⟩)
     have HU := Lib.hid (show (upd V 8 (undef)) 7 = .bool true from e7)
     clear hK hC hW hL HV s0
     rw [HFR.out, e7]
     clear e7
     go_wp2_with fail
     show K _ _; have := H.out _ (Ext.refl _); rw [HFR.out] at this
     obtain u7 := HU.out
     rw [u7] at this
     exact this
    ·rintro L A W K hL hC hW ⟨V, rfl, HV, s0⟩ hK
     have e7 := HV 7 _ rfl (hW 7 rfl)
     have e8 := HV 8 _ rfl (hW 8 rfl)
     have H := Lib.hid (show ∀ W', Ext W W' → K (fr (upd V 9 (undef))) W' from fun W' he => hK _ _ ⟨_, rfl, HV.us 9 _ rfl, ext_two s0 he⟩)
     have HU := Lib.hid (show (upd V 9 (undef)) 7 = .bool true ∧ (upd V 9 (undef)) 8 = undef from ⟨e7, e8⟩)
     clear hK hC hW hL HV s0
     rw [HFR.out, e7, e8]
     clear e7 e8
     go_wp2_with fail
     show K _ _; have := H.out _ (Ext.refl _); rw [HFR.out] at this
     obtain ⟨u7, u8⟩ := HU.out
     rw [u7, u8] at this
     exact this
    ·rintro L A W K hL hC hW ⟨V, rfl, HV, s0⟩ hK
     have e7 := HV 7 _ rfl (hW 7 rfl)
     have e9 := HV 9 _ rfl (hW 9 rfl)
     have H := Lib.hid (show ∀ W', Ext W W' → K (fr (upd V 10 (undef))) W' from fun W' he => hK _ _ ⟨_, rfl, HV.us 10 _ rfl, ext_two s0 he⟩)
     have HU := Lib.hid (show (upd V 10 (undef)) 7 = .bool true ∧ (upd V 10 (undef)) 9 = undef from ⟨e7, e9⟩)
     clear hK hC hW hL HV s0
     rw [HFR.out, e7, e9]
     clear e7 e9
     go_wp2_with fail
     show K _ _; have := H.out _ (Ext.refl _); rw [HFR.out] at this
     obtain ⟨u7, u9⟩ := HU.out
     rw [u7, u9] at this
     exact this
    ·rintro L A W K hL hC hW ⟨V, rfl, HV, s0⟩ hK
     have e10 := HV 10 _ rfl (hW 10 rfl)
     have H := Lib.hid (show ∀ W', Ext W W' → K (fr (upd V 11 (undef))) W' from fun W' he => hK _ _ ⟨_, rfl, HV.us 11 _ rfl, ext_two s0 he⟩)
     have HU := Lib.hid (show (upd V 11 (undef)) 10 = undef from e10)
     clear hK hC hW hL HV s0
     rw [HFR.out, e10]
     clear e10
     go_wp2_with fail
     show K _ _; have := H.out _ (Ext.refl _); rw [HFR.out] at this
     obtain u10 := HU.out
     rw [u10] at this
     exact this
    ·rintro L A W K hL hC hW ⟨V, rfl, HV, s0⟩ hK
     have e10 := HV 10 _ rfl (hW 10 rfl)
     have e11 := HV 11 _ rfl (hW 11 rfl)
     have H := Lib.hid (show ∀ W', Ext W W' → K (fr (upd V 12 (undef))) W' from fun W' he => hK _ _ ⟨_, rfl, HV.us 12 _ rfl, ext_two s0 he⟩)
     have HU := Lib.hid (show (upd V 12 (undef)) 10 = undef ∧ (upd V 12 (undef)) 11 = undef from ⟨e10, e11⟩)
     clear hK hC hW hL HV s0
     rw [HFR.out, e10, e11]
     clear e10 e11
     go_wp2_with fail
     show K _ _; have := H.out _ (Ext.refl _); rw [HFR.out] at this
     obtain ⟨u10, u11⟩ := HU.out
     rw [u10, u11] at this
     exact this
    ·rintro L A W K hL hC hW ⟨V, rfl, HV, s0⟩ hK
     have e10 := HV 10 _ rfl (hW 10 rfl)
     have H := Lib.hid (show ∀ W', Ext W W' → K (fr (upd V 13 (undef))) W' from fun W' he => hK _ _ ⟨_, rfl, HV.us 13 _ rfl, ext_two s0 he⟩)
     have HU := Lib.hid (show (upd V 13 (undef)) 10 = undef from e10)
     clear hK hC hW hL HV s0
     rw [HFR.out, e10]
     clear e10
     go_wp2_with fail
     show K _ _; have := H.out _ (Ext.refl _); rw [HFR.out] at this
     obtain u10 := HU.out
     rw [u10] at this
     exact this
    ·rintro L A W K hL hC hW ⟨V, rfl, HV, s0⟩ hK
     have e10 := HV 10 _ rfl (hW 10 rfl)
     have e13 := HV 13 _ rfl (hW 13 rfl)
     have H := Lib.hid (show ∀ W', Ext W W' → K (fr (upd V 14 (undef))) W' from fun W' he => hK _ _ ⟨_, rfl, HV.us 14 _ rfl, ext_two s0 he⟩)
     have HU := Lib.hid (show (upd V 14 (undef)) 10 = undef ∧ (upd V 14 (undef)) 13 = undef from ⟨e10, e13⟩)
     clear hK hC hW hL HV s0
     rw [HFR.out, e10, e13]
     clear e10 e13
     go_wp2_with fail
     show K _ _; have := H.out _ (Ext.refl _); rw [HFR.out] at this
     obtain ⟨u10, u13⟩ := HU.out
     rw [u10, u13] at this
     exact this
    ·rintro L A W K hL hC hW ⟨V, rfl, HV, s0⟩ hK
     have e10 := HV 10 _ rfl (hW 10 rfl)
     have e12 := HV 12 _ rfl (hW 12 rfl)
     have e14 := HV 14 _ rfl (hW 14 rfl)
     have H := Lib.hid (show ∀ W', Ext W W' → K (fr (upd V 15 (undef))) W' from fun W' he => hK _ _ ⟨_, rfl, HV.us 15 _ rfl, ext_two s0 he⟩)
     have HU := Lib.hid (show (upd V 15 (undef)) 10 = undef ∧ (upd V 15 (undef)) 12 = undef ∧ (upd V 15 (undef)) 14 = undef from ⟨e10, e12, e14⟩)
     clear hK hC hW hL HV s0
     rw [HFR.out, e10, e12, e14]
     clear e10 e12 e14
     go_wp2_with fail
     show K _ _; have := H.out _ (Ext.refl _); rw [HFR.out] at this
     obtain ⟨u10, u12, u14⟩ := HU.out
     rw [u10, u12, u14] at this
     exact this
    ·rintro L A W K hL hC hW ⟨V, rfl, HV, s0⟩ hK
     have e10 := HV 10 _ rfl (hW 10 rfl)
     have e15 := HV 15 _ rfl (hW 15 rfl)
     have H := Lib.hid (show ∀ W', Ext W W' → K (fr (upd V 16 (undef))) W' from fun W' he => hK _ _ ⟨_, rfl, HV.us 16 _ rfl, ext_two s0 he⟩)
     have HU := Lib.hid (show (upd V 16 (undef)) 10 = undef ∧ (upd V 16 (undef)) 15 = undef from ⟨e10, e15⟩)
     clear hK hC hW hL HV s0
     rw [HFR.out, e10, e15]
     clear e10 e15
     go_wp2_with fail
     show K _ _; have := H.out _ (Ext.refl _); rw [HFR.out] at this
     obtain ⟨u10, u15⟩ := HU.out
     rw [u10, u15] at this
     exact this
    ·rintro L A W K hL hC hW ⟨V, rfl, HV, s0⟩ hK
     have e10 := HV 10 _ rfl (hW 10 rfl)
     have e16 := HV 16 _ rfl (hW 16 rfl)
     have H := Lib.hid (show ∀ W', Ext W W' → K (fr (upd V 17 (undef))) W' from fun W' he => hK _ _ ⟨_, rfl, HV.us 17 _ rfl, ext_two s0 he⟩)
     have HU := Lib.hid (show (upd V 17 (undef)) 10 = undef ∧ (upd V 17 (undef)) 16 = undef from ⟨e10, e16⟩)
     clear hK hC hW hL HV s0
     rw [HFR.out, e10, e16]
     clear e10 e16
     go_wp2_with fail
     show K _ _; have := H.out _ (Ext.refl _); rw [HFR.out] at this
     obtain ⟨u10, u16⟩ := HU.out
     rw [u10, u16] at this
     exact this
    ·rintro L A W K hL hC hW ⟨V, rfl, HV, s0⟩ hK
     have e10 := HV 10 _ rfl (hW 10 rfl)
     have H := Lib.hid (show ∀ W', Ext W W' → K (fr (upd V 18 (undef))) W' from fun W' he => hK _ _ ⟨_, rfl, HV.us 18 _ rfl, ext_two s0 he⟩)
     have HU := Lib.hid (show (upd V 18 (undef)) 10 = undef from e10)
     clear hK hC hW hL HV s0
     rw [HFR.out, e10]
     clear e10
     go_wp2_with fail
     show K _ _; have := H.out _ (Ext.refl _); rw [HFR.out] at this
     obtain u10 := HU.out
     rw [u10] at this
     exact this
    ·rintro L A W K hL hC hW ⟨V, rfl, HV, s0⟩ hK
     have e10 := HV 10 _ rfl (hW 10 rfl)
     have e18 := HV 18 _ rfl (hW 18 rfl)
     have H := Lib.hid (show ∀ W', Ext W W' → K (fr (upd V 19 (undef))) W' from fun W' he => hK _ _ ⟨_, rfl, HV.us 19 _ rfl, ext_two s0 he⟩)
     have HU := Lib.hid (show (upd V 19 (undef)) 10 = undef ∧ (upd V 19 (undef)) 18 = undef from ⟨e10, e18⟩)
     clear hK hC hW hL HV s0
     rw [HFR.out, e10, e18]
     clear e10 e18
     go_wp2_with fail
     show K _ _; have := H.out _ (Ext.refl _); rw [HFR.out] at this
     obtain ⟨u10, u18⟩ := HU.out
     rw [u10, u18] at this
     exact this
    ·rintro L A W K hL hC hW ⟨V, rfl, HV, s0⟩ hK
     have e10 := HV 10 _ rfl (hW 10 rfl)
     have e17 := HV 17 _ rfl (hW 17 rfl)
     have e19 := HV 19 _ rfl (hW 19 rfl)
     have H := Lib.hid (show ∀ W', Ext W W' → K (fr (upd V 20 (undef))) W' from fun W' he => hK _ _ ⟨_, rfl, HV.us 20 _ rfl, ext_two s0 he⟩)
     have HU := Lib.hid (show (upd V 20 (undef)) 10 = undef ∧ (upd V 20 (undef)) 17 = undef ∧ (upd V 20 (undef)) 19 = undef from ⟨e10, e17, e19⟩)
     clear hK hC hW hL HV s0
     rw [HFR.out, e10, e17, e19]
     clear e10 e17 e19
     go_wp2_with fail
     show K _ _; have := H.out _ (Ext.refl _); rw [HFR.out] at this
     obtain ⟨u10, u17, u19⟩ := HU.out
     rw [u10, u17, u19] at this
     exact this
    ·rintro L A W K hL hC hW ⟨V, rfl, HV, s0⟩ hK
     have e7 := HV 7 _ rfl (hW 7 rfl)
     have e10 := HV 10 _ rfl (hW 10 rfl)
     have e20 := HV 20 _ rfl (hW 20 rfl)
     have H := Lib.hid (show ∀ W', Ext W W' → K (fr (upd V 21 (undef))) W' from fun W' he => hK _ _ ⟨_, rfl, HV.us 21 _ rfl, ext_two s0 he⟩)
     have HU := Lib.hid (show (upd V 21 (undef)) 7 = .bool true ∧ (upd V 21 (undef)) 10 = undef ∧ (upd V 21 (undef)) 20 = undef from ⟨e7, e10, e20⟩)
     clear hK hC hW hL HV s0
     rw [HFR.out, e7, e10, e20]
     clear e7 e10 e20
     go_wp2_with fail
     show K _ _; have := H.out _ (Ext.refl _); rw [HFR.out] at this
     obtain ⟨u7, u10, u20⟩ := HU.out
     rw [u7, u10, u20] at this
     exact this
    ·rintro L A W K hL hC hW ⟨V, rfl, HV, s0⟩ hK
     have e7 := HV 7 _ rfl (hW 7 rfl)
     have e21 := HV 21 _ rfl (hW 21 rfl)
     have H := Lib.hid (show ∀ W', Ext W W' → K (fr (upd V 22 (.bool true))) W' from fun W' he => hK _ _ ⟨_, rfl, HV.us 22 _ rfl, ext_two s0 he⟩)
     have HU := Lib.hid (show (upd V 22 (.bool true)) 7 = .bool true ∧ (upd V 22 (.bool true)) 21 = undef from ⟨e7, e21⟩)
     clear hK hC hW hL HV s0
     rw [HFR.out, e7, e21]
     clear e7 e21
     go_wp2_with fail
     show K _ _; have := H.out _ (Ext.refl _); rw [HFR.out] at this
     obtain ⟨u7, u21⟩ := HU.out
     rw [u7, u21] at this
     exact this
    ·rintro L A W hL ⟨V, rfl, HV, s0⟩
     have e0 := HV 0 _ rfl (hL 0 (by simp))
     have e1 := HV 1 _ rfl (hL 1 (by simp))
     have e2 := HV 2 _ rfl (hL 2 (by simp))
     have e3 := HV 3 _ rfl (hL 3 (by simp))
     have e4 := HV 4 _ rfl (hL 4 (by simp))
     have e5 := HV 5 _ rfl (hL 5 (by simp))
     have e6 := HV 6 _ rfl (hL 6 (by simp))
     have e7 := HV 7 _ rfl (hL 7 (by simp))
     have e8 := HV 8 _ rfl (hL 8 (by simp))
     have e9 := HV 9 _ rfl (hL 9 (by simp))
     have e10 := HV 10 _ rfl (hL 10 (by simp))
     have e11 := HV 11 _ rfl (hL 11 (by simp))
     have e12 := HV 12 _ rfl (hL 12 (by simp))
     have e13 := HV 13 _ rfl (hL 13 (by simp))
     have e14 := HV 14 _ rfl (hL 14 (by simp))
     have e15 := HV 15 _ rfl (hL 15 (by simp))
     have e16 := HV 16 _ rfl (hL 16 (by simp))
     have e17 := HV 17 _ rfl (hL 17 (by simp))
     have e18 := HV 18 _ rfl (hL 18 (by simp))
     have e19 := HV 19 _ rfl (hL 19 (by simp))
     have e20 := HV 20 _ rfl (hL 20 (by simp))
     have e21 := HV 21 _ rfl (hL 21 (by simp))
     have e22 := HV 22 _ rfl (hL 22 (by simp))
     have hA := s0
     rw [HFR.out, e0, e1, e2, e3, e4, e5, e6, e7, e8, e9, e10, e11, e12, e13, e14, e15, e16, e17, e18, e19, e20, e21, e22]
     clear hL HV HFR e0 e1 e2 e3 e4 e5 e6 e7 e8 e9 e10 e11 e12 e13 e14 e15 e16 e17 e18 e19 e20 e21 e22 s0
     have HA6 := Lib.hid hA
     clear hA
     go_wp2_with fail
     go_ret
     exact ⟨by rw [HF.out]; rfl, HE0.out.trans HA6.out.1⟩
   | true =>
    have H1 := Lib.hid h1
    rw [h1] at HC1
    clear h1
    cases h2 : p.emptyB with
    | true =>
     have HF := Lib.hid (right_no HOKS.out HK.out (fun h => by have := h.2.1; rw [HPP.out, h2] at this; cases this))
     rw [h2] at HC2
     clear h2
     refine wp_named fun a0 ha0 => ?_
     obtain ⟨fr, hfr⟩ : ∃ fr : (Nat → Value) → Act, ∀ V, fr V = (((((((((((((((((((((((a0.put (some 13) (V 0)).put (some 14) (V 1)).put (some 15) (V 2)).put (some 16) (V 3)).put (some 17) (V 4)).put (some 18) (V 5)).put (some 19) (V 6)).put (some 20) (V 7)).put (some 21) (V 8)).put (some 22) (V 9)).put (some 23) (V 10)).put (some 24) (V 11)).put (some 25) (V 12)).put (some 26) (V 13)).put (some 27) (V 14)).put (some 28) (V 15)).put (some 29) (V 16)).put (some 30) (V 17)).put (some 31) (V 18)).put (some 32) (V 19)).put (some 33) (V 20)).put (some 34) (V 21)).put (some 35) (V 22)) := ⟨_, fun _ => rfl⟩
     rw [ha0] at hfr
     simp only [Act.put, List.setIfInBounds_toArray, List.set_cons_zero, List.set_cons_succ] at hfr
     have HFR := Lib.hid hfr
     clear hfr
     refine wp_region_inv (by kernel_rfl) (by kernel_rfl) (fun L A W => ∃ V : Nat → Value, A = fr V ∧ Vals (fun j => ([some (.agg (acc p u v)), some (.bool true), some (.bool false), some (.bool false), some (.agg (acc p u v)), some (.bool true), some (.bool true), some (.bool true), some (undef), some (undef), some (undef), some (undef), some (undef), some (undef), some (undef), some (undef), some (undef), some (undef), some (undef), some (undef), some (undef), some (undef), some (.bool true)] : List (Option Value)).getD j none) L V ∧ (Ext wr W ∧ Ext w4 W)) ?_ ⟨?_, ?_, ?_, ?_, ?_, ?_, ?_, ?_, ?_, ?_, ?_, ?_, ?_, ?_, ?_, ?_, ?_, ?_, ?_, ?_, ?_, ?_, ?_, trivial⟩ ?_
     ·refine ⟨fun j => a0.tmps.getD (([13, 14, 15, 16, 17, 18, 19, 20, 21, 22, 23, 24, 25, 26, 27, 28, 29, 30, 31, 32, 33, 34, 35] : List Nat).getD j 0) undef, ?_, Vals.no _ _ _ (far_none _ _ rfl), ⟨HX4.out.trans (Ext.refl _).drew, (Ext.refl _).drew⟩⟩
      rw [HFR.out, ha0]
      rfl
     all_goals clear ha0
     ·rintro L A W K hL hC hW ⟨V, rfl, HV, s0⟩ hK
      have hB := s0
      have H := Lib.hid (show ∀ W', Ext W W' → K (fr (upd V 0 (.agg (acc p u v)))) W' from fun W' he => hK _ _ ⟨_, rfl, HV.us 0 _ rfl, ext_two s0 he⟩)
      clear hK hC hW hL HV s0
      rw [HFR.out]
      have HCR := Lib.hid (Ab.range (Ab.ext K4.out hB.2))
      clear hB
      ((with_reducible refine wpList_load_ac ?_ (.tmp 4) ?_ B 0 p u v ?_ ?_ ?_); (exact rfl); (exact rfl); (exact rfl); (exact HCR.out))
      show K _ _; have := H.out _ (Ext.refl _); rw [HFR.out] at this
      exact this
     ·rintro L A W K hL hC hW ⟨V, rfl, HV, s0⟩ hK
      have e0 := HV 0 _ rfl (hW 0 rfl)
      have hB := s0
      have H := Lib.hid (show ∀ W', Ext W W' → K (fr (upd V 1 (.bool true))) W' from fun W' he => hK _ _ ⟨_, rfl, HV.us 1 _ rfl, ext_two s0 he⟩)
      have HU := Lib.hid (show (upd V 1 (.bool true)) 0 = .agg (acc p u v) from e0)
      clear hK hC hW hL HV s0
      rw [HFR.out, e0]
      clear e0
      have HB' := Lib.hid hB
      clear hB
      go_wp2_with fail
      refine (HC1.out _ HB'.out.2).mono ?_
      rintro e wx ⟨rfl, he⟩
      have := H.out _ he
      clear H
      go_wp2_with fail
      show K _ _
      rw [HFR.out] at this
      obtain u0 := HU.out
      rw [u0] at this
      exact this
     ·rintro L A W K hL hC hW ⟨V, rfl, HV, s0⟩ hK
      have e1 := HV 1 _ rfl (hW 1 rfl)
      have H := Lib.hid (show ∀ W', Ext W W' → K (fr (upd V 2 (.bool false))) W' from fun W' he => hK _ _ ⟨_, rfl, HV.us 2 _ rfl, ext_two s0 he⟩)
      have HU := Lib.hid (show (upd V 2 (.bool false)) 1 = .bool true from e1)
      clear hK hC hW hL HV s0
      rw [HFR.out, e1]
      clear e1
      go_wp2_with fail
      show K _ _; have := H.out _ (Ext.refl _); rw [HFR.out] at this
      obtain u1 := HU.out
      rw [u1] at this
      exact this
     ·rintro L A W K hL hC hW ⟨V, rfl, HV, s0⟩ hK
      have e2 := HV 2 _ rfl (hW 2 rfl)
      have H := Lib.hid (show ∀ W', Ext W W' → K (fr (upd V 3 (.bool false))) W' from fun W' he => hK _ _ ⟨_, rfl, HV.us 3 _ rfl, ext_two s0 he⟩)
      have HU := Lib.hid (show (upd V 3 (.bool false)) 2 = .bool false from e2)
      clear hK hC hW hL HV s0
      rw [HFR.out, e2]
      clear e2
      go_wp2_with fail
      show K _ _; have := H.out _ (Ext.refl _); rw [HFR.out] at this
      obtain u2 := HU.out
      rw [u2] at this
      exact this
     ·rintro L A W K hL hC hW ⟨V, rfl, HV, s0⟩ hK
      have e3 := HV 3 _ rfl (hW 3 rfl)
      have hB := s0
      have H := Lib.hid (show ∀ W', Ext W W' → K (fr (upd V 4 (.agg (acc p u v)))) W' from fun W' he => hK _ _ ⟨_, rfl, HV.us 4 _ rfl, ext_two s0 he⟩)
      have HU := Lib.hid (show (upd V 4 (.agg (acc p u v))) 3 = .bool false from e3)
      clear hK hC hW hL HV s0
      rw [HFR.out, e3]
      clear e3
      have HCR := Lib.hid (Ab.range (Ab.ext K4.out hB.2))
      clear hB
      ((with_reducible refine wpList_load_ac ?_ (.tmp 4) ?_ B 0 p u v ?_ ?_ ?_); (exact rfl); (exact rfl); (exact rfl); (exact HCR.out))
      show K _ _; have := H.out _ (Ext.refl _); rw [HFR.out] at this
      obtain u3 := HU.out
      rw [u3] at this
      exact this
     ·rintro L A W K hL hC hW ⟨V, rfl, HV, s0⟩ hK
      have e3 := HV 3 _ rfl (hW 3 rfl)
      have e4 := HV 4 _ rfl (hW 4 rfl)
      have hB := s0
      have H := Lib.hid (show ∀ W', Ext W W' → K (fr (upd V 5 (.bool true))) W' from fun W' he => hK _ _ ⟨_, rfl, HV.us 5 _ rfl, ext_two s0 he⟩)
      have HU := Lib.hid (show (upd V 5 (.bool true)) 3 = .bool false ∧ (upd V 5 (.bool true)) 4 = .agg (acc p u v) from ⟨e3, e4⟩)
      clear hK hC hW hL HV s0
      rw [HFR.out, e3, e4]
      clear e3 e4
      have HB' := Lib.hid hB
      clear hB
      go_wp2_with fail
      refine (HC2.out _ HB'.out.2).mono ?_
      rintro e wx ⟨rfl, he⟩
      have := H.out _ he
      clear H
      go_wp2_with fail
      show K _ _
      rw [HFR.out] at this
      obtain ⟨u3, u4⟩ := HU.out
      rw [u3, u4] at this
      exact this
     ·rintro L A W K hL hC hW ⟨V, rfl, HV, s0⟩ hK
      have e3 := HV 3 _ rfl (hW 3 rfl)
      have e5 := HV 5 _ rfl (hW 5 rfl)
      have H := Lib.hid (show ∀ W', Ext W W' → K (fr (upd V 6 (.bool true))) W' from fun W' he => hK _ _ ⟨_, rfl, HV.us 6 _ rfl, ext_two s0 he⟩)
      have HU := Lib.hid (show (upd V 6 (.bool true)) 3 = .bool false ∧ (upd V 6 (.bool true)) 5 = .bool true from ⟨e3, e5⟩)
      clear hK hC hW hL HV s0
      rw [HFR.out, e3, e5]
      clear e3 e5
      go_wp2_with fail
      show K _ _; have := H.out _ (Ext.refl _); rw [HFR.out] at this
      obtain ⟨u3, u5⟩ := HU.out
      rw [u3, u5] at this
      exact this
     ·rintro L A W K hL hC hW ⟨V, rfl, HV, s0⟩ hK
      have e6 := HV 6 _ rfl (hW 6 rfl)
      have H := Lib.hid (show ∀ W', Ext W W' → K (fr (upd V 7 (.bool true))) W' from fun W' he => hK _ _ ⟨_, rfl, HV.us 7 _ rfl, ext_two s0 he⟩)
      have HU := Lib.hid (show (upd V 7 (.bool true)) 6 = .bool true from e6)
      clear hK hC hW hL HV s0
      rw [HFR.out, e6]
      clear e6
      go_wp2_with fail
      show K _ _; have := H.out _ (Ext.refl _); rw [HFR.out] at this
      obtain u6 := HU.out
      rw [u6] at this
      exact this
     ·rintro L A W K hL hC hW ⟨V, rfl, HV, s0⟩ hK
      have e7 := HV 7 _ rfl (hW 7 rfl)
      have H := Lib.hid (show ∀ W', Ext W W' → K (fr (upd V 8 (undef))) W' from fun W' he => hK _ _ ⟨_, rfl, HV.us 8 _ rfl, ext_two s0 he⟩)
      have HU := Lib.hid (show (upd V 8 (undef)) 7 = .bool true from e7)
      clear hK hC hW hL HV s0
      rw [HFR.out, e7]
      clear e7
      go_wp2_with fail
      show K _ _; have := H.out _ (Ext.refl _); rw [HFR.out] at this
      obtain u7 := HU.out
      rw [u7] at this
      exact this
     ·rintro L A W K hL hC hW ⟨V, rfl, HV, s0⟩ hK
      have e7 := HV 7 _ rfl (hW 7 rfl)
      have e8 := HV 8 _ rfl (hW 8 rfl)
      have H := Lib.hid (show ∀ W', Ext W W' → K (fr (upd V 9 (undef))) W' from fun W' he => hK _ _ ⟨_, rfl, HV.us 9 _ rfl, ext_two s0 he⟩)
      have HU := Lib.hid (show (upd V 9 (undef)) 7 = .bool true ∧ (upd V 9 (undef)) 8 = undef from ⟨e7, e8⟩)
      clear hK hC hW hL HV s0
      rw [HFR.out, e7, e8]
      clear e7 e8
      go_wp2_with fail
      show K _ _; have := H.out _ (Ext.refl _); rw [HFR.out] at this
      obtain ⟨u7, u8⟩ := HU.out
      rw [u7, u8] at this
      exact this
     ·rintro L A W K hL hC hW ⟨V, rfl, HV, s0⟩ hK
      have e7 := HV 7 _ rfl (hW 7 rfl)
      have e9 := HV 9 _ rfl (hW 9 rfl)
      have H := Lib.hid (show ∀ W', Ext W W' → K (fr (upd V 10 (undef))) W' from fun W' he => hK _ _ ⟨_, rfl, HV.us 10 _ rfl, ext_two s0 he⟩)
      have HU := Lib.hid (show (upd V 10 (undef)) 7 = .bool true ∧ (upd V 10 (undef)) 9 = undef from ⟨e7, e9⟩)
      clear hK hC hW hL HV s0
      rw [HFR.out, e7, e9]
      clear e7 e9
      go_wp2_with fail
      show K _ _; have := H.out _ (Ext.refl _); rw [HFR.out] at this
      obtain ⟨u7, u9⟩ := HU.out
      rw [u7, u9] at this
      exact this
     ·rintro L A W K hL hC hW ⟨V, rfl, HV, s0⟩ hK
      have e10 := HV 10 _ rfl (hW 10 rfl)
      have H := Lib.hid (show ∀ W', Ext W W' → K (fr (upd V 11 (undef))) W' from fun W' he => hK _ _ ⟨_, rfl, HV.us 11 _ rfl, ext_two s0 he⟩)
      have HU := Lib.hid (show (upd V 11 (undef)) 10 = undef from e10)
      clear hK hC hW hL HV s0
      rw [HFR.out, e10]
      clear e10
      go_wp2_with fail
      show K _ _; have := H.out _ (Ext.refl _); rw [HFR.out] at this
      obtain u10 := HU.out
      rw [u10] at this
      exact this
     ·rintro L A W K hL hC hW ⟨V, rfl, HV, s0⟩ hK
      have e10 := HV 10 _ rfl (hW 10 rfl)
      have e11 := HV 11 _ rfl (hW 11 rfl)
      have H := Lib.hid (show ∀ W', Ext W W' → K (fr (upd V 12 (undef))) W' from fun W' he => hK _ _ ⟨_, rfl, HV.us 12 _ rfl, ext_two s0 he⟩)
      have HU := Lib.hid (show (upd V 12 (undef)) 10 = undef ∧ (upd V 12 (undef)) 11 = undef from ⟨e10, e11⟩)
      clear hK hC hW hL HV s0
      rw [HFR.out, e10, e11]
      clear e10 e11
      go_wp2_with fail
      show K _ _; have := H.out _ (Ext.refl _); rw [HFR.out] at this
      obtain ⟨u10, u11⟩ := HU.out
      rw [u10, u11] at this
      exact this
     ·rintro L A W K hL hC hW ⟨V, rfl, HV, s0⟩ hK
      have e10 := HV 10 _ rfl (hW 10 rfl)
      have H := Lib.hid (show ∀ W', Ext W W' → K (fr (upd V 13 (undef))) W' from fun W' he => hK _ _ ⟨_, rfl, HV.us 13 _ rfl, ext_two s0 he⟩)
      have HU := Lib.hid (show (upd V 13 (undef)) 10 = undef from e10)
      clear hK hC hW hL HV s0
      rw [HFR.out, e10]
      clear e10
      go_wp2_with fail
      show K _ _; have := H.out _ (Ext.refl _); rw [HFR.out] at this
      obtain u10 := HU.out
      rw [u10] at this
      exact this
     ·rintro L A W K hL hC hW ⟨V, rfl, HV, s0⟩ hK
      have e10 := HV 10 _ rfl (hW 10 rfl)
      have e13 := HV 13 _ rfl (hW 13 rfl)
      have H := Lib.hid (show ∀ W', Ext W W' → K (fr (upd V 14 (undef))) W' from fun W' he => hK _ _ ⟨_, rfl, HV.us 14 _ rfl, ext_two s0 he⟩)
      have HU := Lib.hid (show (upd V 14 (undef)) 10 = undef ∧ (upd V 14 (undef)) 13 = undef from ⟨e10, e13⟩)
      clear hK hC hW hL HV s0
      rw [HFR.out, e10, e13]
      clear e10 e13
      go_wp2_with fail
      show K _ _; have := H.out _ (Ext.refl _); rw [HFR.out] at this
      obtain ⟨u10, u13⟩ := HU.out
      rw [u10, u13] at this
      exact this
     ·rintro L A W K hL hC hW ⟨V, rfl, HV, s0⟩ hK
      have e10 := HV 10 _ rfl (hW 10 rfl)
      have e12 := HV 12 _ rfl (hW 12 rfl)
      have e14 := HV 14 _ rfl (hW 14 rfl)
      have H := Lib.hid (show ∀ W', Ext W W' → K (fr (upd V 15 (undef))) W' from fun W' he => hK _ _ ⟨_, rfl, HV.us 15 _ rfl, ext_two s0 he⟩)
      have HU := Lib.hid (show (upd V 15 (undef)) 10 = undef ∧ (upd V 15 (undef)) 12 = undef ∧ (upd V 15 (undef)) 14 = undef from ⟨e10, e12, e14⟩)
      clear hK hC hW hL HV s0
      rw [HFR.out, e10, e12, e14]
      clear e10 e12 e14
      go_wp2_with fail
      show K _ _; have := H.out _ (Ext.refl _); rw [HFR.out] at this
      obtain ⟨u10, u12, u14⟩ := HU.out
      rw [u10, u12, u14] at this
      exact this
     ·rintro L A W K hL hC hW ⟨V, rfl, HV, s0⟩ hK
      have e10 := HV 10 _ rfl (hW 10 rfl)
      have e15 := HV 15 _ rfl (hW 15 rfl)
      have H := Lib.hid (show ∀ W', Ext W W' → K (fr (upd V 16 (undef))) W' from fun W' he => hK _ _ ⟨_, rfl, HV.us 16 _ rfl, ext_two s0 he⟩)
      have HU := Lib.hid (show (upd V 16 (undef)) 10 = undef ∧ (upd V 16 (undef)) 15 = undef from ⟨e10, e15⟩)
      clear hK hC hW hL HV s0
      rw [HFR.out, e10, e15]
      clear e10 e15
      go_wp2_with fail
      show K _ _; have := H.out _ (Ext.refl _); rw [HFR.out] at this
      obtain ⟨u10, u15⟩ := HU.out
      rw [u10, u15] at this
      exact this
     ·rintro L A W K hL hC hW ⟨V, rfl, HV, s0⟩ hK
      have e10 := HV 10 _ rfl (hW 10 rfl)
      have e16 := HV 16 _ rfl (hW 16 rfl)
      have H := Lib.hid (show ∀ W', Ext W W' → K (fr (upd V 17 (undef))) W' from fun W' he => hK _ _ ⟨_, rfl, HV.us 17 _ rfl, ext_two s0 he⟩)
      have HU := Lib.hid (show (upd V 17 (undef)) 10 = undef ∧ (upd V 17 (undef)) 16 = undef from ⟨e10, e16⟩)
      clear hK hC hW hL HV s0
      rw [HFR.out, e10, e16]
      clear e10 e16
      go_wp2_with fail
      show K _ _; have := H.out _ (Ext.refl _); rw [HFR.out] at this
      obtain ⟨u10, u16⟩ := HU.out
      rw [u10, u16] at this
      exact this
     ·rintro L A W K hL hC hW ⟨V, rfl, HV, s0⟩ hK
      have e10 := HV 10 _ rfl (hW 10 rfl)
      have H := Lib.hid (show ∀ W', Ext W W' → K (fr (upd V 18 (undef))) W' from fun W' he => hK _ _ ⟨_, rfl, HV.us 18 _ rfl, ext_two s0 he⟩)
      have HU := Lib.hid (show (upd V 18 (undef)) 10 = undef from e10)
      clear hK hC hW hL HV s0
      rw [HFR.out, e10]
      clear e10
      go_wp2_with fail
      show K _ _; have := H.out _ (Ext.refl _); rw [HFR.out] at this
      obtain u10 := HU.out
      rw [u10] at this
      exact this
     ·rintro L A W K hL hC hW ⟨V, rfl, HV, s0⟩ hK
      have e10 := HV 10 _ rfl (hW 10 rfl)
      have e18 := HV 18 _ rfl (hW 18 rfl)
      have H := Lib.hid (show ∀ W', Ext W W' → K (fr (upd V 19 (undef))) W' from fun W' he => hK _ _ ⟨_, rfl, HV.us 19 _ rfl, ext_two s0 he⟩)
      have HU := Lib.hid (show (upd V 19 (undef)) 10 = undef ∧ (upd V 19 (undef)) 18 = undef from ⟨e10, e18⟩)
      clear hK hC hW hL HV s0
      rw [HFR.out, e10, e18]
      clear e10 e18
      go_wp2_with fail
      show K _ _; have := H.out _ (Ext.refl _); rw [HFR.out] at this
      obtain ⟨u10, u18⟩ := HU.out
      rw [u10, u18] at this
      exact this
     ·rintro L A W K hL hC hW ⟨V, rfl, HV, s0⟩ hK
      have e10 := HV 10 _ rfl (hW 10 rfl)
      have e17 := HV 17 _ rfl (hW 17 rfl)
      have e19 := HV 19 _ rfl (hW 19 rfl)
      have H := Lib.hid (show ∀ W', Ext W W' → K (fr (upd V 20 (undef))) W' from fun W' he => hK _ _ ⟨_, rfl, HV.us 20 _ rfl, ext_two s0 he⟩)
      have HU := Lib.hid (show (upd V 20 (undef)) 10 = undef ∧ (upd V 20 (undef)) 17 = undef ∧ (upd V 20 (undef)) 19 = undef from ⟨e10, e17, e19⟩)
      clear hK hC hW hL HV s0
      rw [HFR.out, e10, e17, e19]
      clear e10 e17 e19
      go_wp2_with fail
      show K _ _; have := H.out _ (Ext.refl _); rw [HFR.out] at this
      obtain ⟨u10, u17, u19⟩ := HU.out
      rw [u10, u17, u19] at this
      exact this
     ·rintro L A W K hL hC hW ⟨V, rfl, HV, s0⟩ hK
      have e7 := HV 7 _ rfl (hW 7 rfl)
      have e10 := HV 10 _ rfl (hW 10 rfl)
      have e20 := HV 20 _ rfl (hW 20 rfl)
      have H := Lib.hid (show ∀ W', Ext W W' → K (fr (upd V 21 (undef))) W' from fun W' he => hK _ _ ⟨_, rfl, HV.us 21 _ rfl, ext_two s0 he⟩)
      have HU := Lib.hid (show (upd V 21 (undef)) 7 = .bool true ∧ (upd V 21 (undef)) 10 = undef ∧ (upd V 21 (undef)) 20 = undef from ⟨e7, e10, e20⟩)
      clear hK hC hW hL HV s0
      rw [HFR.out, e7, e10, e20]
      clear e7 e10 e20
      go_wp2_with fail
      show K _ _; have := H.out _ (Ext.refl _); rw [HFR.out] at this
      obtain ⟨u7, u10, u20⟩ := HU.out
      rw [u7, u10, u20] at this
      exact this
     ·rintro L A W K hL hC hW ⟨V, rfl, HV, s0⟩ hK
      have e7 := HV 7 _ rfl (hW 7 rfl)
      have e21 := HV 21 _ rfl (hW 21 rfl)
      have H := Lib.hid (show ∀ W', Ext W W' → K (fr (upd V 22 (.bool true))) W' from fun W' he => hK _ _ ⟨_, rfl, HV.us 22 _ rfl, ext_two s0 he⟩)
      have HU := Lib.hid (show (upd V 22 (.bool true)) 7 = .bool true ∧ (upd V 22 (.bool true)) 21 = undef from ⟨e7, e21⟩)
      clear hK hC hW hL HV s0
      rw [HFR.out, e7, e21]
      clear e7 e21
      go_wp2_with fail
      show K _ _; have := H.out _ (Ext.refl _); rw [HFR.out] at this
      obtain ⟨u7, u21⟩ := HU.out
      rw [u7, u21] at this
      exact this
     ·rintro L A W hL ⟨V, rfl, HV, s0⟩
      have e0 := HV 0 _ rfl (hL 0 (by simp))
      have e1 := HV 1 _ rfl (hL 1 (by simp))
      have e2 := HV 2 _ rfl (hL 2 (by simp))
      have e3 := HV 3 _ rfl (hL 3 (by simp))
      have e4 := HV 4 _ rfl (hL 4 (by simp))
      have e5 := HV 5 _ rfl (hL 5 (by simp))
      have e6 := HV 6 _ rfl (hL 6 (by simp))
      have e7 := HV 7 _ rfl (hL 7 (by simp))
      have e8 := HV 8 _ rfl (hL 8 (by simp))
      have e9 := HV 9 _ rfl (hL 9 (by simp))
      have e10 := HV 10 _ rfl (hL 10 (by simp))
      have e11 := HV 11 _ rfl (hL 11 (by simp))
      have e12 := HV 12 _ rfl (hL 12 (by simp))
      have e13 := HV 13 _ rfl (hL 13 (by simp))
      have e14 := HV 14 _ rfl (hL 14 (by simp))
      have e15 := HV 15 _ rfl (hL 15 (by simp))
      have e16 := HV 16 _ rfl (hL 16 (by simp))
      have e17 := HV 17 _ rfl (hL 17 (by simp))
      have e18 := HV 18 _ rfl (hL 18 (by simp))
      have e19 := HV 19 _ rfl (hL 19 (by simp))
      have e20 := HV 20 _ rfl (hL 20 (by simp))
      have e21 := HV 21 _ rfl (hL 21 (by simp))
      have e22 := HV 22 _ rfl (hL 22 (by simp))
      have hA := s0
      rw [HFR.out, e0, e1, e2, e3, e4, e5, e6, e7, e8, e9, e10, e11, e12, e13, e14, e15, e16, e17, e18, e19, e20, e21, e22]
      clear hL HV HFR e0 e1 e2 e3 e4 e5 e6 e7 e8 e9 e10 e11 e12 e13 e14 e15 e16 e17 e18 e19 e20 e21 e22 s0
      have HA6 := Lib.hid hA
      clear hA
      go_wp2_with fail
      go_ret
      exact ⟨by rw [HF.out]; rfl, HE0.out.trans HA6.out.1⟩
    | false =>
     have H2 := Lib.hid h2
     rw [h2] at HC2
     clear h2
     by_cases hk0 : k = 0
     ·have hg : decide ((0 : Int) < (k : Int)) = false := decide_eq_false (by omega)
      have hg2 : decide (0 < k) = false := decide_eq_false (by omega)
      have HS := Lib.hid (show ∀ j, j < k + 1 → stB l j from fun j hj => by
       rcases Nat.lt_succ_iff_lt_or_eq.1 hj with h | rfl
       ·exact HJ.out.1 j h
       ·exact ⟨by rw [HPP.out]; exact H1.out, by rw [HPP.out]; exact H2.out, fun h => by omega⟩)
      clear hk0
      refine wp_named fun a0 ha0 => ?_
      obtain ⟨fr, hfr⟩ : ∃ fr : (Nat → Value) → Act, ∀ V, fr V = (((((((((((((((((((((((a0.put (some 13) (V 0)).put (some 14) (V 1)).put (some 15) (V 2)).put (some 16) (V 3)).put (some 17) (V 4)).put (some 18) (V 5)).put (some 19) (V 6)).put (some 20) (V 7)).put (some 21) (V 8)).put (some 22) (V 9)).put (some 23) (V 10)).put (some 24) (V 11)).put (some 25) (V 12)).put (some 26) (V 13)).put (some 27) (V 14)).put (some 28) (V 15)).put (some 29) (V 16)).put (some 30) (V 17)).put (some 31) (V 18)).put (some 32) (V 19)).put (some 33) (V 20)).put (some 34) (V 21)).put (some 35) (V 22)) := ⟨_, fun _ => rfl⟩
      rw [ha0] at hfr
      simp only [Act.put, List.setIfInBounds_toArray, List.set_cons_zero, List.set_cons_succ] at hfr
      have HFR := Lib.hid hfr
      clear hfr
      refine wp_region_inv (by kernel_rfl) (by kernel_rfl) (fun L A W => ∃ V : Nat → Value, A = fr V ∧ Vals (fun j => ([some (.agg (acc p u v)), some (.bool true), some (.bool false), some (.bool false), some (.agg (acc p u v)), some (.bool false), some (.bool false), some (.bool false), some (.int .i64 (k : Nat)), some (.bool false), some (.bool false), some (undef), some (undef), some (undef), some (undef), some (undef), some (undef), some (undef), some (undef), some (undef), some (undef), some (.bool false), some (.bool false)] : List (Option Value)).getD j none) L V ∧ (Ext wr W ∧ Ext w4 W)) ?_ ⟨?_, ?_, ?_, ?_, ?_, ?_, ?_, ?_, ?_, ?_, ?_, ?_, ?_, ?_, ?_, ?_, ?_, ?_, ?_, ?_, ?_, ?_, ?_, trivial⟩ ?_
      ·refine ⟨fun j => a0.tmps.getD (([13, 14, 15, 16, 17, 18, 19, 20, 21, 22, 23, 24, 25, 26, 27, 28, 29, 30, 31, 32, 33, 34, 35] : List Nat).getD j 0) undef, ?_, Vals.no _ _ _ (far_none _ _ rfl), ⟨HX4.out.trans (Ext.refl _).drew, (Ext.refl _).drew⟩⟩
       rw [HFR.out, ha0]
       rfl
      all_goals clear ha0
      ·rintro L A W K hL hC hW ⟨V, rfl, HV, s0⟩ hK
       have hB := s0
       have H := Lib.hid (show ∀ W', Ext W W' → K (fr (upd V 0 (.agg (acc p u v)))) W' from fun W' he => hK _ _ ⟨_, rfl, HV.us 0 _ rfl, ext_two s0 he⟩)
       clear hK hC hW hL HV s0
       rw [HFR.out]
       have HCR := Lib.hid (Ab.range (Ab.ext K4.out hB.2))
       clear hB
       ((with_reducible refine wpList_load_ac ?_ (.tmp 4) ?_ B 0 p u v ?_ ?_ ?_); (exact rfl); (exact rfl); (exact rfl); (exact HCR.out))
       show K _ _; have := H.out _ (Ext.refl _); rw [HFR.out] at this
       exact this
      ·rintro L A W K hL hC hW ⟨V, rfl, HV, s0⟩ hK
       have e0 := HV 0 _ rfl (hW 0 rfl)
       have hB := s0
       have H := Lib.hid (show ∀ W', Ext W W' → K (fr (upd V 1 (.bool true))) W' from fun W' he => hK _ _ ⟨_, rfl, HV.us 1 _ rfl, ext_two s0 he⟩)
       have HU := Lib.hid (show (upd V 1 (.bool true)) 0 = .agg (acc p u v) from e0)
       clear hK hC hW hL HV s0
       rw [HFR.out, e0]
       clear e0
       have HB' := Lib.hid hB
       clear hB
       go_wp2_with fail
       refine (HC1.out _ HB'.out.2).mono ?_
       rintro e wx ⟨rfl, he⟩
       have := H.out _ he
       clear H
       go_wp2_with fail
       show K _ _
       rw [HFR.out] at this
       obtain u0 := HU.out
       rw [u0] at this
       exact this
      ·rintro L A W K hL hC hW ⟨V, rfl, HV, s0⟩ hK
       have e1 := HV 1 _ rfl (hW 1 rfl)
       have H := Lib.hid (show ∀ W', Ext W W' → K (fr (upd V 2 (.bool false))) W' from fun W' he => hK _ _ ⟨_, rfl, HV.us 2 _ rfl, ext_two s0 he⟩)
       have HU := Lib.hid (show (upd V 2 (.bool false)) 1 = .bool true from e1)
       clear hK hC hW hL HV s0
       rw [HFR.out, e1]
       clear e1
       go_wp2_with fail
       show K _ _; have := H.out _ (Ext.refl _); rw [HFR.out] at this
       obtain u1 := HU.out
       rw [u1] at this
       exact this
      ·rintro L A W K hL hC hW ⟨V, rfl, HV, s0⟩ hK
       have e2 := HV 2 _ rfl (hW 2 rfl)
       have H := Lib.hid (show ∀ W', Ext W W' → K (fr (upd V 3 (.bool false))) W' from fun W' he => hK _ _ ⟨_, rfl, HV.us 3 _ rfl, ext_two s0 he⟩)
       have HU := Lib.hid (show (upd V 3 (.bool false)) 2 = .bool false from e2)
       clear hK hC hW hL HV s0
       rw [HFR.out, e2]
       clear e2
       go_wp2_with fail
       show K _ _; have := H.out _ (Ext.refl _); rw [HFR.out] at this
       obtain u2 := HU.out
       rw [u2] at this
       exact this
      ·rintro L A W K hL hC hW ⟨V, rfl, HV, s0⟩ hK
       have e3 := HV 3 _ rfl (hW 3 rfl)
       have hB := s0
       have H := Lib.hid (show ∀ W', Ext W W' → K (fr (upd V 4 (.agg (acc p u v)))) W' from fun W' he => hK _ _ ⟨_, rfl, HV.us 4 _ rfl, ext_two s0 he⟩)
       have HU := Lib.hid (show (upd V 4 (.agg (acc p u v))) 3 = .bool false from e3)
       clear hK hC hW hL HV s0
       rw [HFR.out, e3]
       clear e3
       have HCR := Lib.hid (Ab.range (Ab.ext K4.out hB.2))
       clear hB
       ((with_reducible refine wpList_load_ac ?_ (.tmp 4) ?_ B 0 p u v ?_ ?_ ?_); (exact rfl); (exact rfl); (exact rfl); (exact HCR.out))
       show K _ _; have := H.out _ (Ext.refl _); rw [HFR.out] at this
       obtain u3 := HU.out
       rw [u3] at this
       exact this
      ·rintro L A W K hL hC hW ⟨V, rfl, HV, s0⟩ hK
       have e3 := HV 3 _ rfl (hW 3 rfl)
       have e4 := HV 4 _ rfl (hW 4 rfl)
       have hB := s0
       have H := Lib.hid (show ∀ W', Ext W W' → K (fr (upd V 5 (.bool false))) W' from fun W' he => hK _ _ ⟨_, rfl, HV.us 5 _ rfl, ext_two s0 he⟩)
       have HU := Lib.hid (show (upd V 5 (.bool false)) 3 = .bool false ∧ (upd V 5 (.bool false)) 4 = .agg (acc p u v) from ⟨e3, e4⟩)
       clear hK hC hW hL HV s0
       rw [HFR.out, e3, e4]
       clear e3 e4
       have HB' := Lib.hid hB
       clear hB
       go_wp2_with fail
       refine (HC2.out _ HB'.out.2).mono ?_
       rintro e wx ⟨rfl, he⟩
       have := H.out _ he
       clear H
       go_wp2_with fail
       show K _ _
       rw [HFR.out] at this
       obtain ⟨u3, u4⟩ := HU.out
       rw [u3, u4] at this
       exact this
      ·rintro L A W K hL hC hW ⟨V, rfl, HV, s0⟩ hK
       have e3 := HV 3 _ rfl (hW 3 rfl)
       have e5 := HV 5 _ rfl (hW 5 rfl)
       have H := Lib.hid (show ∀ W', Ext W W' → K (fr (upd V 6 (.bool false))) W' from fun W' he => hK _ _ ⟨_, rfl, HV.us 6 _ rfl, ext_two s0 he⟩)
       have HU := Lib.hid (show (upd V 6 (.bool false)) 3 = .bool false ∧ (upd V 6 (.bool false)) 5 = .bool false from ⟨e3, e5⟩)
       clear hK hC hW hL HV s0
       rw [HFR.out, e3, e5]
       clear e3 e5
       go_wp2_with fail
       show K _ _; have := H.out _ (Ext.refl _); rw [HFR.out] at this
       obtain ⟨u3, u5⟩ := HU.out
       rw [u3, u5] at this
       exact this
      ·rintro L A W K hL hC hW ⟨V, rfl, HV, s0⟩ hK
       have e6 := HV 6 _ rfl (hW 6 rfl)
       have H := Lib.hid (show ∀ W', Ext W W' → K (fr (upd V 7 (.bool false))) W' from fun W' he => hK _ _ ⟨_, rfl, HV.us 7 _ rfl, ext_two s0 he⟩)
       have HU := Lib.hid (show (upd V 7 (.bool false)) 6 = .bool false from e6)
       clear hK hC hW hL HV s0
       rw [HFR.out, e6]
       clear e6
       go_wp2_with fail
       show K _ _; have := H.out _ (Ext.refl _); rw [HFR.out] at this
       obtain u6 := HU.out
       rw [u6] at this
       exact this
      ·rintro L A W K hL hC hW ⟨V, rfl, HV, s0⟩ hK
       have e7 := HV 7 _ rfl (hW 7 rfl)
       have H := Lib.hid (show ∀ W', Ext W W' → K (fr (upd V 8 (.int .i64 (k : Nat)))) W' from fun W' he => hK _ _ ⟨_, rfl, HV.us 8 _ rfl, ext_two s0 he⟩)
       have HU := Lib.hid (show (upd V 8 (.int .i64 (k : Nat))) 7 = .bool false from e7)
       clear hK hC hW hL HV s0
       rw [HFR.out, e7]
       clear e7
       go_wp2_with fail
       show K _ _; have := H.out _ (Ext.refl _); rw [HFR.out] at this
       obtain u7 := HU.out
       rw [u7] at this
       exact this
      ·rintro L A W K hL hC hW ⟨V, rfl, HV, s0⟩ hK
       have e7 := HV 7 _ rfl (hW 7 rfl)
       have e8 := HV 8 _ rfl (hW 8 rfl)
       have H := Lib.hid (show ∀ W', Ext W W' → K (fr (upd V 9 (.bool false))) W' from fun W' he => hK _ _ ⟨_, rfl, HV.us 9 _ rfl, ext_two s0 he⟩)
       have HU := Lib.hid (show (upd V 9 (.bool false)) 7 = .bool false ∧ (upd V 9 (.bool false)) 8 = .int .i64 (k : Nat) from ⟨e7, e8⟩)
       clear hK hC hW hL HV s0
       rw [HFR.out, e7, e8]
       clear e7 e8
       go_wp2_with fail
       show K _ _; have := H.out _ (Ext.refl _); rw [HFR.out] at this
       obtain ⟨u7, u8⟩ := HU.out
       rw [u7, u8] at this
       exact this
      ·rintro L A W K hL hC hW ⟨V, rfl, HV, s0⟩ hK
       have e7 := HV 7 _ rfl (hW 7 rfl)
       have e9 := HV 9 _ rfl (hW 9 rfl)
       have H := Lib.hid (show ∀ W', Ext W W' → K (fr (upd V 10 (.bool false))) W' from fun W' he => hK _ _ ⟨_, rfl, HV.us 10 _ rfl, ext_two s0 he⟩)
       have HU := Lib.hid (show (upd V 10 (.bool false)) 7 = .bool false ∧ (upd V 10 (.bool false)) 9 = .bool false from ⟨e7, e9⟩)
       clear hK hC hW hL HV s0
       rw [HFR.out, e7, e9]
       clear e7 e9
       go_wp2_with fail
       show K _ _; have := H.out _ (Ext.refl _); rw [HFR.out] at this
       obtain ⟨u7, u9⟩ := HU.out
       rw [u7, u9] at this
       exact this
      ·rintro L A W K hL hC hW ⟨V, rfl, HV, s0⟩ hK
       have e10 := HV 10 _ rfl (hW 10 rfl)
       have H := Lib.hid (show ∀ W', Ext W W' → K (fr (upd V 11 (undef))) W' from fun W' he => hK _ _ ⟨_, rfl, HV.us 11 _ rfl, ext_two s0 he⟩)
       have HU := Lib.hid (show (upd V 11 (undef)) 10 = .bool false from e10)
       clear hK hC hW hL HV s0
       rw [HFR.out, e10]
       clear e10
       go_wp2_with fail
       show K _ _; have := H.out _ (Ext.refl _); rw [HFR.out] at this
       obtain u10 := HU.out
       rw [u10] at this
       exact this
      ·rintro L A W K hL hC hW ⟨V, rfl, HV, s0⟩ hK
       have e10 := HV 10 _ rfl (hW 10 rfl)
       have e11 := HV 11 _ rfl (hW 11 rfl)
       have H := Lib.hid (show ∀ W', Ext W W' → K (fr (upd V 12 (undef))) W' from fun W' he => hK _ _ ⟨_, rfl, HV.us 12 _ rfl, ext_two s0 he⟩)
       have HU := Lib.hid (show (upd V 12 (undef)) 10 = .bool false ∧ (upd V 12 (undef)) 11 = undef from ⟨e10, e11⟩)
       clear hK hC hW hL HV s0
       rw [HFR.out, e10, e11]
       clear e10 e11
       go_wp2_with fail
       show K _ _; have := H.out _ (Ext.refl _); rw [HFR.out] at this
       obtain ⟨u10, u11⟩ := HU.out
       rw [u10, u11] at this
       exact this
      ·rintro L A W K hL hC hW ⟨V, rfl, HV, s0⟩ hK
       have e10 := HV 10 _ rfl (hW 10 rfl)
       have H := Lib.hid (show ∀ W', Ext W W' → K (fr (upd V 13 (undef))) W' from fun W' he => hK _ _ ⟨_, rfl, HV.us 13 _ rfl, ext_two s0 he⟩)
       have HU := Lib.hid (show (upd V 13 (undef)) 10 = .bool false from e10)
       clear hK hC hW hL HV s0
       rw [HFR.out, e10]
       clear e10
       go_wp2_with fail
       show K _ _; have := H.out _ (Ext.refl _); rw [HFR.out] at this
       obtain u10 := HU.out
       rw [u10] at this
       exact this
      ·rintro L A W K hL hC hW ⟨V, rfl, HV, s0⟩ hK
       have e10 := HV 10 _ rfl (hW 10 rfl)
       have e13 := HV 13 _ rfl (hW 13 rfl)
       have H := Lib.hid (show ∀ W', Ext W W' → K (fr (upd V 14 (undef))) W' from fun W' he => hK _ _ ⟨_, rfl, HV.us 14 _ rfl, ext_two s0 he⟩)
       have HU := Lib.hid (show (upd V 14 (undef)) 10 = .bool false ∧ (upd V 14 (undef)) 13 = undef from ⟨e10, e13⟩)
       clear hK hC hW hL HV s0
       rw [HFR.out, e10, e13]
       clear e10 e13
       go_wp2_with fail
       show K _ _; have := H.out _ (Ext.refl _); rw [HFR.out] at this
       obtain ⟨u10, u13⟩ := HU.out
       rw [u10, u13] at this
       exact this
      ·rintro L A W K hL hC hW ⟨V, rfl, HV, s0⟩ hK
       have e10 := HV 10 _ rfl (hW 10 rfl)
       have e12 := HV 12 _ rfl (hW 12 rfl)
       have e14 := HV 14 _ rfl (hW 14 rfl)
       have H := Lib.hid (show ∀ W', Ext W W' → K (fr (upd V 15 (undef))) W' from fun W' he => hK _ _ ⟨_, rfl, HV.us 15 _ rfl, ext_two s0 he⟩)
       have HU := Lib.hid (show (upd V 15 (undef)) 10 = .bool false ∧ (upd V 15 (undef)) 12 = undef ∧ (upd V 15 (undef)) 14 = undef from ⟨e10, e12, e14⟩)
       clear hK hC hW hL HV s0
       rw [HFR.out, e10, e12, e14]
       clear e10 e12 e14
       go_wp2_with fail
       show K _ _; have := H.out _ (Ext.refl _); rw [HFR.out] at this
       obtain ⟨u10, u12, u14⟩ := HU.out
       rw [u10, u12, u14] at this
       exact this
      ·rintro L A W K hL hC hW ⟨V, rfl, HV, s0⟩ hK
       have e10 := HV 10 _ rfl (hW 10 rfl)
       have e15 := HV 15 _ rfl (hW 15 rfl)
       have H := Lib.hid (show ∀ W', Ext W W' → K (fr (upd V 16 (undef))) W' from fun W' he => hK _ _ ⟨_, rfl, HV.us 16 _ rfl, ext_two s0 he⟩)
       have HU := Lib.hid (show (upd V 16 (undef)) 10 = .bool false ∧ (upd V 16 (undef)) 15 = undef from ⟨e10, e15⟩)
       clear hK hC hW hL HV s0
       rw [HFR.out, e10, e15]
       clear e10 e15
       go_wp2_with fail
       show K _ _; have := H.out _ (Ext.refl _); rw [HFR.out] at this
       obtain ⟨u10, u15⟩ := HU.out
       rw [u10, u15] at this
       exact this
      ·rintro L A W K hL hC hW ⟨V, rfl, HV, s0⟩ hK
       have e10 := HV 10 _ rfl (hW 10 rfl)
       have e16 := HV 16 _ rfl (hW 16 rfl)
       have H := Lib.hid (show ∀ W', Ext W W' → K (fr (upd V 17 (undef))) W' from fun W' he => hK _ _ ⟨_, rfl, HV.us 17 _ rfl, ext_two s0 he⟩)
       have HU := Lib.hid (show (upd V 17 (undef)) 10 = .bool false ∧ (upd V 17 (undef)) 16 = undef from ⟨e10, e16⟩)
       clear hK hC hW hL HV s0
       rw [HFR.out, e10, e16]
       clear e10 e16
       go_wp2_with fail
       show K _ _; have := H.out _ (Ext.refl _); rw [HFR.out] at this
       obtain ⟨u10, u16⟩ := HU.out
       rw [u10, u16] at this
       exact this
      ·rintro L A W K hL hC hW ⟨V, rfl, HV, s0⟩ hK
       have e10 := HV 10 _ rfl (hW 10 rfl)
       have H := Lib.hid (show ∀ W', Ext W W' → K (fr (upd V 18 (undef))) W' from fun W' he => hK _ _ ⟨_, rfl, HV.us 18 _ rfl, ext_two s0 he⟩)
       have HU := Lib.hid (show (upd V 18 (undef)) 10 = .bool false from e10)
       clear hK hC hW hL HV s0
       rw [HFR.out, e10]
       clear e10
       go_wp2_with fail
       show K _ _; have := H.out _ (Ext.refl _); rw [HFR.out] at this
       obtain u10 := HU.out
       rw [u10] at this
       exact this
      ·rintro L A W K hL hC hW ⟨V, rfl, HV, s0⟩ hK
       have e10 := HV 10 _ rfl (hW 10 rfl)
       have e18 := HV 18 _ rfl (hW 18 rfl)
       have H := Lib.hid (show ∀ W', Ext W W' → K (fr (upd V 19 (undef))) W' from fun W' he => hK _ _ ⟨_, rfl, HV.us 19 _ rfl, ext_two s0 he⟩)
       have HU := Lib.hid (show (upd V 19 (undef)) 10 = .bool false ∧ (upd V 19 (undef)) 18 = undef from ⟨e10, e18⟩)
       clear hK hC hW hL HV s0
       rw [HFR.out, e10, e18]
       clear e10 e18
       go_wp2_with fail
       show K _ _; have := H.out _ (Ext.refl _); rw [HFR.out] at this
       obtain ⟨u10, u18⟩ := HU.out
       rw [u10, u18] at this
       exact this
      ·rintro L A W K hL hC hW ⟨V, rfl, HV, s0⟩ hK
       have e10 := HV 10 _ rfl (hW 10 rfl)
       have e17 := HV 17 _ rfl (hW 17 rfl)
       have e19 := HV 19 _ rfl (hW 19 rfl)
       have H := Lib.hid (show ∀ W', Ext W W' → K (fr (upd V 20 (undef))) W' from fun W' he => hK _ _ ⟨_, rfl, HV.us 20 _ rfl, ext_two s0 he⟩)
       have HU := Lib.hid (show (upd V 20 (undef)) 10 = .bool false ∧ (upd V 20 (undef)) 17 = undef ∧ (upd V 20 (undef)) 19 = undef from ⟨e10, e17, e19⟩)
       clear hK hC hW hL HV s0
       rw [HFR.out, e10, e17, e19]
       clear e10 e17 e19
       go_wp2_with fail
       show K _ _; have := H.out _ (Ext.refl _); rw [HFR.out] at this
       obtain ⟨u10, u17, u19⟩ := HU.out
       rw [u10, u17, u19] at this
       exact this
      ·rintro L A W K hL hC hW ⟨V, rfl, HV, s0⟩ hK
       have e7 := HV 7 _ rfl (hW 7 rfl)
       have e10 := HV 10 _ rfl (hW 10 rfl)
       have e20 := HV 20 _ rfl (hW 20 rfl)
       have H := Lib.hid (show ∀ W', Ext W W' → K (fr (upd V 21 (.bool false))) W' from fun W' he => hK _ _ ⟨_, rfl, HV.us 21 _ rfl, ext_two s0 he⟩)
       have HU := Lib.hid (show (upd V 21 (.bool false)) 7 = .bool false ∧ (upd V 21 (.bool false)) 10 = .bool false ∧ (upd V 21 (.bool false)) 20 = undef from ⟨e7, e10, e20⟩)
       clear hK hC hW hL HV s0
       rw [HFR.out, e7, e10, e20]
       clear e7 e10 e20
       go_wp2_with fail
       show K _ _; have := H.out _ (Ext.refl _); rw [HFR.out] at this
       obtain ⟨u7, u10, u20⟩ := HU.out
       rw [u7, u10, u20] at this
       exact this
      ·rintro L A W K hL hC hW ⟨V, rfl, HV, s0⟩ hK
       have e7 := HV 7 _ rfl (hW 7 rfl)
       have e21 := HV 21 _ rfl (hW 21 rfl)
       have H := Lib.hid (show ∀ W', Ext W W' → K (fr (upd V 22 (.bool false))) W' from fun W' he => hK _ _ ⟨_, rfl, HV.us 22 _ rfl, ext_two s0 he⟩)
       have HU := Lib.hid (show (upd V 22 (.bool false)) 7 = .bool false ∧ (upd V 22 (.bool false)) 21 = .bool false from ⟨e7, e21⟩)
       clear hK hC hW hL HV s0
       rw [HFR.out, e7, e21]
       clear e7 e21
       go_wp2_with fail
       show K _ _; have := H.out _ (Ext.refl _); rw [HFR.out] at this
       obtain ⟨u7, u21⟩ := HU.out
       rw [u7, u21] at this
       exact this
      ·rintro L A W hL ⟨V, rfl, HV, s0⟩
       have e0 := HV 0 _ rfl (hL 0 (by simp))
       have e1 := HV 1 _ rfl (hL 1 (by simp))
       have e2 := HV 2 _ rfl (hL 2 (by simp))
       have e3 := HV 3 _ rfl (hL 3 (by simp))
       have e4 := HV 4 _ rfl (hL 4 (by simp))
       have e5 := HV 5 _ rfl (hL 5 (by simp))
       have e6 := HV 6 _ rfl (hL 6 (by simp))
       have e7 := HV 7 _ rfl (hL 7 (by simp))
       have e8 := HV 8 _ rfl (hL 8 (by simp))
       have e9 := HV 9 _ rfl (hL 9 (by simp))
       have e10 := HV 10 _ rfl (hL 10 (by simp))
       have e11 := HV 11 _ rfl (hL 11 (by simp))
       have e12 := HV 12 _ rfl (hL 12 (by simp))
       have e13 := HV 13 _ rfl (hL 13 (by simp))
       have e14 := HV 14 _ rfl (hL 14 (by simp))
       have e15 := HV 15 _ rfl (hL 15 (by simp))
       have e16 := HV 16 _ rfl (hL 16 (by simp))
       have e17 := HV 17 _ rfl (hL 17 (by simp))
       have e18 := HV 18 _ rfl (hL 18 (by simp))
       have e19 := HV 19 _ rfl (hL 19 (by simp))
       have e20 := HV 20 _ rfl (hL 20 (by simp))
       have e21 := HV 21 _ rfl (hL 21 (by simp))
       have e22 := HV 22 _ rfl (hL 22 (by simp))
       have hA := s0
       rw [HFR.out, e0, e1, e2, e3, e4, e5, e6, e7, e8, e9, e10, e11, e12, e13, e14, e15, e16, e17, e18, e19, e20, e21, e22]
       clear hL HV HFR e0 e1 e2 e3 e4 e5 e6 e7 e8 e9 e10 e11 e12 e13 e14 e15 e16 e17 e18 e19 e20 e21 e22 s0
       have HA6 := Lib.hid hA
       clear hA
       go_wp2_with fail
       exact ⟨⟨k + 1, by omega, by go_num, Lib.hid ⟨HS.out, HJ.out.2.trans HA6.out.1⟩⟩, by simp [intOf]; omega⟩
     ·have hg : decide ((0 : Int) < (k : Int)) = true := decide_eq_true (by omega)
      have hg2 : decide (0 < k) = true := decide_eq_true (by omega)
      obtain ⟨b', o', u', v', e', x0, _, _, hp0⟩ := HX0.out (by omega)
      injection e' with e'
      injection e' with e1' e2' _
      subst e1' e2'
      have X0 := Lib.hid (HX4.out.cell (ac_addr x0))
      obtain ⟨p0, hp00⟩ : ∃ p0, l.getD (k - 1) acz = p0 := ⟨_, rfl⟩
      have HP0 := Lib.hid hp00
      rw [hp00] at X0 hp0
      obtain ⟨m, hm⟩ : ∃ m, k - 1 = m := ⟨_, rfl⟩
      rw [hm] at X0
      have hsub : ((k : Nat) : Int) - 1 = (m : Int) := by omega
      have hmb : m < l.length := by omega
      have hp01 := hp0.1
      have hp11 := HOK.out.1
      clear x0 hp00 hm hp0 HX0
      by_cases hlt2 : p0.addr < p.addr
      ·have hge : decide ((p.addr : Int) ≤ (p0.addr : Int)) = false := decide_eq_false (by omega)
       have hge2 : decide ((p0.addr : Int) ≥ (p.addr : Int)) = false := decide_eq_false (by omega)
       have hge3 : decide (p.addr ≤ p0.addr) = false := decide_eq_false (by omega)
       have HS := Lib.hid (show ∀ j, j < k + 1 → stB l j from fun j hj => by
        rcases Nat.lt_succ_iff_lt_or_eq.1 hj with h | rfl
        ·exact HJ.out.1 j h
        ·exact ⟨by rw [HPP.out]; exact H1.out, by rw [HPP.out]; exact H2.out, fun _ => by rw [HPP.out, HP0.out]; exact hlt2⟩)
       clear hlt2 hk0
       refine wp_named fun a0 ha0 => ?_
       obtain ⟨fr, hfr⟩ : ∃ fr : (Nat → Value) → Act, ∀ V, fr V = (((((((((((((((((((((((a0.put (some 13) (V 0)).put (some 14) (V 1)).put (some 15) (V 2)).put (some 16) (V 3)).put (some 17) (V 4)).put (some 18) (V 5)).put (some 19) (V 6)).put (some 20) (V 7)).put (some 21) (V 8)).put (some 22) (V 9)).put (some 23) (V 10)).put (some 24) (V 11)).put (some 25) (V 12)).put (some 26) (V 13)).put (some 27) (V 14)).put (some 28) (V 15)).put (some 29) (V 16)).put (some 30) (V 17)).put (some 31) (V 18)).put (some 32) (V 19)).put (some 33) (V 20)).put (some 34) (V 21)).put (some 35) (V 22)) := ⟨_, fun _ => rfl⟩
       rw [ha0] at hfr
       simp only [Act.put, List.setIfInBounds_toArray, List.set_cons_zero, List.set_cons_succ] at hfr
       have HFR := Lib.hid hfr
       clear hfr
       refine wp_region_inv (by kernel_rfl) (by kernel_rfl) (fun L A W => ∃ V : Nat → Value, A = fr V ∧ Vals (fun j => ([some (.agg (acc p u v)), some (.bool true), some (.bool false), some (.bool false), some (.agg (acc p u v)), some (.bool false), some (.bool false), some (.bool false), some (.int .i64 (k : Nat)), some (.bool true), some (.bool true), some (.pointer (some ⟨w.heap.size, 0, none⟩)), some (.slice (some ⟨b, o, none⟩) l.length c0), some (.int .i64 (k : Nat)), some (.int .i64 (m : Nat)), some (.pointer (some ⟨b, o + m * 8, none⟩)), some (.pointer (some ⟨b, o + m * 8, none⟩)), some (.int .u64 (p0.addr : Nat)), some (.pointer (some ⟨B, 0, none⟩)), some (.int .u64 (p.addr : Nat)), some (.bool false), some (.bool false), some (.bool false)] : List (Option Value)).getD j none) L V ∧ (Ext wr W ∧ Ext w4 W)) ?_ ⟨?_, ?_, ?_, ?_, ?_, ?_, ?_, ?_, ?_, ?_, ?_, ?_, ?_, ?_, ?_, ?_, ?_, ?_, ?_, ?_, ?_, ?_, ?_, trivial⟩ ?_
       ·refine ⟨fun j => a0.tmps.getD (([13, 14, 15, 16, 17, 18, 19, 20, 21, 22, 23, 24, 25, 26, 27, 28, 29, 30, 31, 32, 33, 34, 35] : List Nat).getD j 0) undef, ?_, Vals.no _ _ _ (far_none _ _ rfl), ⟨HX4.out.trans (Ext.refl _).drew, (Ext.refl _).drew⟩⟩
        rw [HFR.out, ha0]
        rfl
       all_goals clear ha0
       ·rintro L A W K hL hC hW ⟨V, rfl, HV, s0⟩ hK
        have hB := s0
        have H := Lib.hid (show ∀ W', Ext W W' → K (fr (upd V 0 (.agg (acc p u v)))) W' from fun W' he => hK _ _ ⟨_, rfl, HV.us 0 _ rfl, ext_two s0 he⟩)
        clear hK hC hW hL HV s0
        rw [HFR.out]
        have HCR := Lib.hid (Ab.range (Ab.ext K4.out hB.2))
        clear hB
        ((with_reducible refine wpList_load_ac ?_ (.tmp 4) ?_ B 0 p u v ?_ ?_ ?_); (exact rfl); (exact rfl); (exact rfl); (exact HCR.out))
        show K _ _; have := H.out _ (Ext.refl _); rw [HFR.out] at this
        exact this
       ·rintro L A W K hL hC hW ⟨V, rfl, HV, s0⟩ hK
        have e0 := HV 0 _ rfl (hW 0 rfl)
        have hB := s0
        have H := Lib.hid (show ∀ W', Ext W W' → K (fr (upd V 1 (.bool true))) W' from fun W' he => hK _ _ ⟨_, rfl, HV.us 1 _ rfl, ext_two s0 he⟩)
        have HU := Lib.hid (show (upd V 1 (.bool true)) 0 = .agg (acc p u v) from e0)
        clear hK hC hW hL HV s0
        rw [HFR.out, e0]
        clear e0
        have HB' := Lib.hid hB
        clear hB
        go_wp2_with fail
        refine (HC1.out _ HB'.out.2).mono ?_
        rintro e wx ⟨rfl, he⟩
        have := H.out _ he
        clear H
        go_wp2_with fail
        show K _ _
        rw [HFR.out] at this
        obtain u0 := HU.out
        rw [u0] at this
        exact this
       ·rintro L A W K hL hC hW ⟨V, rfl, HV, s0⟩ hK
        have e1 := HV 1 _ rfl (hW 1 rfl)
        have H := Lib.hid (show ∀ W', Ext W W' → K (fr (upd V 2 (.bool false))) W' from fun W' he => hK _ _ ⟨_, rfl, HV.us 2 _ rfl, ext_two s0 he⟩)
        have HU := Lib.hid (show (upd V 2 (.bool false)) 1 = .bool true from e1)
        clear hK hC hW hL HV s0
        rw [HFR.out, e1]
        clear e1
        go_wp2_with fail
        show K _ _; have := H.out _ (Ext.refl _); rw [HFR.out] at this
        obtain u1 := HU.out
        rw [u1] at this
        exact this
       ·rintro L A W K hL hC hW ⟨V, rfl, HV, s0⟩ hK
        have e2 := HV 2 _ rfl (hW 2 rfl)
        have H := Lib.hid (show ∀ W', Ext W W' → K (fr (upd V 3 (.bool false))) W' from fun W' he => hK _ _ ⟨_, rfl, HV.us 3 _ rfl, ext_two s0 he⟩)
        have HU := Lib.hid (show (upd V 3 (.bool false)) 2 = .bool false from e2)
        clear hK hC hW hL HV s0
        rw [HFR.out, e2]
        clear e2
        go_wp2_with fail
        show K _ _; have := H.out _ (Ext.refl _); rw [HFR.out] at this
        obtain u2 := HU.out
        rw [u2] at this
        exact this
       ·rintro L A W K hL hC hW ⟨V, rfl, HV, s0⟩ hK
        have e3 := HV 3 _ rfl (hW 3 rfl)
        have hB := s0
        have H := Lib.hid (show ∀ W', Ext W W' → K (fr (upd V 4 (.agg (acc p u v)))) W' from fun W' he => hK _ _ ⟨_, rfl, HV.us 4 _ rfl, ext_two s0 he⟩)
        have HU := Lib.hid (show (upd V 4 (.agg (acc p u v))) 3 = .bool false from e3)
        clear hK hC hW hL HV s0
        rw [HFR.out, e3]
        clear e3
        have HCR := Lib.hid (Ab.range (Ab.ext K4.out hB.2))
        clear hB
        ((with_reducible refine wpList_load_ac ?_ (.tmp 4) ?_ B 0 p u v ?_ ?_ ?_); (exact rfl); (exact rfl); (exact rfl); (exact HCR.out))
        show K _ _; have := H.out _ (Ext.refl _); rw [HFR.out] at this
        obtain u3 := HU.out
        rw [u3] at this
        exact this
       ·rintro L A W K hL hC hW ⟨V, rfl, HV, s0⟩ hK
        have e3 := HV 3 _ rfl (hW 3 rfl)
        have e4 := HV 4 _ rfl (hW 4 rfl)
        have hB := s0
        have H := Lib.hid (show ∀ W', Ext W W' → K (fr (upd V 5 (.bool false))) W' from fun W' he => hK _ _ ⟨_, rfl, HV.us 5 _ rfl, ext_two s0 he⟩)
        have HU := Lib.hid (show (upd V 5 (.bool false)) 3 = .bool false ∧ (upd V 5 (.bool false)) 4 = .agg (acc p u v) from ⟨e3, e4⟩)
        clear hK hC hW hL HV s0
        rw [HFR.out, e3, e4]
        clear e3 e4
        have HB' := Lib.hid hB
        clear hB
        go_wp2_with fail
        refine (HC2.out _ HB'.out.2).mono ?_
        rintro e wx ⟨rfl, he⟩
        have := H.out _ he
        clear H
        go_wp2_with fail
        show K _ _
        rw [HFR.out] at this
        obtain ⟨u3, u4⟩ := HU.out
        rw [u3, u4] at this
        exact this
       ·rintro L A W K hL hC hW ⟨V, rfl, HV, s0⟩ hK
        have e3 := HV 3 _ rfl (hW 3 rfl)
        have e5 := HV 5 _ rfl (hW 5 rfl)
        have H := Lib.hid (show ∀ W', Ext W W' → K (fr (upd V 6 (.bool false))) W' from fun W' he => hK _ _ ⟨_, rfl, HV.us 6 _ rfl, ext_two s0 he⟩)
        have HU := Lib.hid (show (upd V 6 (.bool false)) 3 = .bool false ∧ (upd V 6 (.bool false)) 5 = .bool false from ⟨e3, e5⟩)
        clear hK hC hW hL HV s0
        rw [HFR.out, e3, e5]
        clear e3 e5
        go_wp2_with fail
        show K _ _; have := H.out _ (Ext.refl _); rw [HFR.out] at this
        obtain ⟨u3, u5⟩ := HU.out
        rw [u3, u5] at this
        exact this
       ·rintro L A W K hL hC hW ⟨V, rfl, HV, s0⟩ hK
        have e6 := HV 6 _ rfl (hW 6 rfl)
        have H := Lib.hid (show ∀ W', Ext W W' → K (fr (upd V 7 (.bool false))) W' from fun W' he => hK _ _ ⟨_, rfl, HV.us 7 _ rfl, ext_two s0 he⟩)
        have HU := Lib.hid (show (upd V 7 (.bool false)) 6 = .bool false from e6)
        clear hK hC hW hL HV s0
        rw [HFR.out, e6]
        clear e6
        go_wp2_with fail
        show K _ _; have := H.out _ (Ext.refl _); rw [HFR.out] at this
        obtain u6 := HU.out
        rw [u6] at this
        exact this
       ·rintro L A W K hL hC hW ⟨V, rfl, HV, s0⟩ hK
        have e7 := HV 7 _ rfl (hW 7 rfl)
        have H := Lib.hid (show ∀ W', Ext W W' → K (fr (upd V 8 (.int .i64 (k : Nat)))) W' from fun W' he => hK _ _ ⟨_, rfl, HV.us 8 _ rfl, ext_two s0 he⟩)
        have HU := Lib.hid (show (upd V 8 (.int .i64 (k : Nat))) 7 = .bool false from e7)
        clear hK hC hW hL HV s0
        rw [HFR.out, e7]
        clear e7
        go_wp2_with fail
        show K _ _; have := H.out _ (Ext.refl _); rw [HFR.out] at this
        obtain u7 := HU.out
        rw [u7] at this
        exact this
       ·rintro L A W K hL hC hW ⟨V, rfl, HV, s0⟩ hK
        have e7 := HV 7 _ rfl (hW 7 rfl)
        have e8 := HV 8 _ rfl (hW 8 rfl)
        have H := Lib.hid (show ∀ W', Ext W W' → K (fr (upd V 9 (.bool true))) W' from fun W' he => hK _ _ ⟨_, rfl, HV.us 9 _ rfl, ext_two s0 he⟩)
        have HU := Lib.hid (show (upd V 9 (.bool true)) 7 = .bool false ∧ (upd V 9 (.bool true)) 8 = .int .i64 (k : Nat) from ⟨e7, e8⟩)
        clear hK hC hW hL HV s0
        rw [HFR.out, e7, e8]
        clear e7 e8
        go_wp2_with fail
        show K _ _; have := H.out _ (Ext.refl _); rw [HFR.out] at this
        obtain ⟨u7, u8⟩ := HU.out
        rw [u7, u8] at this
        exact this
       ·rintro L A W K hL hC hW ⟨V, rfl, HV, s0⟩ hK
        have e7 := HV 7 _ rfl (hW 7 rfl)
        have e9 := HV 9 _ rfl (hW 9 rfl)
        have H := Lib.hid (show ∀ W', Ext W W' → K (fr (upd V 10 (.bool true))) W' from fun W' he => hK _ _ ⟨_, rfl, HV.us 10 _ rfl, ext_two s0 he⟩)
        have HU := Lib.hid (show (upd V 10 (.bool true)) 7 = .bool false ∧ (upd V 10 (.bool true)) 9 = .bool true from ⟨e7, e9⟩)
        clear hK hC hW hL HV s0
        rw [HFR.out, e7, e9]
        clear e7 e9
        go_wp2_with fail
        show K _ _; have := H.out _ (Ext.refl _); rw [HFR.out] at this
        obtain ⟨u7, u9⟩ := HU.out
        rw [u7, u9] at this
        exact this
       ·rintro L A W K hL hC hW ⟨V, rfl, HV, s0⟩ hK
        have e10 := HV 10 _ rfl (hW 10 rfl)
        have H := Lib.hid (show ∀ W', Ext W W' → K (fr (upd V 11 (.pointer (some ⟨w.heap.size, 0, none⟩)))) W' from fun W' he => hK _ _ ⟨_, rfl, HV.us 11 _ rfl, ext_two s0 he⟩)
        have HU := Lib.hid (show (upd V 11 (.pointer (some ⟨w.heap.size, 0, none⟩))) 10 = .bool true from e10)
        clear hK hC hW hL HV s0
        rw [HFR.out, e10]
        clear e10
        go_wp2_with fail
        show K _ _; have := H.out _ (Ext.refl _); rw [HFR.out] at this
        obtain u10 := HU.out
        rw [u10] at this
        exact this
       ·rintro L A W K hL hC hW ⟨V, rfl, HV, s0⟩ hK
        have e10 := HV 10 _ rfl (hW 10 rfl)
        have e11 := HV 11 _ rfl (hW 11 rfl)
        have hB := s0
        have H := Lib.hid (show ∀ W', Ext W W' → K (fr (upd V 12 (.slice (some ⟨b, o, none⟩) l.length c0))) W' from fun W' he => hK _ _ ⟨_, rfl, HV.us 12 _ rfl, ext_two s0 he⟩)
        have HU := Lib.hid (show (upd V 12 (.slice (some ⟨b, o, none⟩) l.length c0)) 10 = .bool true ∧ (upd V 12 (.slice (some ⟨b, o, none⟩) l.length c0)) 11 = .pointer (some ⟨w.heap.size, 0, none⟩) from ⟨e10, e11⟩)
        clear hK hC hW hL HV s0
        rw [HFR.out, e10, e11]
        clear e10 e11
        have hcl := (Cs.ext HB0.out.1 (HE.out.trans hB.1)).cell 0 _ rfl
        clear hB
        go_wp2_with fail
        show K _ _; have := H.out _ (Ext.refl _); rw [HFR.out] at this
        obtain ⟨u10, u11⟩ := HU.out
        rw [u10, u11] at this
        exact this
       ·rintro L A W K hL hC hW ⟨V, rfl, HV, s0⟩ hK
        have e10 := HV 10 _ rfl (hW 10 rfl)
        have H := Lib.hid (show ∀ W', Ext W W' → K (fr (upd V 13 (.int .i64 (k : Nat)))) W' from fun W' he => hK _ _ ⟨_, rfl, HV.us 13 _ rfl, ext_two s0 he⟩)
        have HU := Lib.hid (show (upd V 13 (.int .i64 (k : Nat))) 10 = .bool true from e10)
        clear hK hC hW hL HV s0
        rw [HFR.out, e10]
        clear e10
        go_wp2_with fail
        show K _ _; have := H.out _ (Ext.refl _); rw [HFR.out] at this
        obtain u10 := HU.out
        rw [u10] at this
        exact this
       ·rintro L A W K hL hC hW ⟨V, rfl, HV, s0⟩ hK
        have e10 := HV 10 _ rfl (hW 10 rfl)
        have e13 := HV 13 _ rfl (hW 13 rfl)
        have H := Lib.hid (show ∀ W', Ext W W' → K (fr (upd V 14 (.int .i64 (m : Nat)))) W' from fun W' he => hK _ _ ⟨_, rfl, HV.us 14 _ rfl, ext_two s0 he⟩)
        have HU := Lib.hid (show (upd V 14 (.int .i64 (m : Nat))) 10 = .bool true ∧ (upd V 14 (.int .i64 (m : Nat))) 13 = .int .i64 (k : Nat) from ⟨e10, e13⟩)
        clear hK hC hW hL HV s0
        rw [HFR.out, e10, e13]
        clear e10 e13
        go_wp2_with fail
        show K _ _; have := H.out _ (Ext.refl _); rw [HFR.out] at this
        obtain ⟨u10, u13⟩ := HU.out
        rw [u10, u13] at this
        exact this
       ·rintro L A W K hL hC hW ⟨V, rfl, HV, s0⟩ hK
        have e10 := HV 10 _ rfl (hW 10 rfl)
        have e12 := HV 12 _ rfl (hW 12 rfl)
        have e14 := HV 14 _ rfl (hW 14 rfl)
        have H := Lib.hid (show ∀ W', Ext W W' → K (fr (upd V 15 (.pointer (some ⟨b, o + m * 8, none⟩)))) W' from fun W' he => hK _ _ ⟨_, rfl, HV.us 15 _ rfl, ext_two s0 he⟩)
        have HU := Lib.hid (show (upd V 15 (.pointer (some ⟨b, o + m * 8, none⟩))) 10 = .bool true ∧ (upd V 15 (.pointer (some ⟨b, o + m * 8, none⟩))) 12 = .slice (some ⟨b, o, none⟩) l.length c0 ∧ (upd V 15 (.pointer (some ⟨b, o + m * 8, none⟩))) 14 = .int .i64 (m : Nat) from ⟨e10, e12, e14⟩)
        clear hK hC hW hL HV s0
        rw [HFR.out, e10, e12, e14]
        clear e10 e12 e14
        go_wp2_with fail
        show K _ _; have := H.out _ (Ext.refl _); rw [HFR.out] at this
        obtain ⟨u10, u12, u14⟩ := HU.out
        rw [u10, u12, u14] at this
        exact this
       ·rintro L A W K hL hC hW ⟨V, rfl, HV, s0⟩ hK
        have e10 := HV 10 _ rfl (hW 10 rfl)
        have e15 := HV 15 _ rfl (hW 15 rfl)
        have H := Lib.hid (show ∀ W', Ext W W' → K (fr (upd V 16 (.pointer (some ⟨b, o + m * 8, none⟩)))) W' from fun W' he => hK _ _ ⟨_, rfl, HV.us 16 _ rfl, ext_two s0 he⟩)
        have HU := Lib.hid (show (upd V 16 (.pointer (some ⟨b, o + m * 8, none⟩))) 10 = .bool true ∧ (upd V 16 (.pointer (some ⟨b, o + m * 8, none⟩))) 15 = .pointer (some ⟨b, o + m * 8, none⟩) from ⟨e10, e15⟩)
        clear hK hC hW hL HV s0
        rw [HFR.out, e10, e15]
        clear e10 e15
        go_wp2_with fail
        show K _ _; have := H.out _ (Ext.refl _); rw [HFR.out] at this
        obtain ⟨u10, u15⟩ := HU.out
        rw [u10, u15] at this
        exact this
       ·rintro L A W K hL hC hW ⟨V, rfl, HV, s0⟩ hK
        have e10 := HV 10 _ rfl (hW 10 rfl)
        have e16 := HV 16 _ rfl (hW 16 rfl)
        have hB := s0
        have H := Lib.hid (show ∀ W', Ext W W' → K (fr (upd V 17 (.int .u64 (p0.addr : Nat)))) W' from fun W' he => hK _ _ ⟨_, rfl, HV.us 17 _ rfl, ext_two s0 he⟩)
        have HU := Lib.hid (show (upd V 17 (.int .u64 (p0.addr : Nat))) 10 = .bool true ∧ (upd V 17 (.int .u64 (p0.addr : Nat))) 16 = .pointer (some ⟨b, o + m * 8, none⟩) from ⟨e10, e16⟩)
        clear hK hC hW hL HV s0
        rw [HFR.out, e10, e16]
        clear e10 e16
        have hcl := hB.2.cell X0.out
        clear hB
        go_wp2_with fail
        show K _ _; have := H.out _ (Ext.refl _); rw [HFR.out] at this
        obtain ⟨u10, u16⟩ := HU.out
        rw [u10, u16] at this
        exact this
       ·rintro L A W K hL hC hW ⟨V, rfl, HV, s0⟩ hK
        have e10 := HV 10 _ rfl (hW 10 rfl)
        have H := Lib.hid (show ∀ W', Ext W W' → K (fr (upd V 18 (.pointer (some ⟨B, 0, none⟩)))) W' from fun W' he => hK _ _ ⟨_, rfl, HV.us 18 _ rfl, ext_two s0 he⟩)
        have HU := Lib.hid (show (upd V 18 (.pointer (some ⟨B, 0, none⟩))) 10 = .bool true from e10)
        clear hK hC hW hL HV s0
        rw [HFR.out, e10]
        clear e10
        go_wp2_with fail
        show K _ _; have := H.out _ (Ext.refl _); rw [HFR.out] at this
        obtain u10 := HU.out
        rw [u10] at this
        exact this
       ·rintro L A W K hL hC hW ⟨V, rfl, HV, s0⟩ hK
        have e10 := HV 10 _ rfl (hW 10 rfl)
        have e18 := HV 18 _ rfl (hW 18 rfl)
        have hB := s0
        have H := Lib.hid (show ∀ W', Ext W W' → K (fr (upd V 19 (.int .u64 (p.addr : Nat)))) W' from fun W' he => hK _ _ ⟨_, rfl, HV.us 19 _ rfl, ext_two s0 he⟩)
        have HU := Lib.hid (show (upd V 19 (.int .u64 (p.addr : Nat))) 10 = .bool true ∧ (upd V 19 (.int .u64 (p.addr : Nat))) 18 = .pointer (some ⟨B, 0, none⟩) from ⟨e10, e18⟩)
        clear hK hC hW hL HV s0
        rw [HFR.out, e10, e18]
        clear e10 e18
        have hcl := (Ab.ext K4.out hB.2).addr
        clear hB
        go_wp2_with fail
        show K _ _; have := H.out _ (Ext.refl _); rw [HFR.out] at this
        obtain ⟨u10, u18⟩ := HU.out
        rw [u10, u18] at this
        exact this
       ·rintro L A W K hL hC hW ⟨V, rfl, HV, s0⟩ hK
        have e10 := HV 10 _ rfl (hW 10 rfl)
        have e17 := HV 17 _ rfl (hW 17 rfl)
        have e19 := HV 19 _ rfl (hW 19 rfl)
        have H := Lib.hid (show ∀ W', Ext W W' → K (fr (upd V 20 (.bool false))) W' from fun W' he => hK _ _ ⟨_, rfl, HV.us 20 _ rfl, ext_two s0 he⟩)
        have HU := Lib.hid (show (upd V 20 (.bool false)) 10 = .bool true ∧ (upd V 20 (.bool false)) 17 = .int .u64 (p0.addr : Nat) ∧ (upd V 20 (.bool false)) 19 = .int .u64 (p.addr : Nat) from ⟨e10, e17, e19⟩)
        clear hK hC hW hL HV s0
        rw [HFR.out, e10, e17, e19]
        clear e10 e17 e19
        go_wp2_with fail
        show K _ _; have := H.out _ (Ext.refl _); rw [HFR.out] at this
        obtain ⟨u10, u17, u19⟩ := HU.out
        rw [u10, u17, u19] at this
        exact this
       ·rintro L A W K hL hC hW ⟨V, rfl, HV, s0⟩ hK
        have e7 := HV 7 _ rfl (hW 7 rfl)
        have e10 := HV 10 _ rfl (hW 10 rfl)
        have e20 := HV 20 _ rfl (hW 20 rfl)
        have H := Lib.hid (show ∀ W', Ext W W' → K (fr (upd V 21 (.bool false))) W' from fun W' he => hK _ _ ⟨_, rfl, HV.us 21 _ rfl, ext_two s0 he⟩)
        have HU := Lib.hid (show (upd V 21 (.bool false)) 7 = .bool false ∧ (upd V 21 (.bool false)) 10 = .bool true ∧ (upd V 21 (.bool false)) 20 = .bool false from ⟨e7, e10, e20⟩)
        clear hK hC hW hL HV s0
        rw [HFR.out, e7, e10, e20]
        clear e7 e10 e20
        go_wp2_with fail
        show K _ _; have := H.out _ (Ext.refl _); rw [HFR.out] at this
        obtain ⟨u7, u10, u20⟩ := HU.out
        rw [u7, u10, u20] at this
        exact this
       ·rintro L A W K hL hC hW ⟨V, rfl, HV, s0⟩ hK
        have e7 := HV 7 _ rfl (hW 7 rfl)
        have e21 := HV 21 _ rfl (hW 21 rfl)
        have H := Lib.hid (show ∀ W', Ext W W' → K (fr (upd V 22 (.bool false))) W' from fun W' he => hK _ _ ⟨_, rfl, HV.us 22 _ rfl, ext_two s0 he⟩)
        have HU := Lib.hid (show (upd V 22 (.bool false)) 7 = .bool false ∧ (upd V 22 (.bool false)) 21 = .bool false from ⟨e7, e21⟩)
        clear hK hC hW hL HV s0
        rw [HFR.out, e7, e21]
        clear e7 e21
        go_wp2_with fail
        show K _ _; have := H.out _ (Ext.refl _); rw [HFR.out] at this
        obtain ⟨u7, u21⟩ := HU.out
        rw [u7, u21] at this
        exact this
       ·rintro L A W hL ⟨V, rfl, HV, s0⟩
        have e0 := HV 0 _ rfl (hL 0 (by simp))
        have e1 := HV 1 _ rfl (hL 1 (by simp))
        have e2 := HV 2 _ rfl (hL 2 (by simp))
        have e3 := HV 3 _ rfl (hL 3 (by simp))
        have e4 := HV 4 _ rfl (hL 4 (by simp))
        have e5 := HV 5 _ rfl (hL 5 (by simp))
        have e6 := HV 6 _ rfl (hL 6 (by simp))
        have e7 := HV 7 _ rfl (hL 7 (by simp))
        have e8 := HV 8 _ rfl (hL 8 (by simp))
        have e9 := HV 9 _ rfl (hL 9 (by simp))
        have e10 := HV 10 _ rfl (hL 10 (by simp))
        have e11 := HV 11 _ rfl (hL 11 (by simp))
        have e12 := HV 12 _ rfl (hL 12 (by simp))
        have e13 := HV 13 _ rfl (hL 13 (by simp))
        have e14 := HV 14 _ rfl (hL 14 (by simp))
        have e15 := HV 15 _ rfl (hL 15 (by simp))
        have e16 := HV 16 _ rfl (hL 16 (by simp))
        have e17 := HV 17 _ rfl (hL 17 (by simp))
        have e18 := HV 18 _ rfl (hL 18 (by simp))
        have e19 := HV 19 _ rfl (hL 19 (by simp))
        have e20 := HV 20 _ rfl (hL 20 (by simp))
        have e21 := HV 21 _ rfl (hL 21 (by simp))
        have e22 := HV 22 _ rfl (hL 22 (by simp))
        have hA := s0
        rw [HFR.out, e0, e1, e2, e3, e4, e5, e6, e7, e8, e9, e10, e11, e12, e13, e14, e15, e16, e17, e18, e19, e20, e21, e22]
        clear hL HV HFR e0 e1 e2 e3 e4 e5 e6 e7 e8 e9 e10 e11 e12 e13 e14 e15 e16 e17 e18 e19 e20 e21 e22 s0
        have HA6 := Lib.hid hA
        clear hA
        go_wp2_with fail
        exact ⟨⟨k + 1, by omega, by go_num, Lib.hid ⟨HS.out, HJ.out.2.trans HA6.out.1⟩⟩, by simp [intOf]; omega⟩
      ·have hge : decide ((p.addr : Int) ≤ (p0.addr : Int)) = true := decide_eq_true (by omega)
       have hge2 : decide ((p0.addr : Int) ≥ (p.addr : Int)) = true := decide_eq_true (by omega)
       have hge3 : decide (p.addr ≤ p0.addr) = true := decide_eq_true (by omega)
       have HF := Lib.hid (right_no HOKS.out HK.out (fun h => hlt2 (by have := h.2.2 (by omega); rw [HPP.out, HP0.out] at this; exact this)))
       clear hlt2 hk0
       refine wp_named fun a0 ha0 => ?_
       obtain ⟨fr, hfr⟩ : ∃ fr : (Nat → Value) → Act, ∀ V, fr V = (((((((((((((((((((((((a0.put (some 13) (V 0)).put (some 14) (V 1)).put (some 15) (V 2)).put (some 16) (V 3)).put (some 17) (V 4)).put (some 18) (V 5)).put (some 19) (V 6)).put (some 20) (V 7)).put (some 21) (V 8)).put (some 22) (V 9)).put (some 23) (V 10)).put (some 24) (V 11)).put (some 25) (V 12)).put (some 26) (V 13)).put (some 27) (V 14)).put (some 28) (V 15)).put (some 29) (V 16)).put (some 30) (V 17)).put (some 31) (V 18)).put (some 32) (V 19)).put (some 33) (V 20)).put (some 34) (V 21)).put (some 35) (V 22)) := ⟨_, fun _ => rfl⟩
       rw [ha0] at hfr
       simp only [Act.put, List.setIfInBounds_toArray, List.set_cons_zero, List.set_cons_succ] at hfr
       have HFR := Lib.hid hfr
       clear hfr
       refine wp_region_inv (by kernel_rfl) (by kernel_rfl) (fun L A W => ∃ V : Nat → Value, A = fr V ∧ Vals (fun j => ([some (.agg (acc p u v)), some (.bool true), some (.bool false), some (.bool false), some (.agg (acc p u v)), some (.bool false), some (.bool false), some (.bool false), some (.int .i64 (k : Nat)), some (.bool true), some (.bool true), some (.pointer (some ⟨w.heap.size, 0, none⟩)), some (.slice (some ⟨b, o, none⟩) l.length c0), some (.int .i64 (k : Nat)), some (.int .i64 (m : Nat)), some (.pointer (some ⟨b, o + m * 8, none⟩)), some (.pointer (some ⟨b, o + m * 8, none⟩)), some (.int .u64 (p0.addr : Nat)), some (.pointer (some ⟨B, 0, none⟩)), some (.int .u64 (p.addr : Nat)), some (.bool true), some (.bool true), some (.bool true)] : List (Option Value)).getD j none) L V ∧ (Ext wr W ∧ Ext w4 W)) ?_ ⟨?_, ?_, ?_, ?_, ?_, ?_, ?_, ?_, ?_, ?_, ?_, ?_, ?_, ?_, ?_, ?_, ?_, ?_, ?_, ?_, ?_, ?_, ?_, trivial⟩ ?_
       ·refine ⟨fun j => a0.tmps.getD (([13, 14, 15, 16, 17, 18, 19, 20, 21, 22, 23, 24, 25, 26, 27, 28, 29, 30, 31, 32, 33, 34, 35] : List Nat).getD j 0) undef, ?_, Vals.no _ _ _ (far_none _ _ rfl), ⟨HX4.out.trans (Ext.refl _).drew, (Ext.refl _).drew⟩⟩
        rw [HFR.out, ha0]
        rfl
       all_goals clear ha0
       ·rintro L A W K hL hC hW ⟨V, rfl, HV, s0⟩ hK
        have hB := s0
        have H := Lib.hid (show ∀ W', Ext W W' → K (fr (upd V 0 (.agg (acc p u v)))) W' from fun W' he => hK _ _ ⟨_, rfl, HV.us 0 _ rfl, ext_two s0 he⟩)
        clear hK hC hW hL HV s0
        rw [HFR.out]
        have HCR := Lib.hid (Ab.range (Ab.ext K4.out hB.2))
        clear hB
        ((with_reducible refine wpList_load_ac ?_ (.tmp 4) ?_ B 0 p u v ?_ ?_ ?_); (exact rfl); (exact rfl); (exact rfl); (exact HCR.out))
        show K _ _; have := H.out _ (Ext.refl _); rw [HFR.out] at this
        exact this
       ·rintro L A W K hL hC hW ⟨V, rfl, HV, s0⟩ hK
        have e0 := HV 0 _ rfl (hW 0 rfl)
        have hB := s0
        have H := Lib.hid (show ∀ W', Ext W W' → K (fr (upd V 1 (.bool true))) W' from fun W' he => hK _ _ ⟨_, rfl, HV.us 1 _ rfl, ext_two s0 he⟩)
        have HU := Lib.hid (show (upd V 1 (.bool true)) 0 = .agg (acc p u v) from e0)
        clear hK hC hW hL HV s0
        rw [HFR.out, e0]
        clear e0
        have HB' := Lib.hid hB
        clear hB
        go_wp2_with fail
        refine (HC1.out _ HB'.out.2).mono ?_
        rintro e wx ⟨rfl, he⟩
        have := H.out _ he
        clear H
        go_wp2_with fail
        show K _ _
        rw [HFR.out] at this
        obtain u0 := HU.out
        rw [u0] at this
        exact this
       ·rintro L A W K hL hC hW ⟨V, rfl, HV, s0⟩ hK
        have e1 := HV 1 _ rfl (hW 1 rfl)
        have H := Lib.hid (show ∀ W', Ext W W' → K (fr (upd V 2 (.bool false))) W' from fun W' he => hK _ _ ⟨_, rfl, HV.us 2 _ rfl, ext_two s0 he⟩)
        have HU := Lib.hid (show (upd V 2 (.bool false)) 1 = .bool true from e1)
        clear hK hC hW hL HV s0
        rw [HFR.out, e1]
        clear e1
        go_wp2_with fail
        show K _ _; have := H.out _ (Ext.refl _); rw [HFR.out] at this
        obtain u1 := HU.out
        rw [u1] at this
        exact this
       ·rintro L A W K hL hC hW ⟨V, rfl, HV, s0⟩ hK
        have e2 := HV 2 _ rfl (hW 2 rfl)
        have H := Lib.hid (show ∀ W', Ext W W' → K (fr (upd V 3 (.bool false))) W' from fun W' he => hK _ _ ⟨_, rfl, HV.us 3 _ rfl, ext_two s0 he⟩)
        have HU := Lib.hid (show (upd V 3 (.bool false)) 2 = .bool false from e2)
        clear hK hC hW hL HV s0
        rw [HFR.out, e2]
        clear e2
        go_wp2_with fail
        show K _ _; have := H.out _ (Ext.refl _); rw [HFR.out] at this
        obtain u2 := HU.out
        rw [u2] at this
        exact this
       ·rintro L A W K hL hC hW ⟨V, rfl, HV, s0⟩ hK
        have e3 := HV 3 _ rfl (hW 3 rfl)
        have hB := s0
        have H := Lib.hid (show ∀ W', Ext W W' → K (fr (upd V 4 (.agg (acc p u v)))) W' from fun W' he => hK _ _ ⟨_, rfl, HV.us 4 _ rfl, ext_two s0 he⟩)
        have HU := Lib.hid (show (upd V 4 (.agg (acc p u v))) 3 = .bool false from e3)
        clear hK hC hW hL HV s0
        rw [HFR.out, e3]
        clear e3
        have HCR := Lib.hid (Ab.range (Ab.ext K4.out hB.2))
        clear hB
        ((with_reducible refine wpList_load_ac ?_ (.tmp 4) ?_ B 0 p u v ?_ ?_ ?_); (exact rfl); (exact rfl); (exact rfl); (exact HCR.out))
        show K _ _; have := H.out _ (Ext.refl _); rw [HFR.out] at this
        obtain u3 := HU.out
        rw [u3] at this
        exact this
       ·rintro L A W K hL hC hW ⟨V, rfl, HV, s0⟩ hK
        have e3 := HV 3 _ rfl (hW 3 rfl)
        have e4 := HV 4 _ rfl (hW 4 rfl)
        have hB := s0
        have H := Lib.hid (show ∀ W', Ext W W' → K (fr (upd V 5 (.bool false))) W' from fun W' he => hK _ _ ⟨_, rfl, HV.us 5 _ rfl, ext_two s0 he⟩)
        have HU := Lib.hid (show (upd V 5 (.bool false)) 3 = .bool false ∧ (upd V 5 (.bool false)) 4 = .agg (acc p u v) from ⟨e3, e4⟩)
        clear hK hC hW hL HV s0
        rw [HFR.out, e3, e4]
        clear e3 e4
        have HB' := Lib.hid hB
        clear hB
        go_wp2_with fail
        refine (HC2.out _ HB'.out.2).mono ?_
        rintro e wx ⟨rfl, he⟩
        have := H.out _ he
        clear H
        go_wp2_with fail
        show K _ _
        rw [HFR.out] at this
        obtain ⟨u3, u4⟩ := HU.out
        rw [u3, u4] at this
        exact this
       ·rintro L A W K hL hC hW ⟨V, rfl, HV, s0⟩ hK
        have e3 := HV 3 _ rfl (hW 3 rfl)
        have e5 := HV 5 _ rfl (hW 5 rfl)
        have H := Lib.hid (show ∀ W', Ext W W' → K (fr (upd V 6 (.bool false))) W' from fun W' he => hK _ _ ⟨_, rfl, HV.us 6 _ rfl, ext_two s0 he⟩)
        have HU := Lib.hid (show (upd V 6 (.bool false)) 3 = .bool false ∧ (upd V 6 (.bool false)) 5 = .bool false from ⟨e3, e5⟩)
        clear hK hC hW hL HV s0
        rw [HFR.out, e3, e5]
        clear e3 e5
        go_wp2_with fail
        show K _ _; have := H.out _ (Ext.refl _); rw [HFR.out] at this
        obtain ⟨u3, u5⟩ := HU.out
        rw [u3, u5] at this
        exact this
       ·rintro L A W K hL hC hW ⟨V, rfl, HV, s0⟩ hK
        have e6 := HV 6 _ rfl (hW 6 rfl)
        have H := Lib.hid (show ∀ W', Ext W W' → K (fr (upd V 7 (.bool false))) W' from fun W' he => hK _ _ ⟨_, rfl, HV.us 7 _ rfl, ext_two s0 he⟩)
        have HU := Lib.hid (show (upd V 7 (.bool false)) 6 = .bool false from e6)
        clear hK hC hW hL HV s0
        rw [HFR.out, e6]
        clear e6
        go_wp2_with fail
        show K _ _; have := H.out _ (Ext.refl _); rw [HFR.out] at this
        obtain u6 := HU.out
        rw [u6] at this
        exact this
       ·rintro L A W K hL hC hW ⟨V, rfl, HV, s0⟩ hK
        have e7 := HV 7 _ rfl (hW 7 rfl)
        have H := Lib.hid (show ∀ W', Ext W W' → K (fr (upd V 8 (.int .i64 (k : Nat)))) W' from fun W' he => hK _ _ ⟨_, rfl, HV.us 8 _ rfl, ext_two s0 he⟩)
        have HU := Lib.hid (show (upd V 8 (.int .i64 (k : Nat))) 7 = .bool false from e7)
        clear hK hC hW hL HV s0
        rw [HFR.out, e7]
        clear e7
        go_wp2_with fail
        show K _ _; have := H.out _ (Ext.refl _); rw [HFR.out] at this
        obtain u7 := HU.out
        rw [u7] at this
        exact this
       ·rintro L A W K hL hC hW ⟨V, rfl, HV, s0⟩ hK
        have e7 := HV 7 _ rfl (hW 7 rfl)
        have e8 := HV 8 _ rfl (hW 8 rfl)
        have H := Lib.hid (show ∀ W', Ext W W' → K (fr (upd V 9 (.bool true))) W' from fun W' he => hK _ _ ⟨_, rfl, HV.us 9 _ rfl, ext_two s0 he⟩)
        have HU := Lib.hid (show (upd V 9 (.bool true)) 7 = .bool false ∧ (upd V 9 (.bool true)) 8 = .int .i64 (k : Nat) from ⟨e7, e8⟩)
        clear hK hC hW hL HV s0
        rw [HFR.out, e7, e8]
        clear e7 e8
        go_wp2_with fail
        show K _ _; have := H.out _ (Ext.refl _); rw [HFR.out] at this
        obtain ⟨u7, u8⟩ := HU.out
        rw [u7, u8] at this
        exact this
       ·rintro L A W K hL hC hW ⟨V, rfl, HV, s0⟩ hK
        have e7 := HV 7 _ rfl (hW 7 rfl)
        have e9 := HV 9 _ rfl (hW 9 rfl)
        have H := Lib.hid (show ∀ W', Ext W W' → K (fr (upd V 10 (.bool true))) W' from fun W' he => hK _ _ ⟨_, rfl, HV.us 10 _ rfl, ext_two s0 he⟩)
        have HU := Lib.hid (show (upd V 10 (.bool true)) 7 = .bool false ∧ (upd V 10 (.bool true)) 9 = .bool true from ⟨e7, e9⟩)
        clear hK hC hW hL HV s0
        rw [HFR.out, e7, e9]
        clear e7 e9
        go_wp2_with fail
        show K _ _; have := H.out _ (Ext.refl _); rw [HFR.out] at this
        obtain ⟨u7, u9⟩ := HU.out
        rw [u7, u9] at this
        exact this
       ·rintro L A W K hL hC hW ⟨V, rfl, HV, s0⟩ hK
        have e10 := HV 10 _ rfl (hW 10 rfl)
        have H := Lib.hid (show ∀ W', Ext W W' → K (fr (upd V 11 (.pointer (some ⟨w.heap.size, 0, none⟩)))) W' from fun W' he => hK _ _ ⟨_, rfl, HV.us 11 _ rfl, ext_two s0 he⟩)
        have HU := Lib.hid (show (upd V 11 (.pointer (some ⟨w.heap.size, 0, none⟩))) 10 = .bool true from e10)
        clear hK hC hW hL HV s0
        rw [HFR.out, e10]
        clear e10
        go_wp2_with fail
        show K _ _; have := H.out _ (Ext.refl _); rw [HFR.out] at this
        obtain u10 := HU.out
        rw [u10] at this
        exact this
       ·rintro L A W K hL hC hW ⟨V, rfl, HV, s0⟩ hK
        have e10 := HV 10 _ rfl (hW 10 rfl)
        have e11 := HV 11 _ rfl (hW 11 rfl)
        have hB := s0
        have H := Lib.hid (show ∀ W', Ext W W' → K (fr (upd V 12 (.slice (some ⟨b, o, none⟩) l.length c0))) W' from fun W' he => hK _ _ ⟨_, rfl, HV.us 12 _ rfl, ext_two s0 he⟩)
        have HU := Lib.hid (show (upd V 12 (.slice (some ⟨b, o, none⟩) l.length c0)) 10 = .bool true ∧ (upd V 12 (.slice (some ⟨b, o, none⟩) l.length c0)) 11 = .pointer (some ⟨w.heap.size, 0, none⟩) from ⟨e10, e11⟩)
        clear hK hC hW hL HV s0
        rw [HFR.out, e10, e11]
        clear e10 e11
        have hcl := (Cs.ext HB0.out.1 (HE.out.trans hB.1)).cell 0 _ rfl
        clear hB
        go_wp2_with fail
        show K _ _; have := H.out _ (Ext.refl _); rw [HFR.out] at this
        obtain ⟨u10, u11⟩ := HU.out
        rw [u10, u11] at this
        exact this
       ·rintro L A W K hL hC hW ⟨V, rfl, HV, s0⟩ hK
        have e10 := HV 10 _ rfl (hW 10 rfl)
        have H := Lib.hid (show ∀ W', Ext W W' → K (fr (upd V 13 (.int .i64 (k : Nat)))) W' from fun W' he => hK _ _ ⟨_, rfl, HV.us 13 _ rfl, ext_two s0 he⟩)
        have HU := Lib.hid (show (upd V 13 (.int .i64 (k : Nat))) 10 = .bool true from e10)
        clear hK hC hW hL HV s0
        rw [HFR.out, e10]
        clear e10
        go_wp2_with fail
        show K _ _; have := H.out _ (Ext.refl _); rw [HFR.out] at this
        obtain u10 := HU.out
        rw [u10] at this
        exact this
       ·rintro L A W K hL hC hW ⟨V, rfl, HV, s0⟩ hK
        have e10 := HV 10 _ rfl (hW 10 rfl)
        have e13 := HV 13 _ rfl (hW 13 rfl)
        have H := Lib.hid (show ∀ W', Ext W W' → K (fr (upd V 14 (.int .i64 (m : Nat)))) W' from fun W' he => hK _ _ ⟨_, rfl, HV.us 14 _ rfl, ext_two s0 he⟩)
        have HU := Lib.hid (show (upd V 14 (.int .i64 (m : Nat))) 10 = .bool true ∧ (upd V 14 (.int .i64 (m : Nat))) 13 = .int .i64 (k : Nat) from ⟨e10, e13⟩)
        clear hK hC hW hL HV s0
        rw [HFR.out, e10, e13]
        clear e10 e13
        go_wp2_with fail
        show K _ _; have := H.out _ (Ext.refl _); rw [HFR.out] at this
        obtain ⟨u10, u13⟩ := HU.out
        rw [u10, u13] at this
        exact this
       ·rintro L A W K hL hC hW ⟨V, rfl, HV, s0⟩ hK
        have e10 := HV 10 _ rfl (hW 10 rfl)
        have e12 := HV 12 _ rfl (hW 12 rfl)
        have e14 := HV 14 _ rfl (hW 14 rfl)
        have H := Lib.hid (show ∀ W', Ext W W' → K (fr (upd V 15 (.pointer (some ⟨b, o + m * 8, none⟩)))) W' from fun W' he => hK _ _ ⟨_, rfl, HV.us 15 _ rfl, ext_two s0 he⟩)
        have HU := Lib.hid (show (upd V 15 (.pointer (some ⟨b, o + m * 8, none⟩))) 10 = .bool true ∧ (upd V 15 (.pointer (some ⟨b, o + m * 8, none⟩))) 12 = .slice (some ⟨b, o, none⟩) l.length c0 ∧ (upd V 15 (.pointer (some ⟨b, o + m * 8, none⟩))) 14 = .int .i64 (m : Nat) from ⟨e10, e12, e14⟩)
        clear hK hC hW hL HV s0
        rw [HFR.out, e10, e12, e14]
        clear e10 e12 e14
        go_wp2_with fail
        show K _ _; have := H.out _ (Ext.refl _); rw [HFR.out] at this
        obtain ⟨u10, u12, u14⟩ := HU.out
        rw [u10, u12, u14] at this
        exact this
       ·rintro L A W K hL hC hW ⟨V, rfl, HV, s0⟩ hK
        have e10 := HV 10 _ rfl (hW 10 rfl)
        have e15 := HV 15 _ rfl (hW 15 rfl)
        have H := Lib.hid (show ∀ W', Ext W W' → K (fr (upd V 16 (.pointer (some ⟨b, o + m * 8, none⟩)))) W' from fun W' he => hK _ _ ⟨_, rfl, HV.us 16 _ rfl, ext_two s0 he⟩)
        have HU := Lib.hid (show (upd V 16 (.pointer (some ⟨b, o + m * 8, none⟩))) 10 = .bool true ∧ (upd V 16 (.pointer (some ⟨b, o + m * 8, none⟩))) 15 = .pointer (some ⟨b, o + m * 8, none⟩) from ⟨e10, e15⟩)
        clear hK hC hW hL HV s0
        rw [HFR.out, e10, e15]
        clear e10 e15
        go_wp2_with fail
        show K _ _; have := H.out _ (Ext.refl _); rw [HFR.out] at this
        obtain ⟨u10, u15⟩ := HU.out
        rw [u10, u15] at this
        exact this
       ·rintro L A W K hL hC hW ⟨V, rfl, HV, s0⟩ hK
        have e10 := HV 10 _ rfl (hW 10 rfl)
        have e16 := HV 16 _ rfl (hW 16 rfl)
        have hB := s0
        have H := Lib.hid (show ∀ W', Ext W W' → K (fr (upd V 17 (.int .u64 (p0.addr : Nat)))) W' from fun W' he => hK _ _ ⟨_, rfl, HV.us 17 _ rfl, ext_two s0 he⟩)
        have HU := Lib.hid (show (upd V 17 (.int .u64 (p0.addr : Nat))) 10 = .bool true ∧ (upd V 17 (.int .u64 (p0.addr : Nat))) 16 = .pointer (some ⟨b, o + m * 8, none⟩) from ⟨e10, e16⟩)
        clear hK hC hW hL HV s0
        rw [HFR.out, e10, e16]
        clear e10 e16
        have hcl := hB.2.cell X0.out
        clear hB
        go_wp2_with fail
        show K _ _; have := H.out _ (Ext.refl _); rw [HFR.out] at this
        obtain ⟨u10, u16⟩ := HU.out
        rw [u10, u16] at this
        exact this
       ·rintro L A W K hL hC hW ⟨V, rfl, HV, s0⟩ hK
        have e10 := HV 10 _ rfl (hW 10 rfl)
        have H := Lib.hid (show ∀ W', Ext W W' → K (fr (upd V 18 (.pointer (some ⟨B, 0, none⟩)))) W' from fun W' he => hK _ _ ⟨_, rfl, HV.us 18 _ rfl, ext_two s0 he⟩)
        have HU := Lib.hid (show (upd V 18 (.pointer (some ⟨B, 0, none⟩))) 10 = .bool true from e10)
        clear hK hC hW hL HV s0
        rw [HFR.out, e10]
        clear e10
        go_wp2_with fail
        show K _ _; have := H.out _ (Ext.refl _); rw [HFR.out] at this
        obtain u10 := HU.out
        rw [u10] at this
        exact this
       ·rintro L A W K hL hC hW ⟨V, rfl, HV, s0⟩ hK
        have e10 := HV 10 _ rfl (hW 10 rfl)
        have e18 := HV 18 _ rfl (hW 18 rfl)
        have hB := s0
        have H := Lib.hid (show ∀ W', Ext W W' → K (fr (upd V 19 (.int .u64 (p.addr : Nat)))) W' from fun W' he => hK _ _ ⟨_, rfl, HV.us 19 _ rfl, ext_two s0 he⟩)
        have HU := Lib.hid (show (upd V 19 (.int .u64 (p.addr : Nat))) 10 = .bool true ∧ (upd V 19 (.int .u64 (p.addr : Nat))) 18 = .pointer (some ⟨B, 0, none⟩) from ⟨e10, e18⟩)
        clear hK hC hW hL HV s0
        rw [HFR.out, e10, e18]
        clear e10 e18
        have hcl := (Ab.ext K4.out hB.2).addr
        clear hB
        go_wp2_with fail
        show K _ _; have := H.out _ (Ext.refl _); rw [HFR.out] at this
        obtain ⟨u10, u18⟩ := HU.out
        rw [u10, u18] at this
        exact this
       ·rintro L A W K hL hC hW ⟨V, rfl, HV, s0⟩ hK
        have e10 := HV 10 _ rfl (hW 10 rfl)
        have e17 := HV 17 _ rfl (hW 17 rfl)
        have e19 := HV 19 _ rfl (hW 19 rfl)
        have H := Lib.hid (show ∀ W', Ext W W' → K (fr (upd V 20 (.bool true))) W' from fun W' he => hK _ _ ⟨_, rfl, HV.us 20 _ rfl, ext_two s0 he⟩)
        have HU := Lib.hid (show (upd V 20 (.bool true)) 10 = .bool true ∧ (upd V 20 (.bool true)) 17 = .int .u64 (p0.addr : Nat) ∧ (upd V 20 (.bool true)) 19 = .int .u64 (p.addr : Nat) from ⟨e10, e17, e19⟩)
        clear hK hC hW hL HV s0
        rw [HFR.out, e10, e17, e19]
        clear e10 e17 e19
        go_wp2_with fail
        show K _ _; have := H.out _ (Ext.refl _); rw [HFR.out] at this
        obtain ⟨u10, u17, u19⟩ := HU.out
        rw [u10, u17, u19] at this
        exact this
       ·rintro L A W K hL hC hW ⟨V, rfl, HV, s0⟩ hK
        have e7 := HV 7 _ rfl (hW 7 rfl)
        have e10 := HV 10 _ rfl (hW 10 rfl)
        have e20 := HV 20 _ rfl (hW 20 rfl)
        have H := Lib.hid (show ∀ W', Ext W W' → K (fr (upd V 21 (.bool true))) W' from fun W' he => hK _ _ ⟨_, rfl, HV.us 21 _ rfl, ext_two s0 he⟩)
        have HU := Lib.hid (show (upd V 21 (.bool true)) 7 = .bool false ∧ (upd V 21 (.bool true)) 10 = .bool true ∧ (upd V 21 (.bool true)) 20 = .bool true from ⟨e7, e10, e20⟩)
        clear hK hC hW hL HV s0
        rw [HFR.out, e7, e10, e20]
        clear e7 e10 e20
        go_wp2_with fail
        show K _ _; have := H.out _ (Ext.refl _); rw [HFR.out] at this
        obtain ⟨u7, u10, u20⟩ := HU.out
        rw [u7, u10, u20] at this
        exact this
       ·rintro L A W K hL hC hW ⟨V, rfl, HV, s0⟩ hK
        have e7 := HV 7 _ rfl (hW 7 rfl)
        have e21 := HV 21 _ rfl (hW 21 rfl)
        have H := Lib.hid (show ∀ W', Ext W W' → K (fr (upd V 22 (.bool true))) W' from fun W' he => hK _ _ ⟨_, rfl, HV.us 22 _ rfl, ext_two s0 he⟩)
        have HU := Lib.hid (show (upd V 22 (.bool true)) 7 = .bool false ∧ (upd V 22 (.bool true)) 21 = .bool true from ⟨e7, e21⟩)
        clear hK hC hW hL HV s0
        rw [HFR.out, e7, e21]
        clear e7 e21
        go_wp2_with fail
        show K _ _; have := H.out _ (Ext.refl _); rw [HFR.out] at this
        obtain ⟨u7, u21⟩ := HU.out
        rw [u7, u21] at this
        exact this
       ·rintro L A W hL ⟨V, rfl, HV, s0⟩
        have e0 := HV 0 _ rfl (hL 0 (by simp))
        have e1 := HV 1 _ rfl (hL 1 (by simp))
        have e2 := HV 2 _ rfl (hL 2 (by simp))
        have e3 := HV 3 _ rfl (hL 3 (by simp))
        have e4 := HV 4 _ rfl (hL 4 (by simp))
        have e5 := HV 5 _ rfl (hL 5 (by simp))
        have e6 := HV 6 _ rfl (hL 6 (by simp))
        have e7 := HV 7 _ rfl (hL 7 (by simp))
        have e8 := HV 8 _ rfl (hL 8 (by simp))
        have e9 := HV 9 _ rfl (hL 9 (by simp))
        have e10 := HV 10 _ rfl (hL 10 (by simp))
        have e11 := HV 11 _ rfl (hL 11 (by simp))
        have e12 := HV 12 _ rfl (hL 12 (by simp))
        have e13 := HV 13 _ rfl (hL 13 (by simp))
        have e14 := HV 14 _ rfl (hL 14 (by simp))
        have e15 := HV 15 _ rfl (hL 15 (by simp))
        have e16 := HV 16 _ rfl (hL 16 (by simp))
        have e17 := HV 17 _ rfl (hL 17 (by simp))
        have e18 := HV 18 _ rfl (hL 18 (by simp))
        have e19 := HV 19 _ rfl (hL 19 (by simp))
        have e20 := HV 20 _ rfl (hL 20 (by simp))
        have e21 := HV 21 _ rfl (hL 21 (by simp))
        have e22 := HV 22 _ rfl (hL 22 (by simp))
        have hA := s0
        rw [HFR.out, e0, e1, e2, e3, e4, e5, e6, e7, e8, e9, e10, e11, e12, e13, e14, e15, e16, e17, e18, e19, e20, e21, e22]
        clear hL HV HFR e0 e1 e2 e3 e4 e5 e6 e7 e8 e9 e10 e11 e12 e13 e14 e15 e16 e17 e18 e19 e20 e21 e22 s0
        have HA6 := Lib.hid hA
        clear hA
        go_wp2_with fail
        go_ret
        exact ⟨by rw [HF.out]; rfl, HE0.out.trans HA6.out.1⟩
  ·obtain rfl : k = l.length := by omega
   have HF := Lib.hid (right_yes HOKS.out HJ.out.1)
   have q1 : wr.cell? ⟨w.heap.size, 0, none⟩ = some (.slice A0 l.length c0) := (Cs.ext HB0.out.1 HE.out).cell 0 _ rfl
   have hfn := freeN_le l
   go_wp2_with fail
   refine (refMany_any _ l _ (HS.out.ext HE0.out)).mono ?_
   rintro e w3 ⟨rfl, he⟩
   have HE3 := Lib.hid (HE0.out.trans he)
   have q3 : w3.cell? ⟨w.heap.size, 0, none⟩ = some (.slice A0 l.length c0) := (Cs.ext HB0.out.1 (HE.out.trans he)).cell 0 _ rfl
   clear he q1
   generalize freeN l = fn at *
   by_cases h24 : fn ≤ 24
   ·have d1 : decide ((fn : Int) ≤ 24) = true := decide_eq_true (by omega)
    have d2 : decide (fn ≤ 24) = true := decide_eq_true h24
    rw [d2, Bool.true_and] at HF
    clear h24
    go_wp2_with fail
    refine (refFits_any _ l _ (HS.out.ext HE3.out) HL.out).mono ?_
    rintro e w5 ⟨rfl, he⟩
    have HE5 := Lib.hid (HE3.out.trans he)
    clear he
    rw [← HF.out]
    obtain ⟨rr, hrr⟩ : ∃ rr, rightL l = rr := ⟨_, rfl⟩
    have HRR := Lib.hid hrr
    rw [hrr]
    clear hrr
    go_wp2_with fail
    go_ret
    exact ⟨by rw [HRR.out]; rfl, HE5.out⟩
   ·have d1 : decide ((fn : Int) ≤ 24) = false := decide_eq_false (by omega)
    have d2 : decide (fn ≤ 24) = false := decide_eq_false h24
    rw [d2, Bool.false_and] at HF
    clear h24
    go_wp2_with fail
    go_ret
    exact ⟨by rw [HF.out]; rfl, HE3.out⟩
end Go.Proofs.Ytiojfpdjnblkhaa
