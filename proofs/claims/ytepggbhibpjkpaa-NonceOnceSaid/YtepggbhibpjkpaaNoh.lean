/- Package nonce: Same, the law's few, wakes; some of the document's answers. -/
import Derived.Test.YtepggbhibpjkpaaNog
namespace Go.Proofs.Ytepggbhibpjkpaa
open Go.ChangeShapes Go.WideShapes Go.ChangeAt Go.RowKit Go.Shelf

set_option maxRecDepth 100000 in
set_option maxHeartbeats 1000000 in
theorem refKey_any (n : Nat) (w : World) : Calls Try.prog 24 #[wv n] w fun e w' => e = .returned (.bool (keyB n)) ∧ Ext w w' := by
  unfold wv
  obtain ⟨w1, hw1⟩ : ∃ w1, w.alloc (.cells (wc n) 29) = w1 := ⟨_, rfl⟩
  have HW1 := Lib.hid hw1
  have k0 : Wd w1 w.heap.size 29 n := by rw [← hw1]; exact Cs.new w _ _ _ rfl
  have HE : Hid (Ext w w1) := Lib.hid (by rw [← hw1]; exact (Ext.refl w).alloc _)
  clear hw1
  have c3 := k0.cell 3 (by decide)
  clear k0
  go_enter Try.func24, Try.ntmps24
  go_upto_region 1 with fail
  rw [HW1.out]
  clear HW1
  have HK : Hid (keyB n = ((lb n 3 : Int) == 0)) := Lib.hid (by unfold keyB; rw [← int_beq]; rfl)
  generalize lb n 3 = x at *
  go_wp2_with fail
  go_ret
  exact ⟨by rw [HK.out]; rfl, HE.out⟩
set_option maxRecDepth 100000 in
set_option maxHeartbeats 1000000 in
theorem refJoin_any (k s : Nat) (w : World) (hs : s < 18446744073709551616) : Calls Try.prog 25 #[wv k, .int .u64 (s : Nat)] w fun e w' => e = .returned (wv (jnN k s)) ∧ Ext w w' := by
  have HW := Lib.hid (wc_join k s hs)
  clear hs
  unfold wv
  obtain ⟨w1, hw1⟩ : ∃ w1, (w.alloc (.cells (wc k) 29)).alloc (.cells (wc 0) 29) = w1 := ⟨_, rfl⟩
  have HW1 := Lib.hid hw1
  have k0 : Wd w1 w.heap.size 29 k := by rw [← hw1]; exact Cs.alloc (Cs.new _ _ _ _ rfl) _
  have HZ : Hid (Cs w1 (w.heap.size + 1) 29 (wc 0)) := Lib.hid (by rw [← hw1]; exact Cs.new _ _ _ _ (by simp))
  have HE : Hid (Ext w w1) := Lib.hid (by rw [← hw1]; exact ((Ext.refl w).alloc _).alloc _)
  clear hw1
  obtain ⟨c0, c1, c2, c3⟩ := k0.cs.four
  clear k0
  go_enter Try.func25, Try.ntmps25
  go_upto_region 1 with fail
  rw [show (w.alloc (.cells (wc k) 29)).alloc (.cells #[.int .u64 0, .int .u64 0, .int .u64 0, .int .u64 0] 29) = w1 from HW1.out]
  clear HW1
  generalize lb k 0 = x0 at *
  generalize lb k 1 = x1 at *
  generalize lb k 2 = x2 at *
  generalize lb k 3 = x3 at *
  go_wp2_with (first
    | ((with_reducible refine wpList_store_word ?_ ?_ 29 (.tmp 4) (.tmp 12) ?_ winfo (w.heap.size + 1) (wc 0) (jnN k s) ?_ ?_ ?_ ?_ ?_); (exact rfl); (exact rfl); (exact rfl); (exact rfl); (exact congrArg Value.agg HW.out); (exact HZ.out); (exact rfl); intro w9 k9 g9; have K9 := Lib.hid k9; have G9 := Lib.hid g9; clear k9 g9))
  refine bodyPost_ret (results_word Try.results25 _ _ (w.heap.size + 1) (jnN k s) rfl K9.out Try.underlying29 winfo) rfl ?_
  exact ⟨rfl, HE.out.grown G9.out (by omega)⟩
set_option maxRecDepth 100000 in
set_option maxHeartbeats 1000000 in
theorem refSplit_any (n : Nat) (w : World) (h : n < M256) : Calls Try.prog 28 #[wv n] w fun e w' => e = .returned (.tuple #[wv (keyN n), .int .u64 (seqN n : Nat)]) ∧ Ext w w' := by
  have HW := Lib.hid (wc_split n h)
  clear h
  unfold wv
  obtain ⟨w1, hw1⟩ : ∃ w1, (w.alloc (.cells (wc n) 29)).alloc (.cells (wc 0) 29) = w1 := ⟨_, rfl⟩
  have HW1 := Lib.hid hw1
  have HJ : Hid (SpJ w w.heap.size (w.heap.size + 1) n 0 w1) := Lib.hid (by
    rw [← hw1]
    exact ⟨Cs.alloc (Cs.new _ _ _ _ rfl) _, Cs.new _ _ _ _ (by simp), ((Ext.refl w).alloc _).alloc _⟩)
  clear hw1
  go_enter Try.func28, Try.ntmps28
  go_upto_region 1 with fail
  rw [show (w.alloc (.cells (wc n) 29)).alloc (.cells #[.int .u64 0, .int .u64 0, .int .u64 0, .int .u64 0] 29) = w1 from HW1.out]
  clear HW1
  obtain ⟨g2, hg2⟩ : ∃ g, w.heap.size + 1 = g := ⟨_, rfl⟩
  have HG := Lib.hid (show w.heap.size < g2 ∧ w.heap.size ≤ g2 by omega)
  rw [hg2] at HJ ⊢
  clear hg2
  obtain ⟨g1, hg1⟩ : ∃ g, w.heap.size = g := ⟨_, rfl⟩
  rw [show (w.heap.size < g2 ∧ w.heap.size ≤ g2) = (g1 < g2 ∧ w.heap.size ≤ g2) by rw [hg1]] at HG
  rw [hg1] at HJ ⊢
  clear hg1
  refine wp_named fun a0 ha0 => ?_
  obtain ⟨fr, hfr⟩ : ∃ fr : (Nat → Value) → Act, ∀ V, fr V = ((((((((((a0.put (some 4) (V 0)).put (some 5) (V 1)).put (some 6) (V 2)).put (some 7) (V 3)).put (some 8) (V 4)).put (some 9) (V 5)).put (some 10) (V 6)).put (some 11) (V 7)).put (some 12) (V 8)).put (some 3) (V 10)) := ⟨fun V => ((((((((((a0.put (some 4) (V 0)).put (some 5) (V 1)).put (some 6) (V 2)).put (some 7) (V 3)).put (some 8) (V 4)).put (some 9) (V 5)).put (some 10) (V 6)).put (some 11) (V 7)).put (some 12) (V 8)).put (some 3) (V 10)), fun _ => rfl⟩
  rw [ha0] at hfr
  simp only [Act.put, List.setIfInBounds_toArray, List.set_cons_zero, List.set_cons_succ] at hfr
  have HFR := Lib.hid hfr
  clear hfr
  refine wp_region_inv (by kernel_rfl) (by kernel_rfl) (fun L A W => ∃ V : Nat → Value, A = fr V ∧ Vals (fun j => ([some (.pointer (some ⟨g1, 1, none⟩)), some (.int .u64 (lb n 1 : Nat)), some (.pointer (some ⟨g1, 2, none⟩)), some (.int .u64 (lb n 2 : Nat)), some (.pointer (some ⟨g1, 3, none⟩)), some (.int .u64 (lb n 3 : Nat)), some (.agg #[.int .u64 (lb n 1 : Nat), .int .u64 (lb n 2 : Nat), .int .u64 (lb n 3 : Nat), .int .u64 0]), some (.pointer (some ⟨g1, 0, none⟩)), some (.int .u64 (lb n 0 : Nat)), none, some (.int .u64 (lb n 0 : Nat))] : List (Option Value)).getD j none) L V ∧ (L 9 = false → SpJ w g1 g2 n 0 W) ∧ (L 9 = true → SpJ w g1 g2 n (keyN n) W)) ?_ ⟨?_, ?_, ?_, ?_, ?_, ?_, ?_, ?_, ?_, ?_, ?_, trivial⟩ ?_
  · refine ⟨fun j => a0.tmps.getD (([4, 5, 6, 7, 8, 9, 10, 11, 12, 0, 3] : List Nat).getD j 0) undef, ?_, Vals.no _ _ _ (far_none _ _ rfl), fun _ => HJ.out.ext ((Ext.refl _).drew), fun h0 => absurd h0 (by decide)⟩
    rw [HFR.out, ha0]
    rfl
  all_goals clear ha0
  · rintro L A W K hL hC hW ⟨V, rfl, HV, s0, s1⟩ hK
    have H := Lib.hid (show ∀ W', Ext W W' → K (fr (upd V 0 (.pointer (some ⟨g1, 1, none⟩)))) W' from fun W' he => hK _ _ ⟨upd V 0 (.pointer (some ⟨g1, 1, none⟩)), rfl, HV.up 0 _ (fun x hx => Option.some.inj hx), fun h0 => SpJ.ext (s0 (by unfold More at h0; rwa [if_neg (by decide)] at h0)) he, fun h0 => SpJ.ext (s1 (more_ne h0 rfl)) he⟩)
    clear hK hC hW hL HV s0 s1
    rw [HFR.out]
    go_wp2_with fail
    show K _ _
    have := H.out _ (Ext.refl _)
    rw [HFR.out] at this
    exact this
  · rintro L A W K hL hC hW ⟨V, rfl, HV, s0, s1⟩ hK
    have e0 : V 0 = .pointer (some ⟨g1, 1, none⟩) := HV 0 _ rfl (hW 0 rfl)
    have hB : Cs W g1 29 (wc n) := by
      cases h9 : L 9 with
      | false => exact (s0 h9).1
      | true => exact (s1 h9).1
    have H := Lib.hid (show ∀ W', Ext W W' → K (fr (upd V 1 (.int .u64 (lb n 1 : Nat)))) W' from fun W' he => hK _ _ ⟨upd V 1 (.int .u64 (lb n 1 : Nat)), rfl, HV.up 1 _ (fun x hx => Option.some.inj hx), fun h0 => SpJ.ext (s0 (by unfold More at h0; rwa [if_neg (by decide)] at h0)) he, fun h0 => SpJ.ext (s1 (more_ne h0 rfl)) he⟩)
    have HU := Lib.hid (show (upd V 1 (.int .u64 (lb n 1 : Nat))) 0 = .pointer (some ⟨g1, 1, none⟩) from e0)
    clear hK hC hW hL HV s0 s1
    rw [HFR.out]
    rw [e0]
    clear e0
    have qq := hB.cell 1 _ (wc_get n 1 (by decide))
    unfold lv at qq
    clear hB
    go_wp2_with fail
    show K _ _
    have := H.out _ (Ext.refl _)
    rw [HFR.out] at this
    obtain u0 := HU.out
    rw [u0] at this
    exact this
  · rintro L A W K hL hC hW ⟨V, rfl, HV, s0, s1⟩ hK
    have H := Lib.hid (show ∀ W', Ext W W' → K (fr (upd V 2 (.pointer (some ⟨g1, 2, none⟩)))) W' from fun W' he => hK _ _ ⟨upd V 2 (.pointer (some ⟨g1, 2, none⟩)), rfl, HV.up 2 _ (fun x hx => Option.some.inj hx), fun h0 => SpJ.ext (s0 (by unfold More at h0; rwa [if_neg (by decide)] at h0)) he, fun h0 => SpJ.ext (s1 (more_ne h0 rfl)) he⟩)
    clear hK hC hW hL HV s0 s1
    rw [HFR.out]
    go_wp2_with fail
    show K _ _
    have := H.out _ (Ext.refl _)
    rw [HFR.out] at this
    exact this
  · rintro L A W K hL hC hW ⟨V, rfl, HV, s0, s1⟩ hK
    have e2 : V 2 = .pointer (some ⟨g1, 2, none⟩) := HV 2 _ rfl (hW 2 rfl)
    have hB : Cs W g1 29 (wc n) := by
      cases h9 : L 9 with
      | false => exact (s0 h9).1
      | true => exact (s1 h9).1
    have H := Lib.hid (show ∀ W', Ext W W' → K (fr (upd V 3 (.int .u64 (lb n 2 : Nat)))) W' from fun W' he => hK _ _ ⟨upd V 3 (.int .u64 (lb n 2 : Nat)), rfl, HV.up 3 _ (fun x hx => Option.some.inj hx), fun h0 => SpJ.ext (s0 (by unfold More at h0; rwa [if_neg (by decide)] at h0)) he, fun h0 => SpJ.ext (s1 (more_ne h0 rfl)) he⟩)
    have HU := Lib.hid (show (upd V 3 (.int .u64 (lb n 2 : Nat))) 2 = .pointer (some ⟨g1, 2, none⟩) from e2)
    clear hK hC hW hL HV s0 s1
    rw [HFR.out]
    rw [e2]
    clear e2
    have qq := hB.cell 2 _ (wc_get n 2 (by decide))
    unfold lv at qq
    clear hB
    go_wp2_with fail
    show K _ _
    have := H.out _ (Ext.refl _)
    rw [HFR.out] at this
    obtain u2 := HU.out
    rw [u2] at this
    exact this
  · rintro L A W K hL hC hW ⟨V, rfl, HV, s0, s1⟩ hK
    have H := Lib.hid (show ∀ W', Ext W W' → K (fr (upd V 4 (.pointer (some ⟨g1, 3, none⟩)))) W' from fun W' he => hK _ _ ⟨upd V 4 (.pointer (some ⟨g1, 3, none⟩)), rfl, HV.up 4 _ (fun x hx => Option.some.inj hx), fun h0 => SpJ.ext (s0 (by unfold More at h0; rwa [if_neg (by decide)] at h0)) he, fun h0 => SpJ.ext (s1 (more_ne h0 rfl)) he⟩)
    clear hK hC hW hL HV s0 s1
    rw [HFR.out]
    go_wp2_with fail
    show K _ _
    have := H.out _ (Ext.refl _)
    rw [HFR.out] at this
    exact this
  · rintro L A W K hL hC hW ⟨V, rfl, HV, s0, s1⟩ hK
    have e4 : V 4 = .pointer (some ⟨g1, 3, none⟩) := HV 4 _ rfl (hW 4 rfl)
    have hB : Cs W g1 29 (wc n) := by
      cases h9 : L 9 with
      | false => exact (s0 h9).1
      | true => exact (s1 h9).1
    have H := Lib.hid (show ∀ W', Ext W W' → K (fr (upd V 5 (.int .u64 (lb n 3 : Nat)))) W' from fun W' he => hK _ _ ⟨upd V 5 (.int .u64 (lb n 3 : Nat)), rfl, HV.up 5 _ (fun x hx => Option.some.inj hx), fun h0 => SpJ.ext (s0 (by unfold More at h0; rwa [if_neg (by decide)] at h0)) he, fun h0 => SpJ.ext (s1 (more_ne h0 rfl)) he⟩)
    have HU := Lib.hid (show (upd V 5 (.int .u64 (lb n 3 : Nat))) 4 = .pointer (some ⟨g1, 3, none⟩) from e4)
    clear hK hC hW hL HV s0 s1
    rw [HFR.out]
    rw [e4]
    clear e4
    have qq := hB.cell 3 _ (wc_get n 3 (by decide))
    unfold lv at qq
    clear hB
    go_wp2_with fail
    show K _ _
    have := H.out _ (Ext.refl _)
    rw [HFR.out] at this
    obtain u4 := HU.out
    rw [u4] at this
    exact this
  · rintro L A W K hL hC hW ⟨V, rfl, HV, s0, s1⟩ hK
    have e1 : V 1 = .int .u64 (lb n 1 : Nat) := HV 1 _ rfl (hW 1 rfl)
    have e3 : V 3 = .int .u64 (lb n 2 : Nat) := HV 3 _ rfl (hW 3 rfl)
    have e5 : V 5 = .int .u64 (lb n 3 : Nat) := HV 5 _ rfl (hW 5 rfl)
    have H := Lib.hid (show ∀ W', Ext W W' → K (fr (upd V 6 (.agg #[.int .u64 (lb n 1 : Nat), .int .u64 (lb n 2 : Nat), .int .u64 (lb n 3 : Nat), .int .u64 0]))) W' from fun W' he => hK _ _ ⟨upd V 6 (.agg #[.int .u64 (lb n 1 : Nat), .int .u64 (lb n 2 : Nat), .int .u64 (lb n 3 : Nat), .int .u64 0]), rfl, HV.up 6 _ (fun x hx => Option.some.inj hx), fun h0 => SpJ.ext (s0 (by unfold More at h0; rwa [if_neg (by decide)] at h0)) he, fun h0 => SpJ.ext (s1 (more_ne h0 rfl)) he⟩)
    have HU := Lib.hid (show (upd V 6 (.agg #[.int .u64 (lb n 1 : Nat), .int .u64 (lb n 2 : Nat), .int .u64 (lb n 3 : Nat), .int .u64 0])) 1 = .int .u64 (lb n 1 : Nat) ∧ (upd V 6 (.agg #[.int .u64 (lb n 1 : Nat), .int .u64 (lb n 2 : Nat), .int .u64 (lb n 3 : Nat), .int .u64 0])) 3 = .int .u64 (lb n 2 : Nat) ∧ (upd V 6 (.agg #[.int .u64 (lb n 1 : Nat), .int .u64 (lb n 2 : Nat), .int .u64 (lb n 3 : Nat), .int .u64 0])) 5 = .int .u64 (lb n 3 : Nat) from ⟨e1, e3, e5⟩)
    clear hK hC hW hL HV s0 s1
    rw [HFR.out]
    rw [e1, e3, e5]
    clear e1 e3 e5
    go_wp2_with fail
    show K _ _
    have := H.out _ (Ext.refl _)
    rw [HFR.out] at this
    obtain ⟨u1, u3, u5⟩ := HU.out
    rw [u1, u3, u5] at this
    exact this
  · rintro L A W K hL hC hW ⟨V, rfl, HV, s0, s1⟩ hK
    have H := Lib.hid (show ∀ W', Ext W W' → K (fr (upd V 7 (.pointer (some ⟨g1, 0, none⟩)))) W' from fun W' he => hK _ _ ⟨upd V 7 (.pointer (some ⟨g1, 0, none⟩)), rfl, HV.up 7 _ (fun x hx => Option.some.inj hx), fun h0 => SpJ.ext (s0 (by unfold More at h0; rwa [if_neg (by decide)] at h0)) he, fun h0 => SpJ.ext (s1 (more_ne h0 rfl)) he⟩)
    clear hK hC hW hL HV s0 s1
    rw [HFR.out]
    go_wp2_with fail
    show K _ _
    have := H.out _ (Ext.refl _)
    rw [HFR.out] at this
    exact this
  · rintro L A W K hL hC hW ⟨V, rfl, HV, s0, s1⟩ hK
    have e7 : V 7 = .pointer (some ⟨g1, 0, none⟩) := HV 7 _ rfl (hW 7 rfl)
    have hB : Cs W g1 29 (wc n) := by
      cases h9 : L 9 with
      | false => exact (s0 h9).1
      | true => exact (s1 h9).1
    have H := Lib.hid (show ∀ W', Ext W W' → K (fr (upd V 8 (.int .u64 (lb n 0 : Nat)))) W' from fun W' he => hK _ _ ⟨upd V 8 (.int .u64 (lb n 0 : Nat)), rfl, HV.up 8 _ (fun x hx => Option.some.inj hx), fun h0 => SpJ.ext (s0 (by unfold More at h0; rwa [if_neg (by decide)] at h0)) he, fun h0 => SpJ.ext (s1 (more_ne h0 rfl)) he⟩)
    have HU := Lib.hid (show (upd V 8 (.int .u64 (lb n 0 : Nat))) 7 = .pointer (some ⟨g1, 0, none⟩) from e7)
    clear hK hC hW hL HV s0 s1
    rw [HFR.out]
    rw [e7]
    clear e7
    have qq := hB.cell 0 _ (wc_get n 0 (by decide))
    unfold lv at qq
    clear hB
    go_wp2_with fail
    show K _ _
    have := H.out _ (Ext.refl _)
    rw [HFR.out] at this
    obtain u7 := HU.out
    rw [u7] at this
    exact this
  · rintro L A W K hL hC hW ⟨V, rfl, HV, s0, s1⟩ hK
    have e6 : V 6 = .agg #[.int .u64 (lb n 1 : Nat), .int .u64 (lb n 2 : Nat), .int .u64 (lb n 3 : Nat), .int .u64 0] := HV 6 _ rfl (hW 6 rfl)
    have hB := s0 hL
    have H := Lib.hid (show ∀ W', (SpJ w g1 g2 n (keyN n) W') → K (fr (V)) W' from fun W' hA => hK _ _ ⟨V, rfl, HV.st 9 rfl, fun h0 => absurd h0 (by unfold More; rw [if_pos rfl]; simp), fun h0 => hA⟩)
    have HU := Lib.hid (show (V) 6 = .agg #[.int .u64 (lb n 1 : Nat), .int .u64 (lb n 2 : Nat), .int .u64 (lb n 3 : Nat), .int .u64 0] from e6)
    clear hK hC hW hL HV s0 s1
    rw [HFR.out]
    rw [e6]
    clear e6
    have HB' := Lib.hid hB
    clear hB
    refine wpList_store_word rfl rfl 29 (.tmp 2) (.tmp 10) rfl winfo g2 (wc 0) (keyN n) rfl (congrArg Value.agg HW.out) HB'.out.2.1 rfl ?_
    intro w' kk gg
    have HA := Lib.hid (show SpJ w g1 g2 n (keyN n) w' from ⟨Cs.kept HB'.out.1 gg (some_ne (by have := HG.out; omega)), kk, HB'.out.2.2.grown gg HG.out.2⟩)
    clear kk gg
    show K _ _
    have := H.out _ HA.out
    rw [HFR.out] at this
    obtain u6 := HU.out
    rw [u6] at this
    exact this
  · rintro L A W K hL hC hW ⟨V, rfl, HV, s0, s1⟩ hK
    have e8 : V 8 = .int .u64 (lb n 0 : Nat) := HV 8 _ rfl (hW 8 rfl)
    have H := Lib.hid (show ∀ W', Ext W W' → K (fr (upd V 10 (.int .u64 (lb n 0 : Nat)))) W' from fun W' he => hK _ _ ⟨upd V 10 (.int .u64 (lb n 0 : Nat)), rfl, HV.up 10 _ (fun x hx => Option.some.inj hx), fun h0 => SpJ.ext (s0 (by unfold More at h0; rwa [if_neg (by decide)] at h0)) he, fun h0 => SpJ.ext (s1 (more_ne h0 rfl)) he⟩)
    have HU := Lib.hid (show (upd V 10 (.int .u64 (lb n 0 : Nat))) 8 = .int .u64 (lb n 0 : Nat) from e8)
    clear hK hC hW hL HV s0 s1
    rw [HFR.out]
    rw [e8]
    clear e8
    go_wp2_with fail
    show K _ _
    have := H.out _ (Ext.refl _)
    rw [HFR.out] at this
    obtain u8 := HU.out
    rw [u8] at this
    exact this
  · rintro L A W hL ⟨V, rfl, HV, s0, s1⟩
    have e0 : V 0 = .pointer (some ⟨g1, 1, none⟩) := HV 0 _ rfl (hL 0 (by simp))
    have e1 : V 1 = .int .u64 (lb n 1 : Nat) := HV 1 _ rfl (hL 1 (by simp))
    have e2 : V 2 = .pointer (some ⟨g1, 2, none⟩) := HV 2 _ rfl (hL 2 (by simp))
    have e3 : V 3 = .int .u64 (lb n 2 : Nat) := HV 3 _ rfl (hL 3 (by simp))
    have e4 : V 4 = .pointer (some ⟨g1, 3, none⟩) := HV 4 _ rfl (hL 4 (by simp))
    have e5 : V 5 = .int .u64 (lb n 3 : Nat) := HV 5 _ rfl (hL 5 (by simp))
    have e6 : V 6 = .agg #[.int .u64 (lb n 1 : Nat), .int .u64 (lb n 2 : Nat), .int .u64 (lb n 3 : Nat), .int .u64 0] := HV 6 _ rfl (hL 6 (by simp))
    have e7 : V 7 = .pointer (some ⟨g1, 0, none⟩) := HV 7 _ rfl (hL 7 (by simp))
    have e8 : V 8 = .int .u64 (lb n 0 : Nat) := HV 8 _ rfl (hL 8 (by simp))
    have e10 : V 10 = .int .u64 (lb n 0 : Nat) := HV 10 _ rfl (hL 10 (by simp))
    have hA := s1 (hL 9 (by simp))
    rw [HFR.out]
    rw [e0, e1, e2, e3, e4, e5, e6, e7, e8, e10]
    clear hL HV HFR e0 e1 e2 e3 e4 e5 e6 e7 e8 e10 s0 s1
    have HAA := Lib.hid hA
    clear hA
    go_wp2_with fail
    refine bodyPost_ret (results_word_tmp Try.results28 _ _ g2 (keyN n) rfl HAA.out.2.1 Try.underlying29 winfo) rfl ?_
    exact ⟨rfl, HAA.out.2.2⟩
set_option maxRecDepth 100000 in
theorem Ws.len2 {W : World} {v : Value} {l : List Nat} (h : Ws W v l) : ∃ A c, v = .slice A l.length c ∧ l.length ≤ c ∧ c ≤ maxLen := by
  obtain ⟨A, c, e, h1, h2, _⟩ := h
  exact ⟨A, c, e, h1, h2⟩
set_option maxRecDepth 100000 in
theorem Ws.atN {W : World} {A : Option Addr} {n c : Nat} {l : List Nat} (h : Ws W (.slice A n c) l) (i : Nat) (hi : i < l.length) : ∃ b o, A = some ⟨b, o, none⟩ ∧ W.rangeAt b (o + i * 4) (wc (l.getD i 0)).toList ∧ l.getD i 0 < M256 := by
  obtain ⟨A', c', e, _, _, h3, h4⟩ := h
  injection e with e1 e2 e3
  subst e1
  obtain ⟨b, o, rfl, hc⟩ := h3 (by omega)
  refine ⟨b, o, rfl, fun j x hx => ?_, h4 i hi⟩
  have hj : j < 4 := by have := (List.getElem?_eq_some_iff.1 hx).1; simpa [wc] using this
  have := hc i hi j hj
  rw [this]
  rw [Array.getElem?_toList, wc_get _ _ hj] at hx
  exact hx
set_option maxRecDepth 100000 in
set_option maxHeartbeats 2000000 in
theorem equalN_any (v u : Value) (l m : List Nn) (w : World) (hs : Nns w v l) (ht : Nns w u m) : Calls Try.prog 51 #[v, u] w fun e w' => e = .returned (.bool (decide (l = m))) ∧ Ext w w' := by
  have HS := Lib.hid hs
  have HT := Lib.hid ht
  obtain ⟨A1, c1, rfl, h1, h2⟩ := hs.len
  obtain ⟨A2, c2, rfl, h3, h4⟩ := ht.len
  unfold maxLen at h2 h4
  clear hs ht
  go_enter Try.func51, Try.ntmps51
  by_cases hl : l.length = m.length
  case neg =>
    have HF : Hid (decide (l = m) = false) := Lib.hid (decide_eq_false (fun e => hl (by rw [e])))
    have e1 : ((l.length : Int) != (m.length : Int)) = true := by rw [bne_iff_ne]; omega
    have e2 : ((l.length : Int) == (m.length : Int)) = false := by rw [beq_eq_false_iff_ne]; omega
    clear hl
    go_wp2_with fail
    go_ret
    exact ⟨by rw [HF.out]; rfl, Ext.refl _⟩
  have e1 : ((l.length : Int) != (m.length : Int)) = false := by rw [bne_eq_false_iff_eq]; omega
  have e2 : ((l.length : Int) == (m.length : Int)) = true := by rw [beq_iff_eq]; omega
  have HL := Lib.hid hl
  clear hl
  go_wp2_with fail
  clear e1 e2
  go_loopw [13] (fun iv wr => ∃ k : Nat, k ≤ l.length ∧ iv = .int .i64 k ∧ Hid ((∀ i, i < k → l.getD i nz0 = m.getD i nz0) ∧ Ext w wr)) (fun iv _ => l.length - (intOf iv).toNat)
  case atStart => exact ⟨0, by omega, rfl, Lib.hid ⟨fun i hi => absurd hi (by omega), Ext.refl _⟩⟩
  case round =>
    obtain ⟨k, hk, rfl, HJ⟩ := hrel
    by_cases hlt : k < l.length
    · have hd : decide (k < l.length) = true := decide_eq_true hlt
      have hd2 : decide ((k : Int) < (l.length : Int)) = true := decide_eq_true (by omega)
      have hlm : k < m.length := by have := HL.out; omega
      have hd3 : decide (k < m.length) = true := decide_eq_true hlm
      have hd4 : decide ((k : Int) < (m.length : Int)) = true := decide_eq_true (by omega)
      obtain ⟨bb, oo, rfl, hrg, hp⟩ := (HS.out.ext HJ.out.2).at k hlt
      obtain ⟨b2, o2, rfl, hrg2, hp2⟩ := (HT.out.ext HJ.out.2).at k hlm
      have HR := Lib.hid hrg
      have HR2 := Lib.hid hrg2
      have HPP := Lib.hid hp
      have HPQ := Lib.hid hp2
      have HX := Lib.hid HJ.out.2
      have HNX := Lib.hid (show l.getD k nz0 = m.getD k nz0 → ∀ i, i < k + 1 → l.getD i nz0 = m.getD i nz0 from fun h i hi => by
        rcases Nat.lt_or_ge i k with h1 | h1
        · exact HJ.out.1 i h1
        · obtain rfl : i = k := by omega
          exact h)
      have HNO := Lib.hid (show l.getD k nz0 ≠ m.getD k nz0 → decide (l = m) = false from fun h => decide_eq_false (fun e => h (by rw [e])))
      clear hrg hp hrg2 hp2 HJ
      generalize l.getD k nz0 = p at *
      generalize m.getD k nz0 = q at *
      go_upto_region 6 with fail
      refine wp_named fun a0 ha0 => ?_
      obtain ⟨fr, hfr⟩ : ∃ fr : (Nat → Value) → Act, ∀ V, fr V = (((((((((a0.put (some 16) (V 0)).put (some 17) (V 1)).put (some 18) (V 2)).put (some 19) (V 3)).put (some 20) (V 4)).put (some 21) (V 5)).put (some 22) (V 6)).put (some 23) (V 7)).put (some 24) (V 8)) := ⟨fun V => (((((((((a0.put (some 16) (V 0)).put (some 17) (V 1)).put (some 18) (V 2)).put (some 19) (V 3)).put (some 20) (V 4)).put (some 21) (V 5)).put (some 22) (V 6)).put (some 23) (V 7)).put (some 24) (V 8)), fun _ => rfl⟩
      rw [ha0] at hfr
      simp only [Act.put, List.setIfInBounds_toArray, List.set_cons_zero, List.set_cons_succ] at hfr
      have HFR := Lib.hid hfr
      clear hfr
      refine wp_region_inv (by kernel_rfl) (by kernel_rfl) (fun L A W => ∃ V : Nat → Value, A = fr V ∧ Vals (fun j => ([some (.slice (some ⟨bb, oo, none⟩) l.length c1), some (.int .i64 (k : Nat)), some (.pointer (some ⟨bb, oo + k * 6, none⟩)), some (.agg (nnc p)), some (.slice (some ⟨b2, o2, none⟩) m.length c2), some (.int .i64 (k : Nat)), some (.pointer (some ⟨b2, o2 + k * 6, none⟩)), some (.agg (nnc q)), some (.bool (!p.eqB q))] : List (Option Value)).getD j none) L V ∧ (Ext wr W)) ?_ ⟨?_, ?_, ?_, ?_, ?_, ?_, ?_, ?_, ?_, trivial⟩ ?_
      · refine ⟨fun j => a0.tmps.getD (([16, 17, 18, 19, 20, 21, 22, 23, 24] : List Nat).getD j 0) undef, ?_, Vals.no _ _ _ (far_none _ _ rfl), (Ext.refl wr).drew⟩
        rw [HFR.out, ha0]
        rfl
      all_goals clear ha0
      · rintro L A W K hL hC hW ⟨V, rfl, HV, s0⟩ hK
        have H := Lib.hid (show ∀ W', Ext W W' → K (fr (upd V 0 (.slice (some ⟨bb, oo, none⟩) l.length c1))) W' from fun W' he => hK _ _ ⟨upd V 0 (.slice (some ⟨bb, oo, none⟩) l.length c1), rfl, HV.up 0 _ (fun x hx => Option.some.inj hx), Ext.trans s0 he⟩)
        clear hK hC hW hL HV s0
        rw [HFR.out]
        go_wp2_with fail
        show K _ _
        have := H.out _ (Ext.refl _)
        rw [HFR.out] at this
        exact this
      · rintro L A W K hL hC hW ⟨V, rfl, HV, s0⟩ hK
        have H := Lib.hid (show ∀ W', Ext W W' → K (fr (upd V 1 (.int .i64 (k : Nat)))) W' from fun W' he => hK _ _ ⟨upd V 1 (.int .i64 (k : Nat)), rfl, HV.up 1 _ (fun x hx => Option.some.inj hx), Ext.trans s0 he⟩)
        clear hK hC hW hL HV s0
        rw [HFR.out]
        go_wp2_with fail
        show K _ _
        have := H.out _ (Ext.refl _)
        rw [HFR.out] at this
        exact this
      · rintro L A W K hL hC hW ⟨V, rfl, HV, s0⟩ hK
        have e0 : V 0 = .slice (some ⟨bb, oo, none⟩) l.length c1 := HV 0 _ rfl (hW 0 rfl)
        have e1 : V 1 = .int .i64 (k : Nat) := HV 1 _ rfl (hW 1 rfl)
        have H := Lib.hid (show ∀ W', Ext W W' → K (fr (upd V 2 (.pointer (some ⟨bb, oo + k * 6, none⟩)))) W' from fun W' he => hK _ _ ⟨upd V 2 (.pointer (some ⟨bb, oo + k * 6, none⟩)), rfl, HV.up 2 _ (fun x hx => Option.some.inj hx), Ext.trans s0 he⟩)
        have HU := Lib.hid (show (upd V 2 (.pointer (some ⟨bb, oo + k * 6, none⟩))) 0 = .slice (some ⟨bb, oo, none⟩) l.length c1 ∧ (upd V 2 (.pointer (some ⟨bb, oo + k * 6, none⟩))) 1 = .int .i64 (k : Nat) from ⟨e0, e1⟩)
        clear hK hC hW hL HV s0
        rw [HFR.out]
        rw [e0, e1]
        clear e0 e1
        go_wp2_with fail
        show K _ _
        have := H.out _ (Ext.refl _)
        rw [HFR.out] at this
        obtain ⟨u0, u1⟩ := HU.out
        rw [u0, u1] at this
        exact this
      · rintro L A W K hL hC hW ⟨V, rfl, HV, s0⟩ hK
        have e2 : V 2 = .pointer (some ⟨bb, oo + k * 6, none⟩) := HV 2 _ rfl (hW 2 rfl)
        have hB := s0
        have H := Lib.hid (show ∀ W', Ext W W' → K (fr (upd V 3 (.agg (nnc p)))) W' from fun W' he => hK _ _ ⟨upd V 3 (.agg (nnc p)), rfl, HV.up 3 _ (fun x hx => Option.some.inj hx), Ext.trans s0 he⟩)
        have HU := Lib.hid (show (upd V 3 (.agg (nnc p))) 2 = .pointer (some ⟨bb, oo + k * 6, none⟩) from e2)
        clear hK hC hW hL HV s0
        rw [HFR.out]
        rw [e2]
        clear e2
        have HWW := Lib.hid (fun (y : Nat) (z : Value) (hz : (nnc p).toList[y]? = some z) => hB.cell (HR.out y z hz))
        clear hB
        refine wpList_load_nn rfl (.tmp 18) rfl bb (oo + k * 6) p rfl HWW.out ?_
        show K _ _
        have := H.out _ (Ext.refl _)
        rw [HFR.out] at this
        obtain u2 := HU.out
        rw [u2] at this
        exact this
      · rintro L A W K hL hC hW ⟨V, rfl, HV, s0⟩ hK
        have H := Lib.hid (show ∀ W', Ext W W' → K (fr (upd V 4 (.slice (some ⟨b2, o2, none⟩) m.length c2))) W' from fun W' he => hK _ _ ⟨upd V 4 (.slice (some ⟨b2, o2, none⟩) m.length c2), rfl, HV.up 4 _ (fun x hx => Option.some.inj hx), Ext.trans s0 he⟩)
        clear hK hC hW hL HV s0
        rw [HFR.out]
        go_wp2_with fail
        show K _ _
        have := H.out _ (Ext.refl _)
        rw [HFR.out] at this
        exact this
      · rintro L A W K hL hC hW ⟨V, rfl, HV, s0⟩ hK
        have H := Lib.hid (show ∀ W', Ext W W' → K (fr (upd V 5 (.int .i64 (k : Nat)))) W' from fun W' he => hK _ _ ⟨upd V 5 (.int .i64 (k : Nat)), rfl, HV.up 5 _ (fun x hx => Option.some.inj hx), Ext.trans s0 he⟩)
        clear hK hC hW hL HV s0
        rw [HFR.out]
        go_wp2_with fail
        show K _ _
        have := H.out _ (Ext.refl _)
        rw [HFR.out] at this
        exact this
      · rintro L A W K hL hC hW ⟨V, rfl, HV, s0⟩ hK
        have e4 : V 4 = .slice (some ⟨b2, o2, none⟩) m.length c2 := HV 4 _ rfl (hW 4 rfl)
        have e5 : V 5 = .int .i64 (k : Nat) := HV 5 _ rfl (hW 5 rfl)
        have H := Lib.hid (show ∀ W', Ext W W' → K (fr (upd V 6 (.pointer (some ⟨b2, o2 + k * 6, none⟩)))) W' from fun W' he => hK _ _ ⟨upd V 6 (.pointer (some ⟨b2, o2 + k * 6, none⟩)), rfl, HV.up 6 _ (fun x hx => Option.some.inj hx), Ext.trans s0 he⟩)
        have HU := Lib.hid (show (upd V 6 (.pointer (some ⟨b2, o2 + k * 6, none⟩))) 4 = .slice (some ⟨b2, o2, none⟩) m.length c2 ∧ (upd V 6 (.pointer (some ⟨b2, o2 + k * 6, none⟩))) 5 = .int .i64 (k : Nat) from ⟨e4, e5⟩)
        clear hK hC hW hL HV s0
        rw [HFR.out]
        rw [e4, e5]
        clear e4 e5
        go_wp2_with fail
        show K _ _
        have := H.out _ (Ext.refl _)
        rw [HFR.out] at this
        obtain ⟨u4, u5⟩ := HU.out
        rw [u4, u5] at this
        exact this
      · rintro L A W K hL hC hW ⟨V, rfl, HV, s0⟩ hK
        have e6 : V 6 = .pointer (some ⟨b2, o2 + k * 6, none⟩) := HV 6 _ rfl (hW 6 rfl)
        have hB := s0
        have H := Lib.hid (show ∀ W', Ext W W' → K (fr (upd V 7 (.agg (nnc q)))) W' from fun W' he => hK _ _ ⟨upd V 7 (.agg (nnc q)), rfl, HV.up 7 _ (fun x hx => Option.some.inj hx), Ext.trans s0 he⟩)
        have HU := Lib.hid (show (upd V 7 (.agg (nnc q))) 6 = .pointer (some ⟨b2, o2 + k * 6, none⟩) from e6)
        clear hK hC hW hL HV s0
        rw [HFR.out]
        rw [e6]
        clear e6
        have HWW := Lib.hid (fun (y : Nat) (z : Value) (hz : (nnc q).toList[y]? = some z) => hB.cell (HR2.out y z hz))
        clear hB
        refine wpList_load_nn rfl (.tmp 22) rfl b2 (o2 + k * 6) q rfl HWW.out ?_
        show K _ _
        have := H.out _ (Ext.refl _)
        rw [HFR.out] at this
        obtain u6 := HU.out
        rw [u6] at this
        exact this
      · rintro L A W K hL hC hW ⟨V, rfl, HV, s0⟩ hK
        have e3 : V 3 = .agg (nnc p) := HV 3 _ rfl (hW 3 rfl)
        have e7 : V 7 = .agg (nnc q) := HV 7 _ rfl (hW 7 rfl)
        have hB := s0
        have H := Lib.hid (show ∀ W', Ext W W' → K (fr (upd V 8 (.bool (!p.eqB q)))) W' from fun W' he => hK _ _ ⟨upd V 8 (.bool (!p.eqB q)), rfl, HV.up 8 _ (fun x hx => Option.some.inj hx), Ext.trans s0 he⟩)
        have HU := Lib.hid (show (upd V 8 (.bool (!p.eqB q))) 3 = .agg (nnc p) ∧ (upd V 8 (.bool (!p.eqB q))) 7 = .agg (nnc q) from ⟨e3, e7⟩)
        clear hK hC hW hL HV s0
        rw [HFR.out]
        rw [e3, e7]
        clear e3 e7
        clear hB
        refine wpList_neq_nn rfl (.tmp 19) (.tmp 23) rfl p q HPP.out HPQ.out rfl rfl ?_
        show K _ _
        have := H.out _ (Ext.refl _)
        rw [HFR.out] at this
        obtain ⟨u3, u7⟩ := HU.out
        rw [u3, u7] at this
        exact this
      · rintro L A W hL ⟨V, rfl, HV, s0⟩
        have e0 : V 0 = .slice (some ⟨bb, oo, none⟩) l.length c1 := HV 0 _ rfl (hL 0 (by simp))
        have e1 : V 1 = .int .i64 (k : Nat) := HV 1 _ rfl (hL 1 (by simp))
        have e2 : V 2 = .pointer (some ⟨bb, oo + k * 6, none⟩) := HV 2 _ rfl (hL 2 (by simp))
        have e3 : V 3 = .agg (nnc p) := HV 3 _ rfl (hL 3 (by simp))
        have e4 : V 4 = .slice (some ⟨b2, o2, none⟩) m.length c2 := HV 4 _ rfl (hL 4 (by simp))
        have e5 : V 5 = .int .i64 (k : Nat) := HV 5 _ rfl (hL 5 (by simp))
        have e6 : V 6 = .pointer (some ⟨b2, o2 + k * 6, none⟩) := HV 6 _ rfl (hL 6 (by simp))
        have e7 : V 7 = .agg (nnc q) := HV 7 _ rfl (hL 7 (by simp))
        have e8 : V 8 = .bool (!p.eqB q) := HV 8 _ rfl (hL 8 (by simp))
        have hA := s0
        rw [HFR.out]
        rw [e0, e1, e2, e3, e4, e5, e6, e7, e8]
        clear hL HV HFR e0 e1 e2 e3 e4 e5 e6 e7 e8 s0
        cases hb : (!p.eqB q) with
        | true =>
          have HF := Lib.hid (HNO.out (fun e => by rw [e] at hb; simp [Nn.eqB_self] at hb))
          clear hb
          go_wp2_with fail
          refine bodyPost_ret (results_tmp rfl _ _ _) rfl ?_
          exact ⟨by rw [HF.out]; rfl, HX.out.trans hA⟩
        | false =>
          have HN := Lib.hid (HNX.out (by rw [Bool.not_eq_false'] at hb; exact (Nn.eqB_iff p q).1 hb))
          clear hb
          go_wp2_with fail
          exact ⟨⟨k + 1, by omega, by go_num, Lib.hid ⟨HN.out, HX.out.trans hA⟩⟩, by simp [intOf]; omega⟩
    · obtain rfl : k = l.length := by omega
      have hd : decide (l.length < l.length) = false := decide_eq_false (by omega)
      have hd2 : decide ((l.length : Int) < (l.length : Int)) = false := decide_eq_false (by omega)
      have HF : Hid (decide (l = m) = true) := Lib.hid (decide_eq_true (by
        apply List.ext_getElem HL.out
        intro i hi hj
        have := HJ.out.1 i hi
        rwa [List.getD_eq_getElem?_getD, List.getD_eq_getElem?_getD, List.getElem?_eq_getElem hi, List.getElem?_eq_getElem hj] at this))
      go_wp2_with fail
      refine bodyPost_ret (results_tmp rfl _ _ _) rfl ?_
      exact ⟨by rw [HF.out]; rfl, HJ.out.2⟩
set_option maxRecDepth 100000 in
set_option maxHeartbeats 2000000 in
theorem refSameN_any (v u : Value) (l m : List Nn) (w : World) (hs : Nns w v l) (ht : Nns w u m) : Calls Try.prog 17 #[v, u] w fun e w' => e = .returned (.bool (decide (l = m))) ∧ Ext w w' := by
  have HS := Lib.hid hs
  have HT := Lib.hid ht
  obtain ⟨A1, c1, rfl, h1, h2⟩ := hs.len
  obtain ⟨A2, c2, rfl, h3, h4⟩ := ht.len
  unfold maxLen at h2 h4
  clear hs ht
  go_enter Try.func17, Try.ntmps17
  by_cases hl : l.length = m.length
  case neg =>
    have HF : Hid (decide (l = m) = false) := Lib.hid (decide_eq_false (fun e => hl (by rw [e])))
    have e1 : ((l.length : Int) != (m.length : Int)) = true := by rw [bne_iff_ne]; omega
    have e2 : ((l.length : Int) == (m.length : Int)) = false := by rw [beq_eq_false_iff_ne]; omega
    clear hl
    go_wp2_with fail
    go_ret
    exact ⟨by rw [HF.out]; rfl, Ext.refl _⟩
  have e1 : ((l.length : Int) != (m.length : Int)) = false := by rw [bne_eq_false_iff_eq]; omega
  have e2 : ((l.length : Int) == (m.length : Int)) = true := by rw [beq_iff_eq]; omega
  have HL := Lib.hid hl
  clear hl
  go_wp2_with fail
  clear e1 e2
  go_loopw [13] (fun iv wr => ∃ k : Nat, k ≤ l.length ∧ iv = .int .i64 k ∧ Hid ((∀ i, i < k → l.getD i nz0 = m.getD i nz0) ∧ Ext w wr)) (fun iv _ => l.length - (intOf iv).toNat)
  case atStart => exact ⟨0, by omega, rfl, Lib.hid ⟨fun i hi => absurd hi (by omega), Ext.refl _⟩⟩
  case round =>
    obtain ⟨k, hk, rfl, HJ⟩ := hrel
    by_cases hlt : k < l.length
    · have hd : decide (k < l.length) = true := decide_eq_true hlt
      have hd2 : decide ((k : Int) < (l.length : Int)) = true := decide_eq_true (by omega)
      have hlm : k < m.length := by have := HL.out; omega
      have hd3 : decide (k < m.length) = true := decide_eq_true hlm
      have hd4 : decide ((k : Int) < (m.length : Int)) = true := decide_eq_true (by omega)
      obtain ⟨bb, oo, rfl, hrg, hp⟩ := (HS.out.ext HJ.out.2).at k hlt
      obtain ⟨b2, o2, rfl, hrg2, hp2⟩ := (HT.out.ext HJ.out.2).at k hlm
      have HR := Lib.hid hrg
      have HR2 := Lib.hid hrg2
      have HPP := Lib.hid hp
      have HPQ := Lib.hid hp2
      have HX := Lib.hid HJ.out.2
      have HNX := Lib.hid (show l.getD k nz0 = m.getD k nz0 → ∀ i, i < k + 1 → l.getD i nz0 = m.getD i nz0 from fun h i hi => by
        rcases Nat.lt_or_ge i k with h1 | h1
        · exact HJ.out.1 i h1
        · obtain rfl : i = k := by omega
          exact h)
      have HNO := Lib.hid (show l.getD k nz0 ≠ m.getD k nz0 → decide (l = m) = false from fun h => decide_eq_false (fun e => h (by rw [e])))
      clear hrg hp hrg2 hp2 HJ
      generalize l.getD k nz0 = p at *
      generalize m.getD k nz0 = q at *
      go_upto_region 6 with fail
      refine wp_named fun a0 ha0 => ?_
      obtain ⟨fr, hfr⟩ : ∃ fr : (Nat → Value) → Act, ∀ V, fr V = (((((((((a0.put (some 16) (V 0)).put (some 17) (V 1)).put (some 18) (V 2)).put (some 19) (V 3)).put (some 20) (V 4)).put (some 21) (V 5)).put (some 22) (V 6)).put (some 23) (V 7)).put (some 24) (V 8)) := ⟨fun V => (((((((((a0.put (some 16) (V 0)).put (some 17) (V 1)).put (some 18) (V 2)).put (some 19) (V 3)).put (some 20) (V 4)).put (some 21) (V 5)).put (some 22) (V 6)).put (some 23) (V 7)).put (some 24) (V 8)), fun _ => rfl⟩
      rw [ha0] at hfr
      simp only [Act.put, List.setIfInBounds_toArray, List.set_cons_zero, List.set_cons_succ] at hfr
      have HFR := Lib.hid hfr
      clear hfr
      refine wp_region_inv (by kernel_rfl) (by kernel_rfl) (fun L A W => ∃ V : Nat → Value, A = fr V ∧ Vals (fun j => ([some (.slice (some ⟨bb, oo, none⟩) l.length c1), some (.int .i64 (k : Nat)), some (.pointer (some ⟨bb, oo + k * 6, none⟩)), some (.agg (nnc p)), some (.slice (some ⟨b2, o2, none⟩) m.length c2), some (.int .i64 (k : Nat)), some (.pointer (some ⟨b2, o2 + k * 6, none⟩)), some (.agg (nnc q)), some (.bool (!p.eqB q))] : List (Option Value)).getD j none) L V ∧ (Ext wr W)) ?_ ⟨?_, ?_, ?_, ?_, ?_, ?_, ?_, ?_, ?_, trivial⟩ ?_
      · refine ⟨fun j => a0.tmps.getD (([16, 17, 18, 19, 20, 21, 22, 23, 24] : List Nat).getD j 0) undef, ?_, Vals.no _ _ _ (far_none _ _ rfl), (Ext.refl wr).drew⟩
        rw [HFR.out, ha0]
        rfl
      all_goals clear ha0
      · rintro L A W K hL hC hW ⟨V, rfl, HV, s0⟩ hK
        have H := Lib.hid (show ∀ W', Ext W W' → K (fr (upd V 0 (.slice (some ⟨bb, oo, none⟩) l.length c1))) W' from fun W' he => hK _ _ ⟨upd V 0 (.slice (some ⟨bb, oo, none⟩) l.length c1), rfl, HV.up 0 _ (fun x hx => Option.some.inj hx), Ext.trans s0 he⟩)
        clear hK hC hW hL HV s0
        rw [HFR.out]
        go_wp2_with fail
        show K _ _
        have := H.out _ (Ext.refl _)
        rw [HFR.out] at this
        exact this
      · rintro L A W K hL hC hW ⟨V, rfl, HV, s0⟩ hK
        have H := Lib.hid (show ∀ W', Ext W W' → K (fr (upd V 1 (.int .i64 (k : Nat)))) W' from fun W' he => hK _ _ ⟨upd V 1 (.int .i64 (k : Nat)), rfl, HV.up 1 _ (fun x hx => Option.some.inj hx), Ext.trans s0 he⟩)
        clear hK hC hW hL HV s0
        rw [HFR.out]
        go_wp2_with fail
        show K _ _
        have := H.out _ (Ext.refl _)
        rw [HFR.out] at this
        exact this
      · rintro L A W K hL hC hW ⟨V, rfl, HV, s0⟩ hK
        have e0 : V 0 = .slice (some ⟨bb, oo, none⟩) l.length c1 := HV 0 _ rfl (hW 0 rfl)
        have e1 : V 1 = .int .i64 (k : Nat) := HV 1 _ rfl (hW 1 rfl)
        have H := Lib.hid (show ∀ W', Ext W W' → K (fr (upd V 2 (.pointer (some ⟨bb, oo + k * 6, none⟩)))) W' from fun W' he => hK _ _ ⟨upd V 2 (.pointer (some ⟨bb, oo + k * 6, none⟩)), rfl, HV.up 2 _ (fun x hx => Option.some.inj hx), Ext.trans s0 he⟩)
        have HU := Lib.hid (show (upd V 2 (.pointer (some ⟨bb, oo + k * 6, none⟩))) 0 = .slice (some ⟨bb, oo, none⟩) l.length c1 ∧ (upd V 2 (.pointer (some ⟨bb, oo + k * 6, none⟩))) 1 = .int .i64 (k : Nat) from ⟨e0, e1⟩)
        clear hK hC hW hL HV s0
        rw [HFR.out]
        rw [e0, e1]
        clear e0 e1
        go_wp2_with fail
        show K _ _
        have := H.out _ (Ext.refl _)
        rw [HFR.out] at this
        obtain ⟨u0, u1⟩ := HU.out
        rw [u0, u1] at this
        exact this
      · rintro L A W K hL hC hW ⟨V, rfl, HV, s0⟩ hK
        have e2 : V 2 = .pointer (some ⟨bb, oo + k * 6, none⟩) := HV 2 _ rfl (hW 2 rfl)
        have hB := s0
        have H := Lib.hid (show ∀ W', Ext W W' → K (fr (upd V 3 (.agg (nnc p)))) W' from fun W' he => hK _ _ ⟨upd V 3 (.agg (nnc p)), rfl, HV.up 3 _ (fun x hx => Option.some.inj hx), Ext.trans s0 he⟩)
        have HU := Lib.hid (show (upd V 3 (.agg (nnc p))) 2 = .pointer (some ⟨bb, oo + k * 6, none⟩) from e2)
        clear hK hC hW hL HV s0
        rw [HFR.out]
        rw [e2]
        clear e2
        have HWW := Lib.hid (fun (y : Nat) (z : Value) (hz : (nnc p).toList[y]? = some z) => hB.cell (HR.out y z hz))
        clear hB
        refine wpList_load_nn rfl (.tmp 18) rfl bb (oo + k * 6) p rfl HWW.out ?_
        show K _ _
        have := H.out _ (Ext.refl _)
        rw [HFR.out] at this
        obtain u2 := HU.out
        rw [u2] at this
        exact this
      · rintro L A W K hL hC hW ⟨V, rfl, HV, s0⟩ hK
        have H := Lib.hid (show ∀ W', Ext W W' → K (fr (upd V 4 (.slice (some ⟨b2, o2, none⟩) m.length c2))) W' from fun W' he => hK _ _ ⟨upd V 4 (.slice (some ⟨b2, o2, none⟩) m.length c2), rfl, HV.up 4 _ (fun x hx => Option.some.inj hx), Ext.trans s0 he⟩)
        clear hK hC hW hL HV s0
        rw [HFR.out]
        go_wp2_with fail
        show K _ _
        have := H.out _ (Ext.refl _)
        rw [HFR.out] at this
        exact this
      · rintro L A W K hL hC hW ⟨V, rfl, HV, s0⟩ hK
        have H := Lib.hid (show ∀ W', Ext W W' → K (fr (upd V 5 (.int .i64 (k : Nat)))) W' from fun W' he => hK _ _ ⟨upd V 5 (.int .i64 (k : Nat)), rfl, HV.up 5 _ (fun x hx => Option.some.inj hx), Ext.trans s0 he⟩)
        clear hK hC hW hL HV s0
        rw [HFR.out]
        go_wp2_with fail
        show K _ _
        have := H.out _ (Ext.refl _)
        rw [HFR.out] at this
        exact this
      · rintro L A W K hL hC hW ⟨V, rfl, HV, s0⟩ hK
        have e4 : V 4 = .slice (some ⟨b2, o2, none⟩) m.length c2 := HV 4 _ rfl (hW 4 rfl)
        have e5 : V 5 = .int .i64 (k : Nat) := HV 5 _ rfl (hW 5 rfl)
        have H := Lib.hid (show ∀ W', Ext W W' → K (fr (upd V 6 (.pointer (some ⟨b2, o2 + k * 6, none⟩)))) W' from fun W' he => hK _ _ ⟨upd V 6 (.pointer (some ⟨b2, o2 + k * 6, none⟩)), rfl, HV.up 6 _ (fun x hx => Option.some.inj hx), Ext.trans s0 he⟩)
        have HU := Lib.hid (show (upd V 6 (.pointer (some ⟨b2, o2 + k * 6, none⟩))) 4 = .slice (some ⟨b2, o2, none⟩) m.length c2 ∧ (upd V 6 (.pointer (some ⟨b2, o2 + k * 6, none⟩))) 5 = .int .i64 (k : Nat) from ⟨e4, e5⟩)
        clear hK hC hW hL HV s0
        rw [HFR.out]
        rw [e4, e5]
        clear e4 e5
        go_wp2_with fail
        show K _ _
        have := H.out _ (Ext.refl _)
        rw [HFR.out] at this
        obtain ⟨u4, u5⟩ := HU.out
        rw [u4, u5] at this
        exact this
      · rintro L A W K hL hC hW ⟨V, rfl, HV, s0⟩ hK
        have e6 : V 6 = .pointer (some ⟨b2, o2 + k * 6, none⟩) := HV 6 _ rfl (hW 6 rfl)
        have hB := s0
        have H := Lib.hid (show ∀ W', Ext W W' → K (fr (upd V 7 (.agg (nnc q)))) W' from fun W' he => hK _ _ ⟨upd V 7 (.agg (nnc q)), rfl, HV.up 7 _ (fun x hx => Option.some.inj hx), Ext.trans s0 he⟩)
        have HU := Lib.hid (show (upd V 7 (.agg (nnc q))) 6 = .pointer (some ⟨b2, o2 + k * 6, none⟩) from e6)
        clear hK hC hW hL HV s0
        rw [HFR.out]
        rw [e6]
        clear e6
        have HWW := Lib.hid (fun (y : Nat) (z : Value) (hz : (nnc q).toList[y]? = some z) => hB.cell (HR2.out y z hz))
        clear hB
        refine wpList_load_nn rfl (.tmp 22) rfl b2 (o2 + k * 6) q rfl HWW.out ?_
        show K _ _
        have := H.out _ (Ext.refl _)
        rw [HFR.out] at this
        obtain u6 := HU.out
        rw [u6] at this
        exact this
      · rintro L A W K hL hC hW ⟨V, rfl, HV, s0⟩ hK
        have e3 : V 3 = .agg (nnc p) := HV 3 _ rfl (hW 3 rfl)
        have e7 : V 7 = .agg (nnc q) := HV 7 _ rfl (hW 7 rfl)
        have hB := s0
        have H := Lib.hid (show ∀ W', Ext W W' → K (fr (upd V 8 (.bool (!p.eqB q)))) W' from fun W' he => hK _ _ ⟨upd V 8 (.bool (!p.eqB q)), rfl, HV.up 8 _ (fun x hx => Option.some.inj hx), Ext.trans s0 he⟩)
        have HU := Lib.hid (show (upd V 8 (.bool (!p.eqB q))) 3 = .agg (nnc p) ∧ (upd V 8 (.bool (!p.eqB q))) 7 = .agg (nnc q) from ⟨e3, e7⟩)
        clear hK hC hW hL HV s0
        rw [HFR.out]
        rw [e3, e7]
        clear e3 e7
        clear hB
        refine wpList_neq_nn rfl (.tmp 19) (.tmp 23) rfl p q HPP.out HPQ.out rfl rfl ?_
        show K _ _
        have := H.out _ (Ext.refl _)
        rw [HFR.out] at this
        obtain ⟨u3, u7⟩ := HU.out
        rw [u3, u7] at this
        exact this
      · rintro L A W hL ⟨V, rfl, HV, s0⟩
        have e0 : V 0 = .slice (some ⟨bb, oo, none⟩) l.length c1 := HV 0 _ rfl (hL 0 (by simp))
        have e1 : V 1 = .int .i64 (k : Nat) := HV 1 _ rfl (hL 1 (by simp))
        have e2 : V 2 = .pointer (some ⟨bb, oo + k * 6, none⟩) := HV 2 _ rfl (hL 2 (by simp))
        have e3 : V 3 = .agg (nnc p) := HV 3 _ rfl (hL 3 (by simp))
        have e4 : V 4 = .slice (some ⟨b2, o2, none⟩) m.length c2 := HV 4 _ rfl (hL 4 (by simp))
        have e5 : V 5 = .int .i64 (k : Nat) := HV 5 _ rfl (hL 5 (by simp))
        have e6 : V 6 = .pointer (some ⟨b2, o2 + k * 6, none⟩) := HV 6 _ rfl (hL 6 (by simp))
        have e7 : V 7 = .agg (nnc q) := HV 7 _ rfl (hL 7 (by simp))
        have e8 : V 8 = .bool (!p.eqB q) := HV 8 _ rfl (hL 8 (by simp))
        have hA := s0
        rw [HFR.out]
        rw [e0, e1, e2, e3, e4, e5, e6, e7, e8]
        clear hL HV HFR e0 e1 e2 e3 e4 e5 e6 e7 e8 s0
        cases hb : (!p.eqB q) with
        | true =>
          have HF := Lib.hid (HNO.out (fun e => by rw [e] at hb; simp [Nn.eqB_self] at hb))
          clear hb
          go_wp2_with fail
          refine bodyPost_ret (results_tmp rfl _ _ _) rfl ?_
          exact ⟨by rw [HF.out]; rfl, HX.out.trans hA⟩
        | false =>
          have HN := Lib.hid (HNX.out (by rw [Bool.not_eq_false'] at hb; exact (Nn.eqB_iff p q).1 hb))
          clear hb
          go_wp2_with fail
          exact ⟨⟨k + 1, by omega, by go_num, Lib.hid ⟨HN.out, HX.out.trans hA⟩⟩, by simp [intOf]; omega⟩
    · obtain rfl : k = l.length := by omega
      have hd : decide (l.length < l.length) = false := decide_eq_false (by omega)
      have hd2 : decide ((l.length : Int) < (l.length : Int)) = false := decide_eq_false (by omega)
      have HF : Hid (decide (l = m) = true) := Lib.hid (decide_eq_true (by
        apply List.ext_getElem HL.out
        intro i hi hj
        have := HJ.out.1 i hi
        rwa [List.getD_eq_getElem?_getD, List.getD_eq_getElem?_getD, List.getElem?_eq_getElem hi, List.getElem?_eq_getElem hj] at this))
      go_wp2_with fail
      refine bodyPost_ret (results_tmp rfl _ _ _) rfl ?_
      exact ⟨by rw [HF.out]; rfl, HJ.out.2⟩
set_option maxRecDepth 100000 in
set_option maxHeartbeats 2000000 in
theorem equalW_any (v u : Value) (l m : List Nat) (w : World) (hs : Ws w v l) (ht : Ws w u m) : Calls Try.prog 21 #[v, u] w fun e w' => e = .returned (.bool (decide (l = m))) ∧ Ext w w' := by
  have HS := Lib.hid hs
  have HT := Lib.hid ht
  obtain ⟨A1, c1, rfl, h1, h2⟩ := hs.len2
  obtain ⟨A2, c2, rfl, h3, h4⟩ := ht.len2
  unfold maxLen at h2 h4
  clear hs ht
  go_enter Try.func21, Try.ntmps21
  by_cases hl : l.length = m.length
  case neg =>
    have HF : Hid (decide (l = m) = false) := Lib.hid (decide_eq_false (fun e => hl (by rw [e])))
    have e1 : ((l.length : Int) != (m.length : Int)) = true := by rw [bne_iff_ne]; omega
    have e2 : ((l.length : Int) == (m.length : Int)) = false := by rw [beq_eq_false_iff_ne]; omega
    clear hl
    go_wp2_with fail
    go_ret
    exact ⟨by rw [HF.out]; rfl, Ext.refl _⟩
  have e1 : ((l.length : Int) != (m.length : Int)) = false := by rw [bne_eq_false_iff_eq]; omega
  have e2 : ((l.length : Int) == (m.length : Int)) = true := by rw [beq_iff_eq]; omega
  have HL := Lib.hid hl
  clear hl
  go_wp2_with fail
  clear e1 e2
  go_loopw [13] (fun iv wr => ∃ k : Nat, k ≤ l.length ∧ iv = .int .i64 k ∧ Hid ((∀ i, i < k → l.getD i 0 = m.getD i 0) ∧ Ext w wr)) (fun iv _ => l.length - (intOf iv).toNat)
  case atStart => exact ⟨0, by omega, rfl, Lib.hid ⟨fun i hi => absurd hi (by omega), Ext.refl _⟩⟩
  case round =>
    obtain ⟨k, hk, rfl, HJ⟩ := hrel
    by_cases hlt : k < l.length
    · have hd : decide (k < l.length) = true := decide_eq_true hlt
      have hd2 : decide ((k : Int) < (l.length : Int)) = true := decide_eq_true (by omega)
      have hlm : k < m.length := by have := HL.out; omega
      have hd3 : decide (k < m.length) = true := decide_eq_true hlm
      have hd4 : decide ((k : Int) < (m.length : Int)) = true := decide_eq_true (by omega)
      obtain ⟨bb, oo, rfl, hrg, hp⟩ := (HS.out.ext HJ.out.2).atN k hlt
      obtain ⟨b2, o2, rfl, hrg2, hp2⟩ := (HT.out.ext HJ.out.2).atN k hlm
      have HR := Lib.hid hrg
      have HR2 := Lib.hid hrg2
      have HPP := Lib.hid hp
      have HPQ := Lib.hid hp2
      have HX := Lib.hid HJ.out.2
      have HNX := Lib.hid (show l.getD k 0 = m.getD k 0 → ∀ i, i < k + 1 → l.getD i 0 = m.getD i 0 from fun h i hi => by
        rcases Nat.lt_or_ge i k with h1 | h1
        · exact HJ.out.1 i h1
        · obtain rfl : i = k := by omega
          exact h)
      have HNO := Lib.hid (show l.getD k 0 ≠ m.getD k 0 → decide (l = m) = false from fun h => decide_eq_false (fun e => h (by rw [e])))
      clear hrg hp hrg2 hp2 HJ
      generalize l.getD k 0 = p at *
      generalize m.getD k 0 = q at *
      go_upto_region 6 with fail
      refine wp_named fun a0 ha0 => ?_
      obtain ⟨fr, hfr⟩ : ∃ fr : (Nat → Value) → Act, ∀ V, fr V = (((((((((a0.put (some 16) (V 0)).put (some 17) (V 1)).put (some 18) (V 2)).put (some 19) (V 3)).put (some 20) (V 4)).put (some 21) (V 5)).put (some 22) (V 6)).put (some 23) (V 7)).put (some 24) (V 8)) := ⟨fun V => (((((((((a0.put (some 16) (V 0)).put (some 17) (V 1)).put (some 18) (V 2)).put (some 19) (V 3)).put (some 20) (V 4)).put (some 21) (V 5)).put (some 22) (V 6)).put (some 23) (V 7)).put (some 24) (V 8)), fun _ => rfl⟩
      rw [ha0] at hfr
      simp only [Act.put, List.setIfInBounds_toArray, List.set_cons_zero, List.set_cons_succ] at hfr
      have HFR := Lib.hid hfr
      clear hfr
      refine wp_region_inv (by kernel_rfl) (by kernel_rfl) (fun L A W => ∃ V : Nat → Value, A = fr V ∧ Vals (fun j => ([some (.slice (some ⟨bb, oo, none⟩) l.length c1), some (.int .i64 (k : Nat)), some (.pointer (some ⟨bb, oo + k * 4, none⟩)), some (wv p), some (.slice (some ⟨b2, o2, none⟩) m.length c2), some (.int .i64 (k : Nat)), some (.pointer (some ⟨b2, o2 + k * 4, none⟩)), some (wv q), some (.bool (p != q))] : List (Option Value)).getD j none) L V ∧ (Ext wr W)) ?_ ⟨?_, ?_, ?_, ?_, ?_, ?_, ?_, ?_, ?_, trivial⟩ ?_
      · refine ⟨fun j => a0.tmps.getD (([16, 17, 18, 19, 20, 21, 22, 23, 24] : List Nat).getD j 0) undef, ?_, Vals.no _ _ _ (far_none _ _ rfl), (Ext.refl wr).drew⟩
        rw [HFR.out, ha0]
        rfl
      all_goals clear ha0
      · rintro L A W K hL hC hW ⟨V, rfl, HV, s0⟩ hK
        have H := Lib.hid (show ∀ W', Ext W W' → K (fr (upd V 0 (.slice (some ⟨bb, oo, none⟩) l.length c1))) W' from fun W' he => hK _ _ ⟨upd V 0 (.slice (some ⟨bb, oo, none⟩) l.length c1), rfl, HV.up 0 _ (fun x hx => Option.some.inj hx), Ext.trans s0 he⟩)
        clear hK hC hW hL HV s0
        rw [HFR.out]
        go_wp2_with fail
        show K _ _
        have := H.out _ (Ext.refl _)
        rw [HFR.out] at this
        exact this
      · rintro L A W K hL hC hW ⟨V, rfl, HV, s0⟩ hK
        have H := Lib.hid (show ∀ W', Ext W W' → K (fr (upd V 1 (.int .i64 (k : Nat)))) W' from fun W' he => hK _ _ ⟨upd V 1 (.int .i64 (k : Nat)), rfl, HV.up 1 _ (fun x hx => Option.some.inj hx), Ext.trans s0 he⟩)
        clear hK hC hW hL HV s0
        rw [HFR.out]
        go_wp2_with fail
        show K _ _
        have := H.out _ (Ext.refl _)
        rw [HFR.out] at this
        exact this
      · rintro L A W K hL hC hW ⟨V, rfl, HV, s0⟩ hK
        have e0 : V 0 = .slice (some ⟨bb, oo, none⟩) l.length c1 := HV 0 _ rfl (hW 0 rfl)
        have e1 : V 1 = .int .i64 (k : Nat) := HV 1 _ rfl (hW 1 rfl)
        have H := Lib.hid (show ∀ W', Ext W W' → K (fr (upd V 2 (.pointer (some ⟨bb, oo + k * 4, none⟩)))) W' from fun W' he => hK _ _ ⟨upd V 2 (.pointer (some ⟨bb, oo + k * 4, none⟩)), rfl, HV.up 2 _ (fun x hx => Option.some.inj hx), Ext.trans s0 he⟩)
        have HU := Lib.hid (show (upd V 2 (.pointer (some ⟨bb, oo + k * 4, none⟩))) 0 = .slice (some ⟨bb, oo, none⟩) l.length c1 ∧ (upd V 2 (.pointer (some ⟨bb, oo + k * 4, none⟩))) 1 = .int .i64 (k : Nat) from ⟨e0, e1⟩)
        clear hK hC hW hL HV s0
        rw [HFR.out]
        rw [e0, e1]
        clear e0 e1
        go_wp2_with fail
        show K _ _
        have := H.out _ (Ext.refl _)
        rw [HFR.out] at this
        obtain ⟨u0, u1⟩ := HU.out
        rw [u0, u1] at this
        exact this
      · rintro L A W K hL hC hW ⟨V, rfl, HV, s0⟩ hK
        have e2 : V 2 = .pointer (some ⟨bb, oo + k * 4, none⟩) := HV 2 _ rfl (hW 2 rfl)
        have hB := s0
        have H := Lib.hid (show ∀ W', Ext W W' → K (fr (upd V 3 (wv p))) W' from fun W' he => hK _ _ ⟨upd V 3 (wv p), rfl, HV.up 3 _ (fun x hx => Option.some.inj hx), Ext.trans s0 he⟩)
        have HU := Lib.hid (show (upd V 3 (wv p)) 2 = .pointer (some ⟨bb, oo + k * 4, none⟩) from e2)
        clear hK hC hW hL HV s0
        rw [HFR.out]
        rw [e2]
        clear e2
        have HWW := Lib.hid (fun (y : Nat) (z : Value) (hz : (wc p).toList[y]? = some z) => hB.cell (HR.out y z hz))
        clear hB
        refine wpList_load_wordIn rfl (.tmp 18) rfl bb (oo + k * 4) p rfl HWW.out ?_
        show K _ _
        have := H.out _ (Ext.refl _)
        rw [HFR.out] at this
        obtain u2 := HU.out
        rw [u2] at this
        exact this
      · rintro L A W K hL hC hW ⟨V, rfl, HV, s0⟩ hK
        have H := Lib.hid (show ∀ W', Ext W W' → K (fr (upd V 4 (.slice (some ⟨b2, o2, none⟩) m.length c2))) W' from fun W' he => hK _ _ ⟨upd V 4 (.slice (some ⟨b2, o2, none⟩) m.length c2), rfl, HV.up 4 _ (fun x hx => Option.some.inj hx), Ext.trans s0 he⟩)
        clear hK hC hW hL HV s0
        rw [HFR.out]
        go_wp2_with fail
        show K _ _
        have := H.out _ (Ext.refl _)
        rw [HFR.out] at this
        exact this
      · rintro L A W K hL hC hW ⟨V, rfl, HV, s0⟩ hK
        have H := Lib.hid (show ∀ W', Ext W W' → K (fr (upd V 5 (.int .i64 (k : Nat)))) W' from fun W' he => hK _ _ ⟨upd V 5 (.int .i64 (k : Nat)), rfl, HV.up 5 _ (fun x hx => Option.some.inj hx), Ext.trans s0 he⟩)
        clear hK hC hW hL HV s0
        rw [HFR.out]
        go_wp2_with fail
        show K _ _
        have := H.out _ (Ext.refl _)
        rw [HFR.out] at this
        exact this
      · rintro L A W K hL hC hW ⟨V, rfl, HV, s0⟩ hK
        have e4 : V 4 = .slice (some ⟨b2, o2, none⟩) m.length c2 := HV 4 _ rfl (hW 4 rfl)
        have e5 : V 5 = .int .i64 (k : Nat) := HV 5 _ rfl (hW 5 rfl)
        have H := Lib.hid (show ∀ W', Ext W W' → K (fr (upd V 6 (.pointer (some ⟨b2, o2 + k * 4, none⟩)))) W' from fun W' he => hK _ _ ⟨upd V 6 (.pointer (some ⟨b2, o2 + k * 4, none⟩)), rfl, HV.up 6 _ (fun x hx => Option.some.inj hx), Ext.trans s0 he⟩)
        have HU := Lib.hid (show (upd V 6 (.pointer (some ⟨b2, o2 + k * 4, none⟩))) 4 = .slice (some ⟨b2, o2, none⟩) m.length c2 ∧ (upd V 6 (.pointer (some ⟨b2, o2 + k * 4, none⟩))) 5 = .int .i64 (k : Nat) from ⟨e4, e5⟩)
        clear hK hC hW hL HV s0
        rw [HFR.out]
        rw [e4, e5]
        clear e4 e5
        go_wp2_with fail
        show K _ _
        have := H.out _ (Ext.refl _)
        rw [HFR.out] at this
        obtain ⟨u4, u5⟩ := HU.out
        rw [u4, u5] at this
        exact this
      · rintro L A W K hL hC hW ⟨V, rfl, HV, s0⟩ hK
        have e6 : V 6 = .pointer (some ⟨b2, o2 + k * 4, none⟩) := HV 6 _ rfl (hW 6 rfl)
        have hB := s0
        have H := Lib.hid (show ∀ W', Ext W W' → K (fr (upd V 7 (wv q))) W' from fun W' he => hK _ _ ⟨upd V 7 (wv q), rfl, HV.up 7 _ (fun x hx => Option.some.inj hx), Ext.trans s0 he⟩)
        have HU := Lib.hid (show (upd V 7 (wv q)) 6 = .pointer (some ⟨b2, o2 + k * 4, none⟩) from e6)
        clear hK hC hW hL HV s0
        rw [HFR.out]
        rw [e6]
        clear e6
        have HWW := Lib.hid (fun (y : Nat) (z : Value) (hz : (wc q).toList[y]? = some z) => hB.cell (HR2.out y z hz))
        clear hB
        refine wpList_load_wordIn rfl (.tmp 22) rfl b2 (o2 + k * 4) q rfl HWW.out ?_
        show K _ _
        have := H.out _ (Ext.refl _)
        rw [HFR.out] at this
        obtain u6 := HU.out
        rw [u6] at this
        exact this
      · rintro L A W K hL hC hW ⟨V, rfl, HV, s0⟩ hK
        have e3 : V 3 = wv p := HV 3 _ rfl (hW 3 rfl)
        have e7 : V 7 = wv q := HV 7 _ rfl (hW 7 rfl)
        have hB := s0
        have H := Lib.hid (show ∀ W', Ext W W' → K (fr (upd V 8 (.bool (p != q)))) W' from fun W' he => hK _ _ ⟨upd V 8 (.bool (p != q)), rfl, HV.up 8 _ (fun x hx => Option.some.inj hx), Ext.trans s0 he⟩)
        have HU := Lib.hid (show (upd V 8 (.bool (p != q))) 3 = wv p ∧ (upd V 8 (.bool (p != q))) 7 = wv q from ⟨e3, e7⟩)
        clear hK hC hW hL HV s0
        rw [HFR.out]
        rw [e3, e7]
        clear e3 e7
        clear hB
        refine wpList_neq_word rfl (.tmp 19) (.tmp 23) rfl p q HPP.out HPQ.out rfl rfl ?_
        show K _ _
        have := H.out _ (Ext.refl _)
        rw [HFR.out] at this
        obtain ⟨u3, u7⟩ := HU.out
        rw [u3, u7] at this
        exact this
      · rintro L A W hL ⟨V, rfl, HV, s0⟩
        have e0 : V 0 = .slice (some ⟨bb, oo, none⟩) l.length c1 := HV 0 _ rfl (hL 0 (by simp))
        have e1 : V 1 = .int .i64 (k : Nat) := HV 1 _ rfl (hL 1 (by simp))
        have e2 : V 2 = .pointer (some ⟨bb, oo + k * 4, none⟩) := HV 2 _ rfl (hL 2 (by simp))
        have e3 : V 3 = wv p := HV 3 _ rfl (hL 3 (by simp))
        have e4 : V 4 = .slice (some ⟨b2, o2, none⟩) m.length c2 := HV 4 _ rfl (hL 4 (by simp))
        have e5 : V 5 = .int .i64 (k : Nat) := HV 5 _ rfl (hL 5 (by simp))
        have e6 : V 6 = .pointer (some ⟨b2, o2 + k * 4, none⟩) := HV 6 _ rfl (hL 6 (by simp))
        have e7 : V 7 = wv q := HV 7 _ rfl (hL 7 (by simp))
        have e8 : V 8 = .bool (p != q) := HV 8 _ rfl (hL 8 (by simp))
        have hA := s0
        rw [HFR.out]
        rw [e0, e1, e2, e3, e4, e5, e6, e7, e8]
        clear hL HV HFR e0 e1 e2 e3 e4 e5 e6 e7 e8 s0
        cases hb : (p != q) with
        | true =>
          have HF := Lib.hid (HNO.out (fun e => by rw [e] at hb; simp at hb))
          clear hb
          go_wp2_with fail
          refine bodyPost_ret (results_tmp rfl _ _ _) rfl ?_
          exact ⟨by rw [HF.out]; rfl, HX.out.trans hA⟩
        | false =>
          have HN := Lib.hid (HNX.out (by simpa using hb))
          clear hb
          go_wp2_with fail
          exact ⟨⟨k + 1, by omega, by go_num, Lib.hid ⟨HN.out, HX.out.trans hA⟩⟩, by simp [intOf]; omega⟩
    · obtain rfl : k = l.length := by omega
      have hd : decide (l.length < l.length) = false := decide_eq_false (by omega)
      have hd2 : decide ((l.length : Int) < (l.length : Int)) = false := decide_eq_false (by omega)
      have HF : Hid (decide (l = m) = true) := Lib.hid (decide_eq_true (by
        apply List.ext_getElem HL.out
        intro i hi hj
        have := HJ.out.1 i hi
        rwa [List.getD_eq_getElem?_getD, List.getD_eq_getElem?_getD, List.getElem?_eq_getElem hi, List.getElem?_eq_getElem hj] at this))
      go_wp2_with fail
      refine bodyPost_ret (results_tmp rfl _ _ _) rfl ?_
      exact ⟨by rw [HF.out]; rfl, HJ.out.2⟩
set_option maxRecDepth 100000 in
set_option maxHeartbeats 1000000 in
theorem sameN_any (v u : Value) (l m : List Nn) (w : World) (hs : Nns w v l) (ht : Nns w u m) : Calls Try.prog 19 #[v, u] w fun e w' => e = .returned (.bool (decide (l = m))) ∧ Ext w w' := by
  go_enter Try.func19, Try.ntmps19
  go_wp2_with fail
  refine (equalN_any v u l m _ hs ht).mono ?_
  rintro e w2 ⟨rfl, he⟩
  have HE := Lib.hid he
  clear he
  go_wp2_with fail
  go_ret
  exact ⟨rfl, HE.out⟩
set_option maxRecDepth 100000 in
theorem Nns.take {W : World} {A : Option Addr} {n c : Nat} {l : List Nn} (h : Nns W (.slice A n c) l) (k : Nat) (hk : k ≤ l.length) : Nns W (.slice A k c) (l.take k) := by
  obtain ⟨A', c', e, h1, h2, h3⟩ := h
  injection e with e1 e2 e3
  subst e1 e2 e3
  have hlen : (l.take k).length = k := by rw [List.length_take]; omega
  refine ⟨A, c, by rw [hlen], by omega, h2, fun hp => ?_⟩
  obtain ⟨b, o, ea, hc⟩ := h3 (by omega)
  refine ⟨b, o, ea, fun i x hx => hc i x ?_⟩
  have hi : i < (l.take k).length := (List.getElem?_eq_some_iff.1 hx).1
  rw [List.getElem?_take, if_pos (by omega)] at hx
  exact hx
set_option maxRecDepth 100000 in
set_option maxHeartbeats 1000000 in
theorem fewN_any (mv : Value) (l : List Nn) (w : World) (hm : Nns w mv l) : Calls Try.prog 13 #[mv] w fun e w' => ∃ v, e = .returned v ∧ OwnN w' w.heap.size v (l.take 49) ∧ Ext w w' := by
  have HM := Lib.hid hm
  obtain ⟨A, c, rfl, h1, h2⟩ := hm.len
  unfold maxLen at h2
  clear hm
  have HO : Hid ((w.alloc (.cells #[] 38)).ownsRow w.heap.size 38 6 (.slice (some ⟨w.heap.size, 0, none⟩) 0 0) 0 []) := Lib.hid ⟨by simp, .inr ⟨w.heap.size, 0, #[], rfl, Nat.le_refl _, heap_alloc_new _ _, Nat.le_refl _, by unfold maxLen; omega, by simp, by simp⟩⟩
  obtain ⟨k, hk⟩ : ∃ k, min l.length 49 = k := ⟨_, rfl⟩
  have hk1 : k ≤ l.length := by omega
  have hk2 : k ≤ 49 := by omega
  have HTK := Lib.hid (show l.take k = l.take 49 by
    rw [← hk]
    rcases Nat.lt_or_ge 49 l.length with h | h
    · rw [Nat.min_eq_right (by omega)]
    · rw [Nat.min_eq_left (by omega), List.take_length, List.take_of_length_le h])
  have HT := Lib.hid (HM.out.take k hk1)
  have HR := Lib.hid HT.out.rs
  have HLN := Lib.hid (show (l.take k).length = k by rw [List.length_take]; omega)
  rw [HLN.out] at HR
  have HOKS := Lib.hid (fun p (hp : p ∈ l.take k) => HM.out.oks p (List.mem_of_mem_take hp))
  have HRR : Hid (Rs w 6 (.slice A (min (l.length : Int) 49).toNat c) k (nnf (l.take k))) := Lib.hid (by rw [show (min (l.length : Int) 49).toNat = k by omega]; exact HR.out)
  go_enter Try.func13, Try.ntmps13
  go_wp2_with (first
    | (at_builtin; go_loud (refine wpList_append_row ?_ (.tmp 3) (.tmp 8) 22 rfl w.heap.size 38 Try.underlying22 _ 6 48 nninfo3 rfl (by decide) _ 0 [] rfl HO.out _ k (nnf (l.take k)) rfl (HRR.out.ext ((Ext.refl w).alloc _)) (nnf_one _) (by omega) (by decide) (by simp) ?_; (exact rfl); intro v5 w5 o5 g5 b5; have O5 := Lib.hid o5; have E5 := Lib.hid (((Ext.refl w).alloc (.cells #[] 38)).grown (g := w.heap.size) g5 (Nat.le_refl _)); clear o5 g5 b5)))
  go_ret
  have := O5.out
  rw [Nat.zero_add, List.nil_append] at this
  exact ⟨_, rfl, by rw [← HTK.out]; exact ⟨by rw [HLN.out]; exact this, HOKS.out⟩, E5.out⟩
end Go.Proofs.Ytepggbhibpjkpaa
