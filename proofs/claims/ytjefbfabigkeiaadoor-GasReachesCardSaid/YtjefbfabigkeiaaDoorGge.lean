/- GasReaches: more bytes never end sooner; all that is asked is in memory then. No condition: whatever three words. -/
import Derived.Test.YtjefbfabigkeiaaDoorGsu
namespace Go.Proofs.YtjefbfabigkeiaaDoor
open Go.ChangeShapes Go.WideShapes Go.ChangeAt Go.RowKit Go.Shelf

/-- Three words lie there. -/
def R3 (w : World) (g1 g2 g3 a n m : Nat) (W : World) : Prop := Wd W g1 36 a ∧ Wd W g2 36 n ∧ Wd W g3 36 m ∧ Ext w W
set_option maxRecDepth 100000 in
theorem R3.ext {w : World} {g1 g2 g3 a n m : Nat} {W W' : World} (h : R3 w g1 g2 g3 a n m W) (he : Ext W W') : R3 w g1 g2 g3 a n m W' := ⟨h.1.ext he, h.2.1.ext he, h.2.2.1.ext he, h.2.2.2.trans he⟩
/-- And their sum. -/
def R4 (w : World) (g1 g2 g3 g4 a n m s : Nat) (W : World) : Prop := Wd W g1 36 a ∧ Wd W g2 36 n ∧ Wd W g3 36 m ∧ Wd W g4 36 s ∧ Ext w W
set_option maxRecDepth 100000 in
theorem R4.ext {w : World} {g1 g2 g3 g4 a n m s : Nat} {W W' : World} (h : R4 w g1 g2 g3 g4 a n m s W) (he : Ext W W') : R4 w g1 g2 g3 g4 a n m s W' := ⟨h.1.ext he, h.2.1.ext he, h.2.2.1.ext he, h.2.2.2.1.ext he, h.2.2.2.2.trans he⟩
set_option maxRecDepth 100000 in
theorem R4.mk {w W W' : World} {g1 g2 g3 g4 a n m s : Nat} (h : R3 w g1 g2 g3 a n m W) (hs : Wd W' g4 36 s) (hg : W.grownBy W' (some g4)) (h1 : g1 < g4) (h2 : g2 < g4) (h3 : g3 < g4) (hw : w.heap.size ≤ g4) : R4 w g1 g2 g3 g4 a n m s W' :=
  ⟨Wd.kept h.1 hg (fun e => by injection e; omega), Wd.kept h.2.1 hg (fun e => by injection e; omega), Wd.kept h.2.2.1 hg (fun e => by injection e; omega), hs, h.2.2.2.grown hg hw⟩
set_option maxRecDepth 100000 in
theorem reach_all (a n : Nat) (hn : n ≠ 0) : (endG a n = noGas → ovr a n = true ∨ 0 ≤ cmpN ((a + n) % M256) 1099511627776) ∧ (¬ endG a n = noGas → ovr a n = false ∧ (a + n) % M256 = endG a n ∧ endG a n ≤ 1099511627776) := by
  unfold endG noGas
  rw [if_neg hn]
  refine ⟨fun h => ?_, fun h => ?_⟩
  · rcases Nat.lt_or_ge (a + n) M256 with k | k
    · refine .inr ?_
      rw [Nat.mod_eq_of_lt k]
      unfold cmpN
      rw [if_neg (by omega)]
      split <;> decide
    · exact .inl (decide_eq_true k)
  · have k : a + n < M256 := by unfold M256; omega
    refine ⟨decide_eq_false (by omega), ?_, by omega⟩
    rw [Nat.mod_eq_of_lt k]
    omega
set_option maxRecDepth 100000 in
set_option maxHeartbeats 4000000 in
theorem reaches_any (a n m : Nat) (w : World) (hT : Tb w) (ha : a < M256) (hn : n < M256) (hm : m < M256) : Calls Tryd.prog 10 #[wv a, wv n, wv m] w (RetT w) := by
  have HA := Lib.hid ha
  have HN := Lib.hid hn
  have HM := Lib.hid hm
  have HX0 := Lib.hid (show R3 w w.heap.size (w.heap.size + 1) (w.heap.size + 1 + 1) a n m (((w.alloc (.cells (wc a) 36)).alloc (.cells (wc n) 36)).alloc (.cells (wc m) 36)) from
    ⟨((Cs.new w _ _ _ rfl).alloc _).alloc _, (Cs.new _ _ _ _ (by simp)).alloc _, Cs.new _ _ _ _ (by simp), (((Ext.refl w).alloc _).alloc _).alloc _⟩)
  have HT := Lib.hid (hT.ext HX0.out.2.2.2)
  have hq1 : ∀ u : World, (binOp .eql 36 (.agg #[.int .u64 (lb n 0 : Nat), .int .u64 (lb n 1 : Nat), .int .u64 (lb n 2 : Nat), .int .u64 (lb n 3 : Nat)]) (.agg #[.int .u64 0, .int .u64 0, .int .u64 0, .int .u64 0])).run Tryd.prog u = .ok (.bool (n == 0)) u := run_eql_word n 0 hn M0
  have hg1 : ∀ u : World, (eqGuard .eql 36 (.tmp 43) (.tmp 44) (.agg #[.int .u64 (lb n 0 : Nat), .int .u64 (lb n 1 : Nat), .int .u64 (lb n 2 : Nat), .int .u64 (lb n 3 : Nat)]) (.agg #[.int .u64 0, .int .u64 0, .int .u64 0, .int .u64 0])).run Tryd.prog u = .ok () u := run_guard_eql (.tmp 43) (.tmp 44) n 0
  clear hT ha hn hm
  unfold wv
  go_enter Tryd.func10, Tryd.ntmps10
  go_wp2_with fail
  generalize (((w.alloc (.cells (wc a) 36)).alloc (.cells (wc n) 36)).alloc (.cells (wc m) 36)) = w0 at *
  obtain ⟨g3, h3⟩ : ∃ g, w.heap.size + 1 + 1 = g := ⟨_, rfl⟩
  rw [h3] at HX0 ⊢
  obtain ⟨g2, h2⟩ : ∃ g, w.heap.size + 1 = g := ⟨_, rfl⟩
  rw [h2] at HX0 ⊢
  obtain ⟨g1, h1⟩ : ∃ g, w.heap.size = g := ⟨_, rfl⟩
  rw [h1] at HX0 ⊢
  clear h1 h2 h3
  refine (wakes_G w0 HT.out).mono ?_
  rintro e w1 ⟨rfl, hE1⟩
  have HX := Lib.hid (HX0.out.ext hE1)
  clear hE1 HX0 HT
  go_upto_region 3 with fail
  refine wp_named fun a0 ha0 => ?_
  obtain ⟨fr, hfr⟩ : ∃ fr : (Nat → Value) → Act, ∀ V, fr V = ((((((((a0.put (some 14) (V 0)).put (some 15) (V 1)).put (some 16) (V 2)).put (some 17) (V 3)).put (some 18) (V 4)).put (some 19) (V 5)).put (some 7) (V 6)).put (some 8) (V 7)) := ⟨fun V => ((((((((a0.put (some 14) (V 0)).put (some 15) (V 1)).put (some 16) (V 2)).put (some 17) (V 3)).put (some 18) (V 4)).put (some 19) (V 5)).put (some 7) (V 6)).put (some 8) (V 7)), fun _ => rfl⟩
  rw [ha0] at hfr
  simp only [Act.put, List.setIfInBounds_toArray, List.set_cons_zero, List.set_cons_succ] at hfr
  have HFR := Lib.hid hfr
  clear hfr
  refine wp_region_inv (by kernel_rfl) (by kernel_rfl) (fun L A W => ∃ V : Nat → Value, A = fr V ∧ Vals (fun j => ([some (wv a), some (wv n), some (.int .u64 (endG a n : Nat)), some (wv a), some (wv m), some (.int .u64 (endG a m : Nat)), some (.int .u64 (endG a n : Nat)), some (.int .u64 (endG a m : Nat))] : List (Option Value)).getD j none) L V ∧ (R3 w g1 g2 g3 a n m W)) ?_ ⟨?_, ?_, ?_, ?_, ?_, ?_, ?_, ?_, trivial⟩ ?_
  · refine ⟨fun j => a0.tmps.getD (([14, 15, 16, 17, 18, 19, 7, 8] : List Nat).getD j 0) undef, ?_, Vals.no _ _ _ (far_none _ _ rfl), HX.out.ext ((Ext.refl _).drew)⟩
    rw [HFR.out, ha0]
    rfl
  all_goals clear ha0
  · rintro L A W K hL hC hW ⟨V, rfl, HV, s0⟩ hK
    have hB := s0
    have H := Lib.hid (show ∀ W', Ext W W' → K (fr (upd V 0 (wv a))) W' from fun W' he => hK _ _ ⟨upd V 0 (wv a), rfl, HV.up 0 _ (fun x hx => Option.some.inj hx), R3.ext s0 he⟩)
    clear hK hC hW hL HV s0
    rw [HFR.out]
    have k1 := hB.1
    clear hB
    go_wp2_with ((with_reducible refine wpList_load_wordG ?_ 36 24 (.tmp 3) rfl Tryd.underlying36 winfo g1 a ?_ ?_ ?_); (exact rfl); (exact rfl); (exact k1))
    show K _ _
    have := H.out _ (Ext.refl _)
    rw [HFR.out] at this
    exact this
  · rintro L A W K hL hC hW ⟨V, rfl, HV, s0⟩ hK
    have hB := s0
    have H := Lib.hid (show ∀ W', Ext W W' → K (fr (upd V 1 (wv n))) W' from fun W' he => hK _ _ ⟨upd V 1 (wv n), rfl, HV.up 1 _ (fun x hx => Option.some.inj hx), R3.ext s0 he⟩)
    clear hK hC hW hL HV s0
    rw [HFR.out]
    have k1 := hB.2.1
    clear hB
    go_wp2_with ((with_reducible refine wpList_load_wordG ?_ 36 24 (.tmp 4) rfl Tryd.underlying36 winfo g2 n ?_ ?_ ?_); (exact rfl); (exact rfl); (exact k1))
    show K _ _
    have := H.out _ (Ext.refl _)
    rw [HFR.out] at this
    exact this
  · rintro L A W K hL hC hW ⟨V, rfl, HV, s0⟩ hK
    have e0 : V 0 = wv a := HV 0 _ rfl (hW 0 rfl)
    have e1 : V 1 = wv n := HV 1 _ rfl (hW 1 rfl)
    have hB := s0
    have H := Lib.hid (show ∀ W', Ext W W' → K (fr (upd V 2 (.int .u64 (endG a n : Nat)))) W' from fun W' he => hK _ _ ⟨upd V 2 (.int .u64 (endG a n : Nat)), rfl, HV.up 2 _ (fun x hx => Option.some.inj hx), R3.ext s0 he⟩)
    have HU := Lib.hid (show (upd V 2 (.int .u64 (endG a n : Nat))) 0 = wv a ∧ (upd V 2 (.int .u64 (endG a n : Nat))) 1 = wv n from ⟨e0, e1⟩)
    clear hK hC hW hL HV s0
    rw [HFR.out]
    rw [e0, e1]
    clear e0 e1
    clear hB
    go_wp2_with fail
    refine (endG_any a n _ HA.out HN.out).mono ?_
    rintro e wx ⟨rfl, he⟩
    have := H.out _ he
    clear H
    go_wp2_with fail
    show K _ _
    rw [HFR.out] at this
    obtain ⟨u0, u1⟩ := HU.out
    rw [u0, u1] at this
    exact this
  · rintro L A W K hL hC hW ⟨V, rfl, HV, s0⟩ hK
    have hB := s0
    have H := Lib.hid (show ∀ W', Ext W W' → K (fr (upd V 3 (wv a))) W' from fun W' he => hK _ _ ⟨upd V 3 (wv a), rfl, HV.up 3 _ (fun x hx => Option.some.inj hx), R3.ext s0 he⟩)
    clear hK hC hW hL HV s0
    rw [HFR.out]
    have k1 := hB.1
    clear hB
    go_wp2_with ((with_reducible refine wpList_load_wordG ?_ 36 24 (.tmp 3) rfl Tryd.underlying36 winfo g1 a ?_ ?_ ?_); (exact rfl); (exact rfl); (exact k1))
    show K _ _
    have := H.out _ (Ext.refl _)
    rw [HFR.out] at this
    exact this
  · rintro L A W K hL hC hW ⟨V, rfl, HV, s0⟩ hK
    have hB := s0
    have H := Lib.hid (show ∀ W', Ext W W' → K (fr (upd V 4 (wv m))) W' from fun W' he => hK _ _ ⟨upd V 4 (wv m), rfl, HV.up 4 _ (fun x hx => Option.some.inj hx), R3.ext s0 he⟩)
    clear hK hC hW hL HV s0
    rw [HFR.out]
    have k1 := hB.2.2.1
    clear hB
    go_wp2_with ((with_reducible refine wpList_load_wordG ?_ 36 24 (.tmp 5) rfl Tryd.underlying36 winfo g3 m ?_ ?_ ?_); (exact rfl); (exact rfl); (exact k1))
    show K _ _
    have := H.out _ (Ext.refl _)
    rw [HFR.out] at this
    exact this
  · rintro L A W K hL hC hW ⟨V, rfl, HV, s0⟩ hK
    have e3 : V 3 = wv a := HV 3 _ rfl (hW 3 rfl)
    have e4 : V 4 = wv m := HV 4 _ rfl (hW 4 rfl)
    have hB := s0
    have H := Lib.hid (show ∀ W', Ext W W' → K (fr (upd V 5 (.int .u64 (endG a m : Nat)))) W' from fun W' he => hK _ _ ⟨upd V 5 (.int .u64 (endG a m : Nat)), rfl, HV.up 5 _ (fun x hx => Option.some.inj hx), R3.ext s0 he⟩)
    have HU := Lib.hid (show (upd V 5 (.int .u64 (endG a m : Nat))) 3 = wv a ∧ (upd V 5 (.int .u64 (endG a m : Nat))) 4 = wv m from ⟨e3, e4⟩)
    clear hK hC hW hL HV s0
    rw [HFR.out]
    rw [e3, e4]
    clear e3 e4
    clear hB
    go_wp2_with fail
    refine (endG_any a m _ HA.out HM.out).mono ?_
    rintro e wx ⟨rfl, he⟩
    have := H.out _ he
    clear H
    go_wp2_with fail
    show K _ _
    rw [HFR.out] at this
    obtain ⟨u3, u4⟩ := HU.out
    rw [u3, u4] at this
    exact this
  · rintro L A W K hL hC hW ⟨V, rfl, HV, s0⟩ hK
    have e2 : V 2 = .int .u64 (endG a n : Nat) := HV 2 _ rfl (hW 2 rfl)
    have H := Lib.hid (show ∀ W', Ext W W' → K (fr (upd V 6 (.int .u64 (endG a n : Nat)))) W' from fun W' he => hK _ _ ⟨upd V 6 (.int .u64 (endG a n : Nat)), rfl, HV.up 6 _ (fun x hx => Option.some.inj hx), R3.ext s0 he⟩)
    have HU := Lib.hid (show (upd V 6 (.int .u64 (endG a n : Nat))) 2 = .int .u64 (endG a n : Nat) from e2)
    clear hK hC hW hL HV s0
    rw [HFR.out]
    rw [e2]
    clear e2
    go_wp2_with fail
    show K _ _
    have := H.out _ (Ext.refl _)
    rw [HFR.out] at this
    obtain u2 := HU.out
    rw [u2] at this
    exact this
  · rintro L A W K hL hC hW ⟨V, rfl, HV, s0⟩ hK
    have e5 : V 5 = .int .u64 (endG a m : Nat) := HV 5 _ rfl (hW 5 rfl)
    have H := Lib.hid (show ∀ W', Ext W W' → K (fr (upd V 7 (.int .u64 (endG a m : Nat)))) W' from fun W' he => hK _ _ ⟨upd V 7 (.int .u64 (endG a m : Nat)), rfl, HV.up 7 _ (fun x hx => Option.some.inj hx), R3.ext s0 he⟩)
    have HU := Lib.hid (show (upd V 7 (.int .u64 (endG a m : Nat))) 5 = .int .u64 (endG a m : Nat) from e5)
    clear hK hC hW hL HV s0
    rw [HFR.out]
    rw [e5]
    clear e5
    go_wp2_with fail
    show K _ _
    have := H.out _ (Ext.refl _)
    rw [HFR.out] at this
    obtain u5 := HU.out
    rw [u5] at this
    exact this
  · rintro L A W hL ⟨V, rfl, HV, s0⟩
    have e0 : V 0 = wv a := HV 0 _ rfl (hL 0 (by simp))
    have e1 : V 1 = wv n := HV 1 _ rfl (hL 1 (by simp))
    have e2 : V 2 = .int .u64 (endG a n : Nat) := HV 2 _ rfl (hL 2 (by simp))
    have e3 : V 3 = wv a := HV 3 _ rfl (hL 3 (by simp))
    have e4 : V 4 = wv m := HV 4 _ rfl (hL 4 (by simp))
    have e5 : V 5 = .int .u64 (endG a m : Nat) := HV 5 _ rfl (hL 5 (by simp))
    have e6 : V 6 = .int .u64 (endG a n : Nat) := HV 6 _ rfl (hL 6 (by simp))
    have e7 : V 7 = .int .u64 (endG a m : Nat) := HV 7 _ rfl (hL 7 (by simp))
    have hA := s0
    rw [HFR.out]
    rw [e0, e1, e2, e3, e4, e5, e6, e7]
    clear hL HV HFR e0 e1 e2 e3 e4 e5 e6 e7 s0
    replace HX := Lib.hid hA
    clear hA
    have k2 := HX.out.2.1
    have k3 := HX.out.2.2.1
    go_wp2_with (first | ((with_reducible refine wpList_load_wordG ?_ 36 24 (.tmp 4) rfl Tryd.underlying36 winfo g2 n ?_ ?_ ?_); (exact rfl); (exact rfl); (exact k2)) | ((with_reducible refine wpList_load_wordG ?_ 36 24 (.tmp 5) rfl Tryd.underlying36 winfo g3 m ?_ ?_ ?_); (exact rfl); (exact rfl); (exact k3)))
    refine (cmp_any n m _ HN.out HM.out).mono ?_
    rintro e w4 ⟨rfl, hE4⟩
    replace HX := Lib.hid (HX.out.ext hE4)
    clear k2 k3 hE4
    by_cases hgt : m < n
    · have hc : cmpN n m = 1 := by unfold cmpN; rw [if_neg (by omega), if_pos hgt]
      have hxy := endG_mono a (Nat.le_of_lt hgt)
      have hxg := endG_le a m
      rw [hc]
      go_upto_region 6 with fail
      obtain ⟨x, hx⟩ : ∃ x, endG a m = x := ⟨_, rfl⟩
      obtain ⟨y, hy⟩ : ∃ y, endG a n = y := ⟨_, rfl⟩
      rw [hx, hy] at hxy ⊢
      rw [hx] at hxg
      clear hx hy hc hgt
      have d1 : decide (y < x) = false := decide_eq_false (by omega)
      have d2 : decide (1099511627776 < (x : Int)) = false := decide_eq_false (by unfold noGas at hxg; omega)
      have d3 : decide (1099511627776 < x) = false := decide_eq_false (by unfold noGas at hxg; omega)
      have hxg6 : x ≤ 1099511627776 := hxg
      have k1 := HX.out.1
      have k2 := HX.out.2.1
      go_wp2_with (first | ((with_reducible refine wpList_load_wordG ?_ 36 24 (.tmp 3) rfl Tryd.underlying36 winfo g1 a ?_ ?_ ?_); (exact rfl); (exact rfl); (exact k1)) | ((with_reducible refine wpList_load_wordG ?_ 36 24 (.tmp 4) rfl Tryd.underlying36 winfo g2 n ?_ ?_ ?_); (exact rfl); (exact rfl); (exact k2)))
      refine (endG_any a n _ HA.out HN.out).mono ?_
      rintro e w5 ⟨rfl, hE5⟩
      have HX5 := Lib.hid (HX.out.ext hE5)
      clear hE5 HX k1 k2 d1 d2 d3
      have k1 := HX5.out.1
      have k2 := HX5.out.2.1
      go_wp2_with (first | ((with_reducible refine wpList_load_wordG ?_ 36 24 (.tmp 3) rfl Tryd.underlying36 winfo g1 a ?_ ?_ ?_); (exact rfl); (exact rfl); (exact k1)) | ((with_reducible refine wpList_load_wordG ?_ 36 24 (.tmp 4) rfl Tryd.underlying36 winfo g2 n ?_ ?_ ?_); (exact rfl); (exact rfl); (exact k2)))
      refine (add_any a n _ HA.out HN.out).mono ?_
      rintro e w6 ⟨rfl, hE6⟩
      have HX6 := Lib.hid (HX5.out.ext hE6)
      clear hE6 HX5 k1 k2
      have HS := Lib.hid (Nat.mod_lt (a + n) (show 0 < M256 from M0))
      have HQ := Lib.hid (reach_all a n)
      generalize (a + n) % M256 = s at *
      generalize ovr a n = o at *
      have hcs : Cs (w6.alloc (.cells #[.int .u64 0, .int .u64 0, .int .u64 0, .int .u64 0] 36)) w6.heap.size 36 (wc 0) := Cs.new _ _ _ _ rfl
      have HX7 := Lib.hid (HX6.out.ext ((Ext.refl w6).alloc (.cells #[.int .u64 0, .int .u64 0, .int .u64 0, .int .u64 0] 36)))
      have HLT := Lib.hid (Cs.lt HX6.out.1)
      have HLT2 := Lib.hid (Cs.lt HX6.out.2.1)
      have HLT3 := Lib.hid (Cs.lt HX6.out.2.2.1)
      go_upto_region 10 with (refine wpList_store_word rfl rfl 36 (.tmp 10) (.tmp 40) rfl winfo w6.heap.size (wc 0) s rfl rfl hcs rfl ?_; intro w8 hw8 hg8; have HX8 := Lib.hid (R4.mk HX7.out hw8 hg8 HLT.out HLT2.out HLT3.out HX6.out.2.2.2.size); clear hw8 hg8 hcs HX7 HX6)
      obtain ⟨g4, hg4⟩ : ∃ g, w6.heap.size = g := ⟨_, rfl⟩
      rw [hg4] at HX8 ⊢
      clear HLT HLT2 HLT3 hg4
      obtain ⟨q0, q1, q2, q3⟩ := HX8.out.2.1.cs.four
      by_cases hz : n = 0
      · have hb : (n == 0) = true := by simpa using hz
        rw [hb] at hq1
        have HR := Lib.hid (show endG a n = 0 by unfold endG; rw [if_pos hz])
        rw [HR.out]
        clear hb hz
        go_wp2
        go_ret
        exact ⟨rfl, HX8.out.2.2.2.2⟩
      have hb : (n == 0) = false := by simpa using hz
      rw [hb] at hq1
      have HQ2 := Lib.hid (HQ.out hz)
      clear hb hz HQ
      go_upto_region 12 with fail
      clear q0 q1 q2 q3 hq1 hg1
      by_cases hge : endG a n = noGas
      · have hq := HQ2.out.1 hge
        have he : endG a n = 1099511627776 := hge
        rw [he]
        clear he hge
        go_upto_region 13 with fail
        cases o
        · have HC := Lib.hid (show 0 ≤ cmpN s 1099511627776 from hq.resolve_left (by simp))
          clear hq
          refine wp_named fun a0 ha0 => ?_
          obtain ⟨fr, hfr⟩ : ∃ fr : (Nat → Value) → Act, ∀ V, fr V = ((((((((a0.put (some 51) (V 0)).put (some 52) (V 1)).put (some 53) (V 2)).put (some 54) (V 3)).put (some 55) (V 4)).put (some 56) (V 5)).put (some 57) (V 6)).put (some 6) (V 7)) := ⟨fun V => ((((((((a0.put (some 51) (V 0)).put (some 52) (V 1)).put (some 53) (V 2)).put (some 54) (V 3)).put (some 55) (V 4)).put (some 56) (V 5)).put (some 57) (V 6)).put (some 6) (V 7)), fun _ => rfl⟩
          rw [ha0] at hfr
          simp only [Act.put, List.setIfInBounds_toArray, List.set_cons_zero, List.set_cons_succ] at hfr
          have HFR := Lib.hid hfr
          clear hfr
          refine wp_region_inv (by kernel_rfl) (by kernel_rfl) (fun L A W => ∃ V : Nat → Value, A = fr V ∧ Vals (fun j => ([some (.bool false), some (.bool false), some (wv s), some (wv 1099511627776), some (.int .i64 (cmpN s 1099511627776)), some (.bool true), some (.bool true), some (.bool true)] : List (Option Value)).getD j none) L V ∧ (R4 w g1 g2 g3 g4 a n m s W)) ?_ ⟨?_, ?_, ?_, ?_, ?_, ?_, ?_, ?_, trivial⟩ ?_
          · refine ⟨fun j => a0.tmps.getD (([51, 52, 53, 54, 55, 56, 57, 6] : List Nat).getD j 0) undef, ?_, Vals.no _ _ _ (far_none _ _ rfl), HX8.out.ext ((Ext.refl _).drew)⟩
            rw [HFR.out, ha0]
            rfl
          all_goals clear ha0
          · rintro L A W K hL hC hW ⟨V, rfl, HV, s0⟩ hK
            have H := Lib.hid (show ∀ W', Ext W W' → K (fr (upd V 0 (.bool false))) W' from fun W' he => hK _ _ ⟨upd V 0 (.bool false), rfl, HV.up 0 _ (fun x hx => Option.some.inj hx), R4.ext s0 he⟩)
            clear hK hC hW hL HV s0
            rw [HFR.out]
            go_wp2_with fail
            show K _ _
            have := H.out _ (Ext.refl _)
            rw [HFR.out] at this
            exact this
          · rintro L A W K hL hC hW ⟨V, rfl, HV, s0⟩ hK
            have e0 : V 0 = .bool false := HV 0 _ rfl (hW 0 rfl)
            have H := Lib.hid (show ∀ W', Ext W W' → K (fr (upd V 1 (.bool false))) W' from fun W' he => hK _ _ ⟨upd V 1 (.bool false), rfl, HV.up 1 _ (fun x hx => Option.some.inj hx), R4.ext s0 he⟩)
            have HU := Lib.hid (show (upd V 1 (.bool false)) 0 = .bool false from e0)
            clear hK hC hW hL HV s0
            rw [HFR.out]
            rw [e0]
            clear e0
            go_wp2_with fail
            show K _ _
            have := H.out _ (Ext.refl _)
            rw [HFR.out] at this
            obtain u0 := HU.out
            rw [u0] at this
            exact this
          · rintro L A W K hL hC hW ⟨V, rfl, HV, s0⟩ hK
            have e1 : V 1 = .bool false := HV 1 _ rfl (hW 1 rfl)
            have hB := s0
            have H := Lib.hid (show ∀ W', Ext W W' → K (fr (upd V 2 (wv s))) W' from fun W' he => hK _ _ ⟨upd V 2 (wv s), rfl, HV.up 2 _ (fun x hx => Option.some.inj hx), R4.ext s0 he⟩)
            have HU := Lib.hid (show (upd V 2 (wv s)) 1 = .bool false from e1)
            clear hK hC hW hL HV s0
            rw [HFR.out]
            rw [e1]
            clear e1
            have k1 := hB.2.2.2.1
            clear hB
            go_wp2_with ((with_reducible refine wpList_load_wordG ?_ 36 24 (.tmp 10) rfl Tryd.underlying36 winfo g4 s ?_ ?_ ?_); (exact rfl); (exact rfl); (exact k1))
            show K _ _
            have := H.out _ (Ext.refl _)
            rw [HFR.out] at this
            obtain u1 := HU.out
            rw [u1] at this
            exact this
          · rintro L A W K hL hC hW ⟨V, rfl, HV, s0⟩ hK
            have e1 : V 1 = .bool false := HV 1 _ rfl (hW 1 rfl)
            have hB := s0
            have H := Lib.hid (show ∀ W', Ext W W' → K (fr (upd V 3 (wv 1099511627776))) W' from fun W' he => hK _ _ ⟨upd V 3 (wv 1099511627776), rfl, HV.up 3 _ (fun x hx => Option.some.inj hx), R4.ext s0 he⟩)
            have HU := Lib.hid (show (upd V 3 (wv 1099511627776)) 1 = .bool false from e1)
            clear hK hC hW hL HV s0
            rw [HFR.out]
            rw [e1]
            clear e1
            clear hB
            go_wp2_with fail
            refine (of_any 1099511627776 _ rfl _ (by decide)).mono ?_
            rintro e wx ⟨rfl, he⟩
            have := H.out _ he
            clear H
            go_wp2_with fail
            show K _ _
            rw [HFR.out] at this
            obtain u1 := HU.out
            rw [u1] at this
            exact this
          · rintro L A W K hL hC hW ⟨V, rfl, HV, s0⟩ hK
            have e1 : V 1 = .bool false := HV 1 _ rfl (hW 1 rfl)
            have e2 : V 2 = wv s := HV 2 _ rfl (hW 2 rfl)
            have e3 : V 3 = wv 1099511627776 := HV 3 _ rfl (hW 3 rfl)
            have hB := s0
            have H := Lib.hid (show ∀ W', Ext W W' → K (fr (upd V 4 (.int .i64 (cmpN s 1099511627776)))) W' from fun W' he => hK _ _ ⟨upd V 4 (.int .i64 (cmpN s 1099511627776)), rfl, HV.up 4 _ (fun x hx => Option.some.inj hx), R4.ext s0 he⟩)
            have HU := Lib.hid (show (upd V 4 (.int .i64 (cmpN s 1099511627776))) 1 = .bool false ∧ (upd V 4 (.int .i64 (cmpN s 1099511627776))) 2 = wv s ∧ (upd V 4 (.int .i64 (cmpN s 1099511627776))) 3 = wv 1099511627776 from ⟨e1, e2, e3⟩)
            clear hK hC hW hL HV s0
            rw [HFR.out]
            rw [e1, e2, e3]
            clear e1 e2 e3
            clear hB
            go_wp2_with fail
            refine (cmp_any s 1099511627776 _ HS.out (by decide)).mono ?_
            rintro e wx ⟨rfl, he⟩
            have := H.out _ he
            clear H
            go_wp2_with fail
            show K _ _
            rw [HFR.out] at this
            obtain ⟨u1, u2, u3⟩ := HU.out
            rw [u1, u2, u3] at this
            exact this
          · rintro L A W K hL hC hW ⟨V, rfl, HV, s0⟩ hK
            have e1 : V 1 = .bool false := HV 1 _ rfl (hW 1 rfl)
            have e4 : V 4 = .int .i64 (cmpN s 1099511627776) := HV 4 _ rfl (hW 4 rfl)
            have hB := s0
            have H := Lib.hid (show ∀ W', Ext W W' → K (fr (upd V 5 (.bool true))) W' from fun W' he => hK _ _ ⟨upd V 5 (.bool true), rfl, HV.up 5 _ (fun x hx => Option.some.inj hx), R4.ext s0 he⟩)
            have HU := Lib.hid (show (upd V 5 (.bool true)) 1 = .bool false ∧ (upd V 5 (.bool true)) 4 = .int .i64 (cmpN s 1099511627776) from ⟨e1, e4⟩)
            clear hK hC hW hL HV s0
            rw [HFR.out]
            rw [e1, e4]
            clear e1 e4
            have hc := HC.out
            clear hB
            go_wp2_with fail
            show K _ _
            have := H.out _ (Ext.refl _)
            rw [HFR.out] at this
            obtain ⟨u1, u4⟩ := HU.out
            rw [u1, u4] at this
            exact this
          · rintro L A W K hL hC hW ⟨V, rfl, HV, s0⟩ hK
            have e1 : V 1 = .bool false := HV 1 _ rfl (hW 1 rfl)
            have e5 : V 5 = .bool true := HV 5 _ rfl (hW 5 rfl)
            have H := Lib.hid (show ∀ W', Ext W W' → K (fr (upd V 6 (.bool true))) W' from fun W' he => hK _ _ ⟨upd V 6 (.bool true), rfl, HV.up 6 _ (fun x hx => Option.some.inj hx), R4.ext s0 he⟩)
            have HU := Lib.hid (show (upd V 6 (.bool true)) 1 = .bool false ∧ (upd V 6 (.bool true)) 5 = .bool true from ⟨e1, e5⟩)
            clear hK hC hW hL HV s0
            rw [HFR.out]
            rw [e1, e5]
            clear e1 e5
            go_wp2_with fail
            show K _ _
            have := H.out _ (Ext.refl _)
            rw [HFR.out] at this
            obtain ⟨u1, u5⟩ := HU.out
            rw [u1, u5] at this
            exact this
          · rintro L A W K hL hC hW ⟨V, rfl, HV, s0⟩ hK
            have e6 : V 6 = .bool true := HV 6 _ rfl (hW 6 rfl)
            have H := Lib.hid (show ∀ W', Ext W W' → K (fr (upd V 7 (.bool true))) W' from fun W' he => hK _ _ ⟨upd V 7 (.bool true), rfl, HV.up 7 _ (fun x hx => Option.some.inj hx), R4.ext s0 he⟩)
            have HU := Lib.hid (show (upd V 7 (.bool true)) 6 = .bool true from e6)
            clear hK hC hW hL HV s0
            rw [HFR.out]
            rw [e6]
            clear e6
            go_wp2_with fail
            show K _ _
            have := H.out _ (Ext.refl _)
            rw [HFR.out] at this
            obtain u6 := HU.out
            rw [u6] at this
            exact this
          · rintro L A W hL ⟨V, rfl, HV, s0⟩
            have e0 : V 0 = .bool false := HV 0 _ rfl (hL 0 (by simp))
            have e1 : V 1 = .bool false := HV 1 _ rfl (hL 1 (by simp))
            have e2 : V 2 = wv s := HV 2 _ rfl (hL 2 (by simp))
            have e3 : V 3 = wv 1099511627776 := HV 3 _ rfl (hL 3 (by simp))
            have e4 : V 4 = .int .i64 (cmpN s 1099511627776) := HV 4 _ rfl (hL 4 (by simp))
            have e5 : V 5 = .bool true := HV 5 _ rfl (hL 5 (by simp))
            have e6 : V 6 = .bool true := HV 6 _ rfl (hL 6 (by simp))
            have e7 : V 7 = .bool true := HV 7 _ rfl (hL 7 (by simp))
            have hA := s0
            rw [HFR.out]
            rw [e0, e1, e2, e3, e4, e5, e6, e7]
            clear hL HV HFR e0 e1 e2 e3 e4 e5 e6 e7 s0
            go_wp2
            go_ret
            exact ⟨rfl, hA.2.2.2.2⟩
        · clear hq
          refine wp_named fun a0 ha0 => ?_
          obtain ⟨fr, hfr⟩ : ∃ fr : (Nat → Value) → Act, ∀ V, fr V = ((((((((a0.put (some 51) (V 0)).put (some 52) (V 1)).put (some 53) (V 2)).put (some 54) (V 3)).put (some 55) (V 4)).put (some 56) (V 5)).put (some 57) (V 6)).put (some 6) (V 7)) := ⟨fun V => ((((((((a0.put (some 51) (V 0)).put (some 52) (V 1)).put (some 53) (V 2)).put (some 54) (V 3)).put (some 55) (V 4)).put (some 56) (V 5)).put (some 57) (V 6)).put (some 6) (V 7)), fun _ => rfl⟩
          rw [ha0] at hfr
          simp only [Act.put, List.setIfInBounds_toArray, List.set_cons_zero, List.set_cons_succ] at hfr
          have HFR := Lib.hid hfr
          clear hfr
          refine wp_region_inv (by kernel_rfl) (by kernel_rfl) (fun L A W => ∃ V : Nat → Value, A = fr V ∧ Vals (fun j => ([some (.bool true), some (.bool true), some (undef), some (undef), some (undef), some (undef), some (.bool true), some (.bool true)] : List (Option Value)).getD j none) L V ∧ (R4 w g1 g2 g3 g4 a n m s W)) ?_ ⟨?_, ?_, ?_, ?_, ?_, ?_, ?_, ?_, trivial⟩ ?_
          · refine ⟨fun j => a0.tmps.getD (([51, 52, 53, 54, 55, 56, 57, 6] : List Nat).getD j 0) undef, ?_, Vals.no _ _ _ (far_none _ _ rfl), HX8.out.ext ((Ext.refl _).drew)⟩
            rw [HFR.out, ha0]
            rfl
          all_goals clear ha0
          · rintro L A W K hL hC hW ⟨V, rfl, HV, s0⟩ hK
            have H := Lib.hid (show ∀ W', Ext W W' → K (fr (upd V 0 (.bool true))) W' from fun W' he => hK _ _ ⟨upd V 0 (.bool true), rfl, HV.up 0 _ (fun x hx => Option.some.inj hx), R4.ext s0 he⟩)
            clear hK hC hW hL HV s0
            rw [HFR.out]
            go_wp2_with fail
            show K _ _
            have := H.out _ (Ext.refl _)
            rw [HFR.out] at this
            exact this
          · rintro L A W K hL hC hW ⟨V, rfl, HV, s0⟩ hK
            have e0 : V 0 = .bool true := HV 0 _ rfl (hW 0 rfl)
            have H := Lib.hid (show ∀ W', Ext W W' → K (fr (upd V 1 (.bool true))) W' from fun W' he => hK _ _ ⟨upd V 1 (.bool true), rfl, HV.up 1 _ (fun x hx => Option.some.inj hx), R4.ext s0 he⟩)
            have HU := Lib.hid (show (upd V 1 (.bool true)) 0 = .bool true from e0)
            clear hK hC hW hL HV s0
            rw [HFR.out]
            rw [e0]
            clear e0
            go_wp2_with fail
            show K _ _
            have := H.out _ (Ext.refl _)
            rw [HFR.out] at this
            obtain u0 := HU.out
            rw [u0] at this
            exact this
          · rintro L A W K hL hC hW ⟨V, rfl, HV, s0⟩ hK
            have e1 : V 1 = .bool true := HV 1 _ rfl (hW 1 rfl)
            have H := Lib.hid (show ∀ W', Ext W W' → K (fr (upd V 2 (undef))) W' from fun W' he => hK _ _ ⟨upd V 2 (undef), rfl, HV.up 2 _ (fun x hx => Option.some.inj hx), R4.ext s0 he⟩)
            have HU := Lib.hid (show (upd V 2 (undef)) 1 = .bool true from e1)
            clear hK hC hW hL HV s0
            rw [HFR.out]
            rw [e1]
            clear e1
            go_wp2_with fail
            show K _ _
            have := H.out _ (Ext.refl _)
            rw [HFR.out] at this
            obtain u1 := HU.out
            rw [u1] at this
            exact this
          · rintro L A W K hL hC hW ⟨V, rfl, HV, s0⟩ hK
            have e1 : V 1 = .bool true := HV 1 _ rfl (hW 1 rfl)
            have H := Lib.hid (show ∀ W', Ext W W' → K (fr (upd V 3 (undef))) W' from fun W' he => hK _ _ ⟨upd V 3 (undef), rfl, HV.up 3 _ (fun x hx => Option.some.inj hx), R4.ext s0 he⟩)
            have HU := Lib.hid (show (upd V 3 (undef)) 1 = .bool true from e1)
            clear hK hC hW hL HV s0
            rw [HFR.out]
            rw [e1]
            clear e1
            go_wp2_with fail
            show K _ _
            have := H.out _ (Ext.refl _)
            rw [HFR.out] at this
            obtain u1 := HU.out
            rw [u1] at this
            exact this
          · rintro L A W K hL hC hW ⟨V, rfl, HV, s0⟩ hK
            have e1 : V 1 = .bool true := HV 1 _ rfl (hW 1 rfl)
            have e2 : V 2 = undef := HV 2 _ rfl (hW 2 rfl)
            have e3 : V 3 = undef := HV 3 _ rfl (hW 3 rfl)
            have H := Lib.hid (show ∀ W', Ext W W' → K (fr (upd V 4 (undef))) W' from fun W' he => hK _ _ ⟨upd V 4 (undef), rfl, HV.up 4 _ (fun x hx => Option.some.inj hx), R4.ext s0 he⟩)
            have HU := Lib.hid (show (upd V 4 (undef)) 1 = .bool true ∧ (upd V 4 (undef)) 2 = undef ∧ (upd V 4 (undef)) 3 = undef from ⟨e1, e2, e3⟩)
            clear hK hC hW hL HV s0
            rw [HFR.out]
            rw [e1, e2, e3]
            clear e1 e2 e3
            go_wp2_with fail
            show K _ _
            have := H.out _ (Ext.refl _)
            rw [HFR.out] at this
            obtain ⟨u1, u2, u3⟩ := HU.out
            rw [u1, u2, u3] at this
            exact this
          · rintro L A W K hL hC hW ⟨V, rfl, HV, s0⟩ hK
            have e1 : V 1 = .bool true := HV 1 _ rfl (hW 1 rfl)
            have e4 : V 4 = undef := HV 4 _ rfl (hW 4 rfl)
            have H := Lib.hid (show ∀ W', Ext W W' → K (fr (upd V 5 (undef))) W' from fun W' he => hK _ _ ⟨upd V 5 (undef), rfl, HV.up 5 _ (fun x hx => Option.some.inj hx), R4.ext s0 he⟩)
            have HU := Lib.hid (show (upd V 5 (undef)) 1 = .bool true ∧ (upd V 5 (undef)) 4 = undef from ⟨e1, e4⟩)
            clear hK hC hW hL HV s0
            rw [HFR.out]
            rw [e1, e4]
            clear e1 e4
            go_wp2_with fail
            show K _ _
            have := H.out _ (Ext.refl _)
            rw [HFR.out] at this
            obtain ⟨u1, u4⟩ := HU.out
            rw [u1, u4] at this
            exact this
          · rintro L A W K hL hC hW ⟨V, rfl, HV, s0⟩ hK
            have e1 : V 1 = .bool true := HV 1 _ rfl (hW 1 rfl)
            have e5 : V 5 = undef := HV 5 _ rfl (hW 5 rfl)
            have H := Lib.hid (show ∀ W', Ext W W' → K (fr (upd V 6 (.bool true))) W' from fun W' he => hK _ _ ⟨upd V 6 (.bool true), rfl, HV.up 6 _ (fun x hx => Option.some.inj hx), R4.ext s0 he⟩)
            have HU := Lib.hid (show (upd V 6 (.bool true)) 1 = .bool true ∧ (upd V 6 (.bool true)) 5 = undef from ⟨e1, e5⟩)
            clear hK hC hW hL HV s0
            rw [HFR.out]
            rw [e1, e5]
            clear e1 e5
            go_wp2_with fail
            show K _ _
            have := H.out _ (Ext.refl _)
            rw [HFR.out] at this
            obtain ⟨u1, u5⟩ := HU.out
            rw [u1, u5] at this
            exact this
          · rintro L A W K hL hC hW ⟨V, rfl, HV, s0⟩ hK
            have e6 : V 6 = .bool true := HV 6 _ rfl (hW 6 rfl)
            have H := Lib.hid (show ∀ W', Ext W W' → K (fr (upd V 7 (.bool true))) W' from fun W' he => hK _ _ ⟨upd V 7 (.bool true), rfl, HV.up 7 _ (fun x hx => Option.some.inj hx), R4.ext s0 he⟩)
            have HU := Lib.hid (show (upd V 7 (.bool true)) 6 = .bool true from e6)
            clear hK hC hW hL HV s0
            rw [HFR.out]
            rw [e6]
            clear e6
            go_wp2_with fail
            show K _ _
            have := H.out _ (Ext.refl _)
            rw [HFR.out] at this
            obtain u6 := HU.out
            rw [u6] at this
            exact this
          · rintro L A W hL ⟨V, rfl, HV, s0⟩
            have e0 : V 0 = .bool true := HV 0 _ rfl (hL 0 (by simp))
            have e1 : V 1 = .bool true := HV 1 _ rfl (hL 1 (by simp))
            have e2 : V 2 = undef := HV 2 _ rfl (hL 2 (by simp))
            have e3 : V 3 = undef := HV 3 _ rfl (hL 3 (by simp))
            have e4 : V 4 = undef := HV 4 _ rfl (hL 4 (by simp))
            have e5 : V 5 = undef := HV 5 _ rfl (hL 5 (by simp))
            have e6 : V 6 = .bool true := HV 6 _ rfl (hL 6 (by simp))
            have e7 : V 7 = .bool true := HV 7 _ rfl (hL 7 (by simp))
            have hA := s0
            rw [HFR.out]
            rw [e0, e1, e2, e3, e4, e5, e6, e7]
            clear hL HV HFR e0 e1 e2 e3 e4 e5 e6 e7 s0
            go_wp2
            go_ret
            exact ⟨rfl, hA.2.2.2.2⟩
      obtain ⟨rfl, hse, hlt⟩ := HQ2.out.2 hge
      have hne : ((endG a n : Nat) : Int) ≠ 1099511627776 := by unfold noGas at hge; omega
      have hne2 : (((endG a n : Nat) : Int) == 1099511627776) = false := by simpa using hne
      have HE6 := Lib.hid (show endG a n < 18446744073709551616 by omega)
      have HEM := Lib.hid (show endG a n < M256 by unfold M256; omega)
      have HSE := Lib.hid (show (s == endG a n) = true by simpa using hse)
      clear hse hlt hge hne HQ2
      generalize endG a n = q at *
      go_upto_region 14 with fail
      clear hne2
      refine wp_named fun a0 ha0 => ?_
      obtain ⟨fr, hfr⟩ : ∃ fr : (Nat → Value) → Act, ∀ V, fr V = (((((((((a0.put (some 58) (V 0)).put (some 59) (V 1)).put (some 60) (V 2)).put (some 61) (V 3)).put (some 62) (V 4)).put (some 63) (V 5)).put (some 64) (V 6)).put (some 65) (V 7)).put (some 6) (V 8)) := ⟨fun V => (((((((((a0.put (some 58) (V 0)).put (some 59) (V 1)).put (some 60) (V 2)).put (some 61) (V 3)).put (some 62) (V 4)).put (some 63) (V 5)).put (some 64) (V 6)).put (some 65) (V 7)).put (some 6) (V 8)), fun _ => rfl⟩
      rw [ha0] at hfr
      simp only [Act.put, List.setIfInBounds_toArray, List.set_cons_zero, List.set_cons_succ] at hfr
      have HFR := Lib.hid hfr
      clear hfr
      refine wp_region_inv (by kernel_rfl) (by kernel_rfl) (fun L A W => ∃ V : Nat → Value, A = fr V ∧ Vals (fun j => ([some (.bool false), some (.bool true), some (.bool true), some (wv s), some (.int .u64 (q : Nat)), some (wv q), some (.bool true), some (.bool true), some (.bool true)] : List (Option Value)).getD j none) L V ∧ (R4 w g1 g2 g3 g4 a n m s W)) ?_ ⟨?_, ?_, ?_, ?_, ?_, ?_, ?_, ?_, ?_, trivial⟩ ?_
      · refine ⟨fun j => a0.tmps.getD (([58, 59, 60, 61, 62, 63, 64, 65, 6] : List Nat).getD j 0) undef, ?_, Vals.no _ _ _ (far_none _ _ rfl), HX8.out.ext ((Ext.refl _).drew)⟩
        rw [HFR.out, ha0]
        rfl
      all_goals clear ha0
      · rintro L A W K hL hC hW ⟨V, rfl, HV, s0⟩ hK
        have H := Lib.hid (show ∀ W', Ext W W' → K (fr (upd V 0 (.bool false))) W' from fun W' he => hK _ _ ⟨upd V 0 (.bool false), rfl, HV.up 0 _ (fun x hx => Option.some.inj hx), R4.ext s0 he⟩)
        clear hK hC hW hL HV s0
        rw [HFR.out]
        go_wp2_with fail
        show K _ _
        have := H.out _ (Ext.refl _)
        rw [HFR.out] at this
        exact this
      · rintro L A W K hL hC hW ⟨V, rfl, HV, s0⟩ hK
        have e0 : V 0 = .bool false := HV 0 _ rfl (hW 0 rfl)
        have H := Lib.hid (show ∀ W', Ext W W' → K (fr (upd V 1 (.bool true))) W' from fun W' he => hK _ _ ⟨upd V 1 (.bool true), rfl, HV.up 1 _ (fun x hx => Option.some.inj hx), R4.ext s0 he⟩)
        have HU := Lib.hid (show (upd V 1 (.bool true)) 0 = .bool false from e0)
        clear hK hC hW hL HV s0
        rw [HFR.out]
        rw [e0]
        clear e0
        go_wp2_with fail
        show K _ _
        have := H.out _ (Ext.refl _)
        rw [HFR.out] at this
        obtain u0 := HU.out
        rw [u0] at this
        exact this
      · rintro L A W K hL hC hW ⟨V, rfl, HV, s0⟩ hK
        have e1 : V 1 = .bool true := HV 1 _ rfl (hW 1 rfl)
        have H := Lib.hid (show ∀ W', Ext W W' → K (fr (upd V 2 (.bool true))) W' from fun W' he => hK _ _ ⟨upd V 2 (.bool true), rfl, HV.up 2 _ (fun x hx => Option.some.inj hx), R4.ext s0 he⟩)
        have HU := Lib.hid (show (upd V 2 (.bool true)) 1 = .bool true from e1)
        clear hK hC hW hL HV s0
        rw [HFR.out]
        rw [e1]
        clear e1
        go_wp2_with fail
        show K _ _
        have := H.out _ (Ext.refl _)
        rw [HFR.out] at this
        obtain u1 := HU.out
        rw [u1] at this
        exact this
      · rintro L A W K hL hC hW ⟨V, rfl, HV, s0⟩ hK
        have e2 : V 2 = .bool true := HV 2 _ rfl (hW 2 rfl)
        have hB := s0
        have H := Lib.hid (show ∀ W', Ext W W' → K (fr (upd V 3 (wv s))) W' from fun W' he => hK _ _ ⟨upd V 3 (wv s), rfl, HV.up 3 _ (fun x hx => Option.some.inj hx), R4.ext s0 he⟩)
        have HU := Lib.hid (show (upd V 3 (wv s)) 2 = .bool true from e2)
        clear hK hC hW hL HV s0
        rw [HFR.out]
        rw [e2]
        clear e2
        have k1 := hB.2.2.2.1
        clear hB
        go_wp2_with ((with_reducible refine wpList_load_wordG ?_ 36 24 (.tmp 10) rfl Tryd.underlying36 winfo g4 s ?_ ?_ ?_); (exact rfl); (exact rfl); (exact k1))
        show K _ _
        have := H.out _ (Ext.refl _)
        rw [HFR.out] at this
        obtain u2 := HU.out
        rw [u2] at this
        exact this
      · rintro L A W K hL hC hW ⟨V, rfl, HV, s0⟩ hK
        have e2 : V 2 = .bool true := HV 2 _ rfl (hW 2 rfl)
        have H := Lib.hid (show ∀ W', Ext W W' → K (fr (upd V 4 (.int .u64 (q : Nat)))) W' from fun W' he => hK _ _ ⟨upd V 4 (.int .u64 (q : Nat)), rfl, HV.up 4 _ (fun x hx => Option.some.inj hx), R4.ext s0 he⟩)
        have HU := Lib.hid (show (upd V 4 (.int .u64 (q : Nat))) 2 = .bool true from e2)
        clear hK hC hW hL HV s0
        rw [HFR.out]
        rw [e2]
        clear e2
        go_wp2_with fail
        show K _ _
        have := H.out _ (Ext.refl _)
        rw [HFR.out] at this
        obtain u2 := HU.out
        rw [u2] at this
        exact this
      · rintro L A W K hL hC hW ⟨V, rfl, HV, s0⟩ hK
        have e2 : V 2 = .bool true := HV 2 _ rfl (hW 2 rfl)
        have e4 : V 4 = .int .u64 (q : Nat) := HV 4 _ rfl (hW 4 rfl)
        have hB := s0
        have H := Lib.hid (show ∀ W', Ext W W' → K (fr (upd V 5 (wv q))) W' from fun W' he => hK _ _ ⟨upd V 5 (wv q), rfl, HV.up 5 _ (fun x hx => Option.some.inj hx), R4.ext s0 he⟩)
        have HU := Lib.hid (show (upd V 5 (wv q)) 2 = .bool true ∧ (upd V 5 (wv q)) 4 = .int .u64 (q : Nat) from ⟨e2, e4⟩)
        clear hK hC hW hL HV s0
        rw [HFR.out]
        rw [e2, e4]
        clear e2 e4
        clear hB
        go_wp2_with fail
        refine (of_any q _ rfl _ HE6.out).mono ?_
        rintro e wx ⟨rfl, he⟩
        have := H.out _ he
        clear H
        go_wp2_with fail
        show K _ _
        rw [HFR.out] at this
        obtain ⟨u2, u4⟩ := HU.out
        rw [u2, u4] at this
        exact this
      · rintro L A W K hL hC hW ⟨V, rfl, HV, s0⟩ hK
        have e2 : V 2 = .bool true := HV 2 _ rfl (hW 2 rfl)
        have e3 : V 3 = wv s := HV 3 _ rfl (hW 3 rfl)
        have e5 : V 5 = wv q := HV 5 _ rfl (hW 5 rfl)
        have hB := s0
        have H := Lib.hid (show ∀ W', Ext W W' → K (fr (upd V 6 (.bool true))) W' from fun W' he => hK _ _ ⟨upd V 6 (.bool true), rfl, HV.up 6 _ (fun x hx => Option.some.inj hx), R4.ext s0 he⟩)
        have HU := Lib.hid (show (upd V 6 (.bool true)) 2 = .bool true ∧ (upd V 6 (.bool true)) 3 = wv s ∧ (upd V 6 (.bool true)) 5 = wv q from ⟨e2, e3, e5⟩)
        clear hK hC hW hL HV s0
        rw [HFR.out]
        rw [e2, e3, e5]
        clear e2 e3 e5
        clear hB
        go_wp2_with ((with_reducible refine wpList_eql_word ?_ (.tmp 61) (.tmp 63) ?_ s q HS.out HEM.out ?_ ?_ ?_); (exact rfl); (exact rfl); (exact rfl); (exact rfl))
        rw [HSE.out]
        show K _ _
        have := H.out _ (Ext.refl _)
        rw [HFR.out] at this
        obtain ⟨u2, u3, u5⟩ := HU.out
        rw [u2, u3, u5] at this
        exact this
      · rintro L A W K hL hC hW ⟨V, rfl, HV, s0⟩ hK
        have e2 : V 2 = .bool true := HV 2 _ rfl (hW 2 rfl)
        have e6 : V 6 = .bool true := HV 6 _ rfl (hW 6 rfl)
        have H := Lib.hid (show ∀ W', Ext W W' → K (fr (upd V 7 (.bool true))) W' from fun W' he => hK _ _ ⟨upd V 7 (.bool true), rfl, HV.up 7 _ (fun x hx => Option.some.inj hx), R4.ext s0 he⟩)
        have HU := Lib.hid (show (upd V 7 (.bool true)) 2 = .bool true ∧ (upd V 7 (.bool true)) 6 = .bool true from ⟨e2, e6⟩)
        clear hK hC hW hL HV s0
        rw [HFR.out]
        rw [e2, e6]
        clear e2 e6
        go_wp2_with fail
        show K _ _
        have := H.out _ (Ext.refl _)
        rw [HFR.out] at this
        obtain ⟨u2, u6⟩ := HU.out
        rw [u2, u6] at this
        exact this
      · rintro L A W K hL hC hW ⟨V, rfl, HV, s0⟩ hK
        have e7 : V 7 = .bool true := HV 7 _ rfl (hW 7 rfl)
        have H := Lib.hid (show ∀ W', Ext W W' → K (fr (upd V 8 (.bool true))) W' from fun W' he => hK _ _ ⟨upd V 8 (.bool true), rfl, HV.up 8 _ (fun x hx => Option.some.inj hx), R4.ext s0 he⟩)
        have HU := Lib.hid (show (upd V 8 (.bool true)) 7 = .bool true from e7)
        clear hK hC hW hL HV s0
        rw [HFR.out]
        rw [e7]
        clear e7
        go_wp2_with fail
        show K _ _
        have := H.out _ (Ext.refl _)
        rw [HFR.out] at this
        obtain u7 := HU.out
        rw [u7] at this
        exact this
      · rintro L A W hL ⟨V, rfl, HV, s0⟩
        have e0 : V 0 = .bool false := HV 0 _ rfl (hL 0 (by simp))
        have e1 : V 1 = .bool true := HV 1 _ rfl (hL 1 (by simp))
        have e2 : V 2 = .bool true := HV 2 _ rfl (hL 2 (by simp))
        have e3 : V 3 = wv s := HV 3 _ rfl (hL 3 (by simp))
        have e4 : V 4 = .int .u64 (q : Nat) := HV 4 _ rfl (hL 4 (by simp))
        have e5 : V 5 = wv q := HV 5 _ rfl (hL 5 (by simp))
        have e6 : V 6 = .bool true := HV 6 _ rfl (hL 6 (by simp))
        have e7 : V 7 = .bool true := HV 7 _ rfl (hL 7 (by simp))
        have e8 : V 8 = .bool true := HV 8 _ rfl (hL 8 (by simp))
        have hA := s0
        rw [HFR.out]
        rw [e0, e1, e2, e3, e4, e5, e6, e7, e8]
        clear hL HV HFR e0 e1 e2 e3 e4 e5 e6 e7 e8 s0
        go_wp2
        go_ret
        exact ⟨rfl, hA.2.2.2.2⟩
    · have hc : cmpN n m ≤ 0 := by unfold cmpN; split <;> (try split) <;> omega
      have hxy := endG_mono a (show n ≤ m by omega)
      have hxg := endG_le a n
      go_upto_region 6 with fail
      obtain ⟨x, hx⟩ : ∃ x, endG a n = x := ⟨_, rfl⟩
      obtain ⟨y, hy⟩ : ∃ y, endG a m = y := ⟨_, rfl⟩
      rw [hx, hy] at hxy ⊢
      rw [hx] at hxg
      clear hx hy hc hgt
      have d1 : decide (y < x) = false := decide_eq_false (by omega)
      have d2 : decide (1099511627776 < (x : Int)) = false := decide_eq_false (by unfold noGas at hxg; omega)
      have d3 : decide (1099511627776 < x) = false := decide_eq_false (by unfold noGas at hxg; omega)
      have hxg6 : x ≤ 1099511627776 := hxg
      have k1 := HX.out.1
      have k2 := HX.out.2.1
      go_wp2_with (first | ((with_reducible refine wpList_load_wordG ?_ 36 24 (.tmp 3) rfl Tryd.underlying36 winfo g1 a ?_ ?_ ?_); (exact rfl); (exact rfl); (exact k1)) | ((with_reducible refine wpList_load_wordG ?_ 36 24 (.tmp 4) rfl Tryd.underlying36 winfo g2 n ?_ ?_ ?_); (exact rfl); (exact rfl); (exact k2)))
      refine (endG_any a n _ HA.out HN.out).mono ?_
      rintro e w5 ⟨rfl, hE5⟩
      have HX5 := Lib.hid (HX.out.ext hE5)
      clear hE5 HX k1 k2 d1 d2 d3
      have k1 := HX5.out.1
      have k2 := HX5.out.2.1
      go_wp2_with (first | ((with_reducible refine wpList_load_wordG ?_ 36 24 (.tmp 3) rfl Tryd.underlying36 winfo g1 a ?_ ?_ ?_); (exact rfl); (exact rfl); (exact k1)) | ((with_reducible refine wpList_load_wordG ?_ 36 24 (.tmp 4) rfl Tryd.underlying36 winfo g2 n ?_ ?_ ?_); (exact rfl); (exact rfl); (exact k2)))
      refine (add_any a n _ HA.out HN.out).mono ?_
      rintro e w6 ⟨rfl, hE6⟩
      have HX6 := Lib.hid (HX5.out.ext hE6)
      clear hE6 HX5 k1 k2
      have HS := Lib.hid (Nat.mod_lt (a + n) (show 0 < M256 from M0))
      have HQ := Lib.hid (reach_all a n)
      generalize (a + n) % M256 = s at *
      generalize ovr a n = o at *
      have hcs : Cs (w6.alloc (.cells #[.int .u64 0, .int .u64 0, .int .u64 0, .int .u64 0] 36)) w6.heap.size 36 (wc 0) := Cs.new _ _ _ _ rfl
      have HX7 := Lib.hid (HX6.out.ext ((Ext.refl w6).alloc (.cells #[.int .u64 0, .int .u64 0, .int .u64 0, .int .u64 0] 36)))
      have HLT := Lib.hid (Cs.lt HX6.out.1)
      have HLT2 := Lib.hid (Cs.lt HX6.out.2.1)
      have HLT3 := Lib.hid (Cs.lt HX6.out.2.2.1)
      go_upto_region 10 with (refine wpList_store_word rfl rfl 36 (.tmp 10) (.tmp 40) rfl winfo w6.heap.size (wc 0) s rfl rfl hcs rfl ?_; intro w8 hw8 hg8; have HX8 := Lib.hid (R4.mk HX7.out hw8 hg8 HLT.out HLT2.out HLT3.out HX6.out.2.2.2.size); clear hw8 hg8 hcs HX7 HX6)
      obtain ⟨g4, hg4⟩ : ∃ g, w6.heap.size = g := ⟨_, rfl⟩
      rw [hg4] at HX8 ⊢
      clear HLT HLT2 HLT3 hg4
      obtain ⟨q0, q1, q2, q3⟩ := HX8.out.2.1.cs.four
      by_cases hz : n = 0
      · have hb : (n == 0) = true := by simpa using hz
        rw [hb] at hq1
        have HR := Lib.hid (show endG a n = 0 by unfold endG; rw [if_pos hz])
        rw [HR.out]
        clear hb hz
        go_wp2
        go_ret
        exact ⟨rfl, HX8.out.2.2.2.2⟩
      have hb : (n == 0) = false := by simpa using hz
      rw [hb] at hq1
      have HQ2 := Lib.hid (HQ.out hz)
      clear hb hz HQ
      go_upto_region 12 with fail
      clear q0 q1 q2 q3 hq1 hg1
      by_cases hge : endG a n = noGas
      · have hq := HQ2.out.1 hge
        have he : endG a n = 1099511627776 := hge
        rw [he]
        clear he hge
        go_upto_region 13 with fail
        cases o
        · have HC := Lib.hid (show 0 ≤ cmpN s 1099511627776 from hq.resolve_left (by simp))
          clear hq
          refine wp_named fun a0 ha0 => ?_
          obtain ⟨fr, hfr⟩ : ∃ fr : (Nat → Value) → Act, ∀ V, fr V = ((((((((a0.put (some 51) (V 0)).put (some 52) (V 1)).put (some 53) (V 2)).put (some 54) (V 3)).put (some 55) (V 4)).put (some 56) (V 5)).put (some 57) (V 6)).put (some 6) (V 7)) := ⟨fun V => ((((((((a0.put (some 51) (V 0)).put (some 52) (V 1)).put (some 53) (V 2)).put (some 54) (V 3)).put (some 55) (V 4)).put (some 56) (V 5)).put (some 57) (V 6)).put (some 6) (V 7)), fun _ => rfl⟩
          rw [ha0] at hfr
          simp only [Act.put, List.setIfInBounds_toArray, List.set_cons_zero, List.set_cons_succ] at hfr
          have HFR := Lib.hid hfr
          clear hfr
          refine wp_region_inv (by kernel_rfl) (by kernel_rfl) (fun L A W => ∃ V : Nat → Value, A = fr V ∧ Vals (fun j => ([some (.bool false), some (.bool false), some (wv s), some (wv 1099511627776), some (.int .i64 (cmpN s 1099511627776)), some (.bool true), some (.bool true), some (.bool true)] : List (Option Value)).getD j none) L V ∧ (R4 w g1 g2 g3 g4 a n m s W)) ?_ ⟨?_, ?_, ?_, ?_, ?_, ?_, ?_, ?_, trivial⟩ ?_
          · refine ⟨fun j => a0.tmps.getD (([51, 52, 53, 54, 55, 56, 57, 6] : List Nat).getD j 0) undef, ?_, Vals.no _ _ _ (far_none _ _ rfl), HX8.out.ext ((Ext.refl _).drew)⟩
            rw [HFR.out, ha0]
            rfl
          all_goals clear ha0
          · rintro L A W K hL hC hW ⟨V, rfl, HV, s0⟩ hK
            have H := Lib.hid (show ∀ W', Ext W W' → K (fr (upd V 0 (.bool false))) W' from fun W' he => hK _ _ ⟨upd V 0 (.bool false), rfl, HV.up 0 _ (fun x hx => Option.some.inj hx), R4.ext s0 he⟩)
            clear hK hC hW hL HV s0
            rw [HFR.out]
            go_wp2_with fail
            show K _ _
            have := H.out _ (Ext.refl _)
            rw [HFR.out] at this
            exact this
          · rintro L A W K hL hC hW ⟨V, rfl, HV, s0⟩ hK
            have e0 : V 0 = .bool false := HV 0 _ rfl (hW 0 rfl)
            have H := Lib.hid (show ∀ W', Ext W W' → K (fr (upd V 1 (.bool false))) W' from fun W' he => hK _ _ ⟨upd V 1 (.bool false), rfl, HV.up 1 _ (fun x hx => Option.some.inj hx), R4.ext s0 he⟩)
            have HU := Lib.hid (show (upd V 1 (.bool false)) 0 = .bool false from e0)
            clear hK hC hW hL HV s0
            rw [HFR.out]
            rw [e0]
            clear e0
            go_wp2_with fail
            show K _ _
            have := H.out _ (Ext.refl _)
            rw [HFR.out] at this
            obtain u0 := HU.out
            rw [u0] at this
            exact this
          · rintro L A W K hL hC hW ⟨V, rfl, HV, s0⟩ hK
            have e1 : V 1 = .bool false := HV 1 _ rfl (hW 1 rfl)
            have hB := s0
            have H := Lib.hid (show ∀ W', Ext W W' → K (fr (upd V 2 (wv s))) W' from fun W' he => hK _ _ ⟨upd V 2 (wv s), rfl, HV.up 2 _ (fun x hx => Option.some.inj hx), R4.ext s0 he⟩)
            have HU := Lib.hid (show (upd V 2 (wv s)) 1 = .bool false from e1)
            clear hK hC hW hL HV s0
            rw [HFR.out]
            rw [e1]
            clear e1
            have k1 := hB.2.2.2.1
            clear hB
            go_wp2_with ((with_reducible refine wpList_load_wordG ?_ 36 24 (.tmp 10) rfl Tryd.underlying36 winfo g4 s ?_ ?_ ?_); (exact rfl); (exact rfl); (exact k1))
            show K _ _
            have := H.out _ (Ext.refl _)
            rw [HFR.out] at this
            obtain u1 := HU.out
            rw [u1] at this
            exact this
          · rintro L A W K hL hC hW ⟨V, rfl, HV, s0⟩ hK
            have e1 : V 1 = .bool false := HV 1 _ rfl (hW 1 rfl)
            have hB := s0
            have H := Lib.hid (show ∀ W', Ext W W' → K (fr (upd V 3 (wv 1099511627776))) W' from fun W' he => hK _ _ ⟨upd V 3 (wv 1099511627776), rfl, HV.up 3 _ (fun x hx => Option.some.inj hx), R4.ext s0 he⟩)
            have HU := Lib.hid (show (upd V 3 (wv 1099511627776)) 1 = .bool false from e1)
            clear hK hC hW hL HV s0
            rw [HFR.out]
            rw [e1]
            clear e1
            clear hB
            go_wp2_with fail
            refine (of_any 1099511627776 _ rfl _ (by decide)).mono ?_
            rintro e wx ⟨rfl, he⟩
            have := H.out _ he
            clear H
            go_wp2_with fail
            show K _ _
            rw [HFR.out] at this
            obtain u1 := HU.out
            rw [u1] at this
            exact this
          · rintro L A W K hL hC hW ⟨V, rfl, HV, s0⟩ hK
            have e1 : V 1 = .bool false := HV 1 _ rfl (hW 1 rfl)
            have e2 : V 2 = wv s := HV 2 _ rfl (hW 2 rfl)
            have e3 : V 3 = wv 1099511627776 := HV 3 _ rfl (hW 3 rfl)
            have hB := s0
            have H := Lib.hid (show ∀ W', Ext W W' → K (fr (upd V 4 (.int .i64 (cmpN s 1099511627776)))) W' from fun W' he => hK _ _ ⟨upd V 4 (.int .i64 (cmpN s 1099511627776)), rfl, HV.up 4 _ (fun x hx => Option.some.inj hx), R4.ext s0 he⟩)
            have HU := Lib.hid (show (upd V 4 (.int .i64 (cmpN s 1099511627776))) 1 = .bool false ∧ (upd V 4 (.int .i64 (cmpN s 1099511627776))) 2 = wv s ∧ (upd V 4 (.int .i64 (cmpN s 1099511627776))) 3 = wv 1099511627776 from ⟨e1, e2, e3⟩)
            clear hK hC hW hL HV s0
            rw [HFR.out]
            rw [e1, e2, e3]
            clear e1 e2 e3
            clear hB
            go_wp2_with fail
            refine (cmp_any s 1099511627776 _ HS.out (by decide)).mono ?_
            rintro e wx ⟨rfl, he⟩
            have := H.out _ he
            clear H
            go_wp2_with fail
            show K _ _
            rw [HFR.out] at this
            obtain ⟨u1, u2, u3⟩ := HU.out
            rw [u1, u2, u3] at this
            exact this
          · rintro L A W K hL hC hW ⟨V, rfl, HV, s0⟩ hK
            have e1 : V 1 = .bool false := HV 1 _ rfl (hW 1 rfl)
            have e4 : V 4 = .int .i64 (cmpN s 1099511627776) := HV 4 _ rfl (hW 4 rfl)
            have hB := s0
            have H := Lib.hid (show ∀ W', Ext W W' → K (fr (upd V 5 (.bool true))) W' from fun W' he => hK _ _ ⟨upd V 5 (.bool true), rfl, HV.up 5 _ (fun x hx => Option.some.inj hx), R4.ext s0 he⟩)
            have HU := Lib.hid (show (upd V 5 (.bool true)) 1 = .bool false ∧ (upd V 5 (.bool true)) 4 = .int .i64 (cmpN s 1099511627776) from ⟨e1, e4⟩)
            clear hK hC hW hL HV s0
            rw [HFR.out]
            rw [e1, e4]
            clear e1 e4
            have hc := HC.out
            clear hB
            go_wp2_with fail
            show K _ _
            have := H.out _ (Ext.refl _)
            rw [HFR.out] at this
            obtain ⟨u1, u4⟩ := HU.out
            rw [u1, u4] at this
            exact this
          · rintro L A W K hL hC hW ⟨V, rfl, HV, s0⟩ hK
            have e1 : V 1 = .bool false := HV 1 _ rfl (hW 1 rfl)
            have e5 : V 5 = .bool true := HV 5 _ rfl (hW 5 rfl)
            have H := Lib.hid (show ∀ W', Ext W W' → K (fr (upd V 6 (.bool true))) W' from fun W' he => hK _ _ ⟨upd V 6 (.bool true), rfl, HV.up 6 _ (fun x hx => Option.some.inj hx), R4.ext s0 he⟩)
            have HU := Lib.hid (show (upd V 6 (.bool true)) 1 = .bool false ∧ (upd V 6 (.bool true)) 5 = .bool true from ⟨e1, e5⟩)
            clear hK hC hW hL HV s0
            rw [HFR.out]
            rw [e1, e5]
            clear e1 e5
            go_wp2_with fail
            show K _ _
            have := H.out _ (Ext.refl _)
            rw [HFR.out] at this
            obtain ⟨u1, u5⟩ := HU.out
            rw [u1, u5] at this
            exact this
          · rintro L A W K hL hC hW ⟨V, rfl, HV, s0⟩ hK
            have e6 : V 6 = .bool true := HV 6 _ rfl (hW 6 rfl)
            have H := Lib.hid (show ∀ W', Ext W W' → K (fr (upd V 7 (.bool true))) W' from fun W' he => hK _ _ ⟨upd V 7 (.bool true), rfl, HV.up 7 _ (fun x hx => Option.some.inj hx), R4.ext s0 he⟩)
            have HU := Lib.hid (show (upd V 7 (.bool true)) 6 = .bool true from e6)
            clear hK hC hW hL HV s0
            rw [HFR.out]
            rw [e6]
            clear e6
            go_wp2_with fail
            show K _ _
            have := H.out _ (Ext.refl _)
            rw [HFR.out] at this
            obtain u6 := HU.out
            rw [u6] at this
            exact this
          · rintro L A W hL ⟨V, rfl, HV, s0⟩
            have e0 : V 0 = .bool false := HV 0 _ rfl (hL 0 (by simp))
            have e1 : V 1 = .bool false := HV 1 _ rfl (hL 1 (by simp))
            have e2 : V 2 = wv s := HV 2 _ rfl (hL 2 (by simp))
            have e3 : V 3 = wv 1099511627776 := HV 3 _ rfl (hL 3 (by simp))
            have e4 : V 4 = .int .i64 (cmpN s 1099511627776) := HV 4 _ rfl (hL 4 (by simp))
            have e5 : V 5 = .bool true := HV 5 _ rfl (hL 5 (by simp))
            have e6 : V 6 = .bool true := HV 6 _ rfl (hL 6 (by simp))
            have e7 : V 7 = .bool true := HV 7 _ rfl (hL 7 (by simp))
            have hA := s0
            rw [HFR.out]
            rw [e0, e1, e2, e3, e4, e5, e6, e7]
            clear hL HV HFR e0 e1 e2 e3 e4 e5 e6 e7 s0
            go_wp2
            go_ret
            exact ⟨rfl, hA.2.2.2.2⟩
        · clear hq
          refine wp_named fun a0 ha0 => ?_
          obtain ⟨fr, hfr⟩ : ∃ fr : (Nat → Value) → Act, ∀ V, fr V = ((((((((a0.put (some 51) (V 0)).put (some 52) (V 1)).put (some 53) (V 2)).put (some 54) (V 3)).put (some 55) (V 4)).put (some 56) (V 5)).put (some 57) (V 6)).put (some 6) (V 7)) := ⟨fun V => ((((((((a0.put (some 51) (V 0)).put (some 52) (V 1)).put (some 53) (V 2)).put (some 54) (V 3)).put (some 55) (V 4)).put (some 56) (V 5)).put (some 57) (V 6)).put (some 6) (V 7)), fun _ => rfl⟩
          rw [ha0] at hfr
          simp only [Act.put, List.setIfInBounds_toArray, List.set_cons_zero, List.set_cons_succ] at hfr
          have HFR := Lib.hid hfr
          clear hfr
          refine wp_region_inv (by kernel_rfl) (by kernel_rfl) (fun L A W => ∃ V : Nat → Value, A = fr V ∧ Vals (fun j => ([some (.bool true), some (.bool true), some (undef), some (undef), some (undef), some (undef), some (.bool true), some (.bool true)] : List (Option Value)).getD j none) L V ∧ (R4 w g1 g2 g3 g4 a n m s W)) ?_ ⟨?_, ?_, ?_, ?_, ?_, ?_, ?_, ?_, trivial⟩ ?_
          · refine ⟨fun j => a0.tmps.getD (([51, 52, 53, 54, 55, 56, 57, 6] : List Nat).getD j 0) undef, ?_, Vals.no _ _ _ (far_none _ _ rfl), HX8.out.ext ((Ext.refl _).drew)⟩
            rw [HFR.out, ha0]
            rfl
          all_goals clear ha0
          · rintro L A W K hL hC hW ⟨V, rfl, HV, s0⟩ hK
            have H := Lib.hid (show ∀ W', Ext W W' → K (fr (upd V 0 (.bool true))) W' from fun W' he => hK _ _ ⟨upd V 0 (.bool true), rfl, HV.up 0 _ (fun x hx => Option.some.inj hx), R4.ext s0 he⟩)
            clear hK hC hW hL HV s0
            rw [HFR.out]
            go_wp2_with fail
            show K _ _
            have := H.out _ (Ext.refl _)
            rw [HFR.out] at this
            exact this
          · rintro L A W K hL hC hW ⟨V, rfl, HV, s0⟩ hK
            have e0 : V 0 = .bool true := HV 0 _ rfl (hW 0 rfl)
            have H := Lib.hid (show ∀ W', Ext W W' → K (fr (upd V 1 (.bool true))) W' from fun W' he => hK _ _ ⟨upd V 1 (.bool true), rfl, HV.up 1 _ (fun x hx => Option.some.inj hx), R4.ext s0 he⟩)
            have HU := Lib.hid (show (upd V 1 (.bool true)) 0 = .bool true from e0)
            clear hK hC hW hL HV s0
            rw [HFR.out]
            rw [e0]
            clear e0
            go_wp2_with fail
            show K _ _
            have := H.out _ (Ext.refl _)
            rw [HFR.out] at this
            obtain u0 := HU.out
            rw [u0] at this
            exact this
          · rintro L A W K hL hC hW ⟨V, rfl, HV, s0⟩ hK
            have e1 : V 1 = .bool true := HV 1 _ rfl (hW 1 rfl)
            have H := Lib.hid (show ∀ W', Ext W W' → K (fr (upd V 2 (undef))) W' from fun W' he => hK _ _ ⟨upd V 2 (undef), rfl, HV.up 2 _ (fun x hx => Option.some.inj hx), R4.ext s0 he⟩)
            have HU := Lib.hid (show (upd V 2 (undef)) 1 = .bool true from e1)
            clear hK hC hW hL HV s0
            rw [HFR.out]
            rw [e1]
            clear e1
            go_wp2_with fail
            show K _ _
            have := H.out _ (Ext.refl _)
            rw [HFR.out] at this
            obtain u1 := HU.out
            rw [u1] at this
            exact this
          · rintro L A W K hL hC hW ⟨V, rfl, HV, s0⟩ hK
            have e1 : V 1 = .bool true := HV 1 _ rfl (hW 1 rfl)
            have H := Lib.hid (show ∀ W', Ext W W' → K (fr (upd V 3 (undef))) W' from fun W' he => hK _ _ ⟨upd V 3 (undef), rfl, HV.up 3 _ (fun x hx => Option.some.inj hx), R4.ext s0 he⟩)
            have HU := Lib.hid (show (upd V 3 (undef)) 1 = .bool true from e1)
            clear hK hC hW hL HV s0
            rw [HFR.out]
            rw [e1]
            clear e1
            go_wp2_with fail
            show K _ _
            have := H.out _ (Ext.refl _)
            rw [HFR.out] at this
            obtain u1 := HU.out
            rw [u1] at this
            exact this
          · rintro L A W K hL hC hW ⟨V, rfl, HV, s0⟩ hK
            have e1 : V 1 = .bool true := HV 1 _ rfl (hW 1 rfl)
            have e2 : V 2 = undef := HV 2 _ rfl (hW 2 rfl)
            have e3 : V 3 = undef := HV 3 _ rfl (hW 3 rfl)
            have H := Lib.hid (show ∀ W', Ext W W' → K (fr (upd V 4 (undef))) W' from fun W' he => hK _ _ ⟨upd V 4 (undef), rfl, HV.up 4 _ (fun x hx => Option.some.inj hx), R4.ext s0 he⟩)
            have HU := Lib.hid (show (upd V 4 (undef)) 1 = .bool true ∧ (upd V 4 (undef)) 2 = undef ∧ (upd V 4 (undef)) 3 = undef from ⟨e1, e2, e3⟩)
            clear hK hC hW hL HV s0
            rw [HFR.out]
            rw [e1, e2, e3]
            clear e1 e2 e3
            go_wp2_with fail
            show K _ _
            have := H.out _ (Ext.refl _)
            rw [HFR.out] at this
            obtain ⟨u1, u2, u3⟩ := HU.out
            rw [u1, u2, u3] at this
            exact this
          · rintro L A W K hL hC hW ⟨V, rfl, HV, s0⟩ hK
            have e1 : V 1 = .bool true := HV 1 _ rfl (hW 1 rfl)
            have e4 : V 4 = undef := HV 4 _ rfl (hW 4 rfl)
            have H := Lib.hid (show ∀ W', Ext W W' → K (fr (upd V 5 (undef))) W' from fun W' he => hK _ _ ⟨upd V 5 (undef), rfl, HV.up 5 _ (fun x hx => Option.some.inj hx), R4.ext s0 he⟩)
            have HU := Lib.hid (show (upd V 5 (undef)) 1 = .bool true ∧ (upd V 5 (undef)) 4 = undef from ⟨e1, e4⟩)
            clear hK hC hW hL HV s0
            rw [HFR.out]
            rw [e1, e4]
            clear e1 e4
            go_wp2_with fail
            show K _ _
            have := H.out _ (Ext.refl _)
            rw [HFR.out] at this
            obtain ⟨u1, u4⟩ := HU.out
            rw [u1, u4] at this
            exact this
          · rintro L A W K hL hC hW ⟨V, rfl, HV, s0⟩ hK
            have e1 : V 1 = .bool true := HV 1 _ rfl (hW 1 rfl)
            have e5 : V 5 = undef := HV 5 _ rfl (hW 5 rfl)
            have H := Lib.hid (show ∀ W', Ext W W' → K (fr (upd V 6 (.bool true))) W' from fun W' he => hK _ _ ⟨upd V 6 (.bool true), rfl, HV.up 6 _ (fun x hx => Option.some.inj hx), R4.ext s0 he⟩)
            have HU := Lib.hid (show (upd V 6 (.bool true)) 1 = .bool true ∧ (upd V 6 (.bool true)) 5 = undef from ⟨e1, e5⟩)
            clear hK hC hW hL HV s0
            rw [HFR.out]
            rw [e1, e5]
            clear e1 e5
            go_wp2_with fail
            show K _ _
            have := H.out _ (Ext.refl _)
            rw [HFR.out] at this
            obtain ⟨u1, u5⟩ := HU.out
            rw [u1, u5] at this
            exact this
          · rintro L A W K hL hC hW ⟨V, rfl, HV, s0⟩ hK
            have e6 : V 6 = .bool true := HV 6 _ rfl (hW 6 rfl)
            have H := Lib.hid (show ∀ W', Ext W W' → K (fr (upd V 7 (.bool true))) W' from fun W' he => hK _ _ ⟨upd V 7 (.bool true), rfl, HV.up 7 _ (fun x hx => Option.some.inj hx), R4.ext s0 he⟩)
            have HU := Lib.hid (show (upd V 7 (.bool true)) 6 = .bool true from e6)
            clear hK hC hW hL HV s0
            rw [HFR.out]
            rw [e6]
            clear e6
            go_wp2_with fail
            show K _ _
            have := H.out _ (Ext.refl _)
            rw [HFR.out] at this
            obtain u6 := HU.out
            rw [u6] at this
            exact this
          · rintro L A W hL ⟨V, rfl, HV, s0⟩
            have e0 : V 0 = .bool true := HV 0 _ rfl (hL 0 (by simp))
            have e1 : V 1 = .bool true := HV 1 _ rfl (hL 1 (by simp))
            have e2 : V 2 = undef := HV 2 _ rfl (hL 2 (by simp))
            have e3 : V 3 = undef := HV 3 _ rfl (hL 3 (by simp))
            have e4 : V 4 = undef := HV 4 _ rfl (hL 4 (by simp))
            have e5 : V 5 = undef := HV 5 _ rfl (hL 5 (by simp))
            have e6 : V 6 = .bool true := HV 6 _ rfl (hL 6 (by simp))
            have e7 : V 7 = .bool true := HV 7 _ rfl (hL 7 (by simp))
            have hA := s0
            rw [HFR.out]
            rw [e0, e1, e2, e3, e4, e5, e6, e7]
            clear hL HV HFR e0 e1 e2 e3 e4 e5 e6 e7 s0
            go_wp2
            go_ret
            exact ⟨rfl, hA.2.2.2.2⟩
      obtain ⟨rfl, hse, hlt⟩ := HQ2.out.2 hge
      have hne : ((endG a n : Nat) : Int) ≠ 1099511627776 := by unfold noGas at hge; omega
      have hne2 : (((endG a n : Nat) : Int) == 1099511627776) = false := by simpa using hne
      have HE6 := Lib.hid (show endG a n < 18446744073709551616 by omega)
      have HEM := Lib.hid (show endG a n < M256 by unfold M256; omega)
      have HSE := Lib.hid (show (s == endG a n) = true by simpa using hse)
      clear hse hlt hge hne HQ2
      generalize endG a n = q at *
      go_upto_region 14 with fail
      clear hne2
      refine wp_named fun a0 ha0 => ?_
      obtain ⟨fr, hfr⟩ : ∃ fr : (Nat → Value) → Act, ∀ V, fr V = (((((((((a0.put (some 58) (V 0)).put (some 59) (V 1)).put (some 60) (V 2)).put (some 61) (V 3)).put (some 62) (V 4)).put (some 63) (V 5)).put (some 64) (V 6)).put (some 65) (V 7)).put (some 6) (V 8)) := ⟨fun V => (((((((((a0.put (some 58) (V 0)).put (some 59) (V 1)).put (some 60) (V 2)).put (some 61) (V 3)).put (some 62) (V 4)).put (some 63) (V 5)).put (some 64) (V 6)).put (some 65) (V 7)).put (some 6) (V 8)), fun _ => rfl⟩
      rw [ha0] at hfr
      simp only [Act.put, List.setIfInBounds_toArray, List.set_cons_zero, List.set_cons_succ] at hfr
      have HFR := Lib.hid hfr
      clear hfr
      refine wp_region_inv (by kernel_rfl) (by kernel_rfl) (fun L A W => ∃ V : Nat → Value, A = fr V ∧ Vals (fun j => ([some (.bool false), some (.bool true), some (.bool true), some (wv s), some (.int .u64 (q : Nat)), some (wv q), some (.bool true), some (.bool true), some (.bool true)] : List (Option Value)).getD j none) L V ∧ (R4 w g1 g2 g3 g4 a n m s W)) ?_ ⟨?_, ?_, ?_, ?_, ?_, ?_, ?_, ?_, ?_, trivial⟩ ?_
      · refine ⟨fun j => a0.tmps.getD (([58, 59, 60, 61, 62, 63, 64, 65, 6] : List Nat).getD j 0) undef, ?_, Vals.no _ _ _ (far_none _ _ rfl), HX8.out.ext ((Ext.refl _).drew)⟩
        rw [HFR.out, ha0]
        rfl
      all_goals clear ha0
      · rintro L A W K hL hC hW ⟨V, rfl, HV, s0⟩ hK
        have H := Lib.hid (show ∀ W', Ext W W' → K (fr (upd V 0 (.bool false))) W' from fun W' he => hK _ _ ⟨upd V 0 (.bool false), rfl, HV.up 0 _ (fun x hx => Option.some.inj hx), R4.ext s0 he⟩)
        clear hK hC hW hL HV s0
        rw [HFR.out]
        go_wp2_with fail
        show K _ _
        have := H.out _ (Ext.refl _)
        rw [HFR.out] at this
        exact this
      · rintro L A W K hL hC hW ⟨V, rfl, HV, s0⟩ hK
        have e0 : V 0 = .bool false := HV 0 _ rfl (hW 0 rfl)
        have H := Lib.hid (show ∀ W', Ext W W' → K (fr (upd V 1 (.bool true))) W' from fun W' he => hK _ _ ⟨upd V 1 (.bool true), rfl, HV.up 1 _ (fun x hx => Option.some.inj hx), R4.ext s0 he⟩)
        have HU := Lib.hid (show (upd V 1 (.bool true)) 0 = .bool false from e0)
        clear hK hC hW hL HV s0
        rw [HFR.out]
        rw [e0]
        clear e0
        go_wp2_with fail
        show K _ _
        have := H.out _ (Ext.refl _)
        rw [HFR.out] at this
        obtain u0 := HU.out
        rw [u0] at this
        exact this
      · rintro L A W K hL hC hW ⟨V, rfl, HV, s0⟩ hK
        have e1 : V 1 = .bool true := HV 1 _ rfl (hW 1 rfl)
        have H := Lib.hid (show ∀ W', Ext W W' → K (fr (upd V 2 (.bool true))) W' from fun W' he => hK _ _ ⟨upd V 2 (.bool true), rfl, HV.up 2 _ (fun x hx => Option.some.inj hx), R4.ext s0 he⟩)
        have HU := Lib.hid (show (upd V 2 (.bool true)) 1 = .bool true from e1)
        clear hK hC hW hL HV s0
        rw [HFR.out]
        rw [e1]
        clear e1
        go_wp2_with fail
        show K _ _
        have := H.out _ (Ext.refl _)
        rw [HFR.out] at this
        obtain u1 := HU.out
        rw [u1] at this
        exact this
      · rintro L A W K hL hC hW ⟨V, rfl, HV, s0⟩ hK
        have e2 : V 2 = .bool true := HV 2 _ rfl (hW 2 rfl)
        have hB := s0
        have H := Lib.hid (show ∀ W', Ext W W' → K (fr (upd V 3 (wv s))) W' from fun W' he => hK _ _ ⟨upd V 3 (wv s), rfl, HV.up 3 _ (fun x hx => Option.some.inj hx), R4.ext s0 he⟩)
        have HU := Lib.hid (show (upd V 3 (wv s)) 2 = .bool true from e2)
        clear hK hC hW hL HV s0
        rw [HFR.out]
        rw [e2]
        clear e2
        have k1 := hB.2.2.2.1
        clear hB
        go_wp2_with ((with_reducible refine wpList_load_wordG ?_ 36 24 (.tmp 10) rfl Tryd.underlying36 winfo g4 s ?_ ?_ ?_); (exact rfl); (exact rfl); (exact k1))
        show K _ _
        have := H.out _ (Ext.refl _)
        rw [HFR.out] at this
        obtain u2 := HU.out
        rw [u2] at this
        exact this
      · rintro L A W K hL hC hW ⟨V, rfl, HV, s0⟩ hK
        have e2 : V 2 = .bool true := HV 2 _ rfl (hW 2 rfl)
        have H := Lib.hid (show ∀ W', Ext W W' → K (fr (upd V 4 (.int .u64 (q : Nat)))) W' from fun W' he => hK _ _ ⟨upd V 4 (.int .u64 (q : Nat)), rfl, HV.up 4 _ (fun x hx => Option.some.inj hx), R4.ext s0 he⟩)
        have HU := Lib.hid (show (upd V 4 (.int .u64 (q : Nat))) 2 = .bool true from e2)
        clear hK hC hW hL HV s0
        rw [HFR.out]
        rw [e2]
        clear e2
        go_wp2_with fail
        show K _ _
        have := H.out _ (Ext.refl _)
        rw [HFR.out] at this
        obtain u2 := HU.out
        rw [u2] at this
        exact this
      · rintro L A W K hL hC hW ⟨V, rfl, HV, s0⟩ hK
        have e2 : V 2 = .bool true := HV 2 _ rfl (hW 2 rfl)
        have e4 : V 4 = .int .u64 (q : Nat) := HV 4 _ rfl (hW 4 rfl)
        have hB := s0
        have H := Lib.hid (show ∀ W', Ext W W' → K (fr (upd V 5 (wv q))) W' from fun W' he => hK _ _ ⟨upd V 5 (wv q), rfl, HV.up 5 _ (fun x hx => Option.some.inj hx), R4.ext s0 he⟩)
        have HU := Lib.hid (show (upd V 5 (wv q)) 2 = .bool true ∧ (upd V 5 (wv q)) 4 = .int .u64 (q : Nat) from ⟨e2, e4⟩)
        clear hK hC hW hL HV s0
        rw [HFR.out]
        rw [e2, e4]
        clear e2 e4
        clear hB
        go_wp2_with fail
        refine (of_any q _ rfl _ HE6.out).mono ?_
        rintro e wx ⟨rfl, he⟩
        have := H.out _ he
        clear H
        go_wp2_with fail
        show K _ _
        rw [HFR.out] at this
        obtain ⟨u2, u4⟩ := HU.out
        rw [u2, u4] at this
        exact this
      · rintro L A W K hL hC hW ⟨V, rfl, HV, s0⟩ hK
        have e2 : V 2 = .bool true := HV 2 _ rfl (hW 2 rfl)
        have e3 : V 3 = wv s := HV 3 _ rfl (hW 3 rfl)
        have e5 : V 5 = wv q := HV 5 _ rfl (hW 5 rfl)
        have hB := s0
        have H := Lib.hid (show ∀ W', Ext W W' → K (fr (upd V 6 (.bool true))) W' from fun W' he => hK _ _ ⟨upd V 6 (.bool true), rfl, HV.up 6 _ (fun x hx => Option.some.inj hx), R4.ext s0 he⟩)
        have HU := Lib.hid (show (upd V 6 (.bool true)) 2 = .bool true ∧ (upd V 6 (.bool true)) 3 = wv s ∧ (upd V 6 (.bool true)) 5 = wv q from ⟨e2, e3, e5⟩)
        clear hK hC hW hL HV s0
        rw [HFR.out]
        rw [e2, e3, e5]
        clear e2 e3 e5
        clear hB
        go_wp2_with ((with_reducible refine wpList_eql_word ?_ (.tmp 61) (.tmp 63) ?_ s q HS.out HEM.out ?_ ?_ ?_); (exact rfl); (exact rfl); (exact rfl); (exact rfl))
        rw [HSE.out]
        show K _ _
        have := H.out _ (Ext.refl _)
        rw [HFR.out] at this
        obtain ⟨u2, u3, u5⟩ := HU.out
        rw [u2, u3, u5] at this
        exact this
      · rintro L A W K hL hC hW ⟨V, rfl, HV, s0⟩ hK
        have e2 : V 2 = .bool true := HV 2 _ rfl (hW 2 rfl)
        have e6 : V 6 = .bool true := HV 6 _ rfl (hW 6 rfl)
        have H := Lib.hid (show ∀ W', Ext W W' → K (fr (upd V 7 (.bool true))) W' from fun W' he => hK _ _ ⟨upd V 7 (.bool true), rfl, HV.up 7 _ (fun x hx => Option.some.inj hx), R4.ext s0 he⟩)
        have HU := Lib.hid (show (upd V 7 (.bool true)) 2 = .bool true ∧ (upd V 7 (.bool true)) 6 = .bool true from ⟨e2, e6⟩)
        clear hK hC hW hL HV s0
        rw [HFR.out]
        rw [e2, e6]
        clear e2 e6
        go_wp2_with fail
        show K _ _
        have := H.out _ (Ext.refl _)
        rw [HFR.out] at this
        obtain ⟨u2, u6⟩ := HU.out
        rw [u2, u6] at this
        exact this
      · rintro L A W K hL hC hW ⟨V, rfl, HV, s0⟩ hK
        have e7 : V 7 = .bool true := HV 7 _ rfl (hW 7 rfl)
        have H := Lib.hid (show ∀ W', Ext W W' → K (fr (upd V 8 (.bool true))) W' from fun W' he => hK _ _ ⟨upd V 8 (.bool true), rfl, HV.up 8 _ (fun x hx => Option.some.inj hx), R4.ext s0 he⟩)
        have HU := Lib.hid (show (upd V 8 (.bool true)) 7 = .bool true from e7)
        clear hK hC hW hL HV s0
        rw [HFR.out]
        rw [e7]
        clear e7
        go_wp2_with fail
        show K _ _
        have := H.out _ (Ext.refl _)
        rw [HFR.out] at this
        obtain u7 := HU.out
        rw [u7] at this
        exact this
      · rintro L A W hL ⟨V, rfl, HV, s0⟩
        have e0 : V 0 = .bool false := HV 0 _ rfl (hL 0 (by simp))
        have e1 : V 1 = .bool true := HV 1 _ rfl (hL 1 (by simp))
        have e2 : V 2 = .bool true := HV 2 _ rfl (hL 2 (by simp))
        have e3 : V 3 = wv s := HV 3 _ rfl (hL 3 (by simp))
        have e4 : V 4 = .int .u64 (q : Nat) := HV 4 _ rfl (hL 4 (by simp))
        have e5 : V 5 = wv q := HV 5 _ rfl (hL 5 (by simp))
        have e6 : V 6 = .bool true := HV 6 _ rfl (hL 6 (by simp))
        have e7 : V 7 = .bool true := HV 7 _ rfl (hL 7 (by simp))
        have e8 : V 8 = .bool true := HV 8 _ rfl (hL 8 (by simp))
        have hA := s0
        rw [HFR.out]
        rw [e0, e1, e2, e3, e4, e5, e6, e7, e8]
        clear hL HV HFR e0 e1 e2 e3 e4 e5 e6 e7 e8 s0
        go_wp2
        go_ret
        exact ⟨rfl, hA.2.2.2.2⟩
set_option maxRecDepth 100000 in
theorem reaches_told (W : World) (args : Array Value) (h : Told Tryd.f10 W args) (ht : Tb W) : Calls Tryd.prog 10 args W (RetT W) := by
  obtain ⟨H, enc, base, ds, p, hval, hA⟩ := h
  rw [Tryd.params10] at hA hval
  obtain ⟨v0, v1, v2, d0, d1, d2, p0, p1, p2, ha, rfl, rfl, h0, h1, h2⟩ := trodAll_three hA
  obtain rfl : args = #[v0, v1, v2] := by apply Array.toList_inj.1; rw [ha]
  obtain ⟨a, hx, rfl⟩ := word_came (hval 0 _ _ rfl rfl) h0
  obtain ⟨n, hn, rfl⟩ := word_came (hval 1 _ _ rfl rfl) h1
  obtain ⟨m, hm, rfl⟩ := word_came (hval 2 _ _ rfl rfl) h2
  exact reaches_any a n m W ht hx hn hm
set_option maxRecDepth 100000 in
theorem reaches_spec (H : Type) : ∀ ds : List (DataW H), ds.length = Tryd.f10.params.toList.length → Rows.gasReachesSpec.fn H ds = { results := [.lit (.bool true)], args := ds }
  | [_, _, _], _ => rfl
  | [], h | [_], h | [_, _], h | _ :: _ :: _ :: _ :: _, h => by rw [Tryd.params10] at h; simp at h

set_option maxRecDepth 100000 in
theorem gasReaches_holds : Rows.GasReachesSaid :=
  OpenClaim.holds_of_wide 10 Tryd.f10 rfl rfl rfl rfl rfl rfl rfl ⟨rfl, rfl, rfl, rfl, rfl⟩ rfl rfl rfl rfl rfl (by kernel_rfl) Tryd.func10 (by kernel_rfl)
    (of_decide_eq_true (by kernel_rfl)) (by unfold Func.isWrapper; first | (rw [if_pos (by decide +kernel)]; kernel_rfl) | (rw [if_neg (by decide +kernel)]; exact ⟨rfl, rfl⟩))
    (fun os started H enc _ => law_lifted_t started (by kernel_rfl) Tryd.func10 rfl rfl (reaches_spec H) (of_decide_eq_true (by kernel_rfl))
      (ChangeSpec.witness_shaped (enc := enc) (C := Tryd.checked) (os := os) (X := fun w _ => laidMetH Tryd.prog laidS w) false (World.doorLaid Tryd.prog 400 os) #[.agg #[.int .u64 0, .int .u64 0, .int .u64 0, .int .u64 0], .agg #[.int .u64 0, .int .u64 0, .int .u64 0, .int .u64 0], .agg #[.int .u64 0, .int .u64 0, .int .u64 0, .int .u64 0]] 8 rfl (World.shaped_of_RefB (by kernel_rfl) (by kernel_rfl)) (by kernel_rfl) (by kernel_rfl) (by kernel_rfl) (door_met os _)) reaches_told)

set_option maxRecDepth 100000 in
theorem gasReaches_card : Rows.GasReachesCardSaid :=
  Claim7.holds_tied_plain_at .later [] [.data, .data, .data, .wider, .data] true (true, "1db432f97302d9ccf523489c3c5a307203f9cae2718eace3ef5e825b493cdc87") false
    gasReaches_holds (fun _ h => by cases h) (by kernel_rfl) (fun _ h => by cases h) gasReaches_row_tie rfl ⟨rfl, rfl⟩ (by kernel_rfl) rfl
    (fun f fn hf hfn => by
      obtain rfl : f = 10 := Option.some.inj ((show Tryd.prog.funcNamed "sheafer/sheaferlaw12.GasReaches" = some 10 by kernel_rfl).symm.trans hf) |>.symm
      obtain rfl : fn = Tryd.f10 := (Option.some.inj (Tryd.func10.symm.trans hfn)).symm
      exact ⟨by kernel_rfl, fun j t ht => by
        rw [Tryd.params10] at ht
        have hm : t ∈ [36, 36, 36] := by simpa using Array.mem_of_getElem? ht
        have hall : ([36, 36, 36].all fun u => !Tryd.prog.wantsStandIn u) = true := by kernel_rfl
        exact (show Tryd.prog.wantsStandIn t = false by simpa using List.all_eq_true.1 hall t hm)⟩)
    (by kernel_rfl)
end Go.Proofs.YtjefbfabigkeiaaDoor
