/- Package nonce: compare; which nonces may be. -/
import Derived.Test.YtnjpdchmdimaaaaGreatQNob
namespace Go.Proofs.YtnjpdchmdimaaaaGreat
open Go.ChangeShapes Go.WideShapes Go.ChangeAt Go.RowKit Go.Shelf

set_option maxRecDepth 100000 in
set_option maxHeartbeats 2000000 in
theorem isNaNA_any (x : Nat) (w : World) : Calls Tryz.prog 145 #[.int .u64 (x : Nat)] w fun e w' => e = .returned (.bool false) ∧ w = w' := by
 have hd : (((x : Nat) : Int) != (x : Int)) = false := by simp
 go_enter Tryz.func145, Tryz.ntmps145
 go_wp2_with fail
 go_ret
 exact ⟨rfl, rfl⟩
set_option maxRecDepth 100000 in
set_option maxHeartbeats 2000000 in
theorem compareA_any (x y : Nat) (w : World) : Calls Tryz.prog 129 #[.int .u64 (x : Nat), .int .u64 (y : Nat)] w fun e w' => e = .returned (.int .i64 (cmpN x y)) ∧ w = w' := by
 go_enter Tryz.func129, Tryz.ntmps129
 go_wp2_with fail
 refine (isNaNA_any x _).mono ?_
 rintro e w2 ⟨rfl, rfl⟩
 go_wp2_with fail
 refine (isNaNA_any y _).mono ?_
 rintro e w3 ⟨rfl, rfl⟩
 have HC : Hid (cmpN x y = if x < y then -1 else if y < x then 1 else 0) := Lib.hid rfl
 by_cases h1 : x < y
 ·have f1 : decide (x < y) = true := decide_eq_true h1
  have f2 : decide ((x : Int) < (y : Int)) = true := decide_eq_true (by omega)
  have H1 := Lib.hid h1
  clear h1
  go_wp2_with fail
  go_ret
  exact ⟨by rw [HC.out, if_pos H1.out]; rfl, rfl⟩
 ·have f1 : decide (x < y) = false := decide_eq_false h1
  have f2 : decide ((x : Int) < (y : Int)) = false := decide_eq_false (by omega)
  have H1 := Lib.hid h1
  clear h1
  by_cases h3 : y < x
  ·have f3 : decide (y < x) = true := decide_eq_true h3
   have f4 : decide ((y : Int) < (x : Int)) = true := decide_eq_true (by omega)
   have H3 := Lib.hid h3
   clear h3
   go_wp2_with fail
   go_ret
   exact ⟨by rw [HC.out, if_neg H1.out, if_pos H3.out]; rfl, rfl⟩
  ·have f3 : decide (y < x) = false := decide_eq_false h3
   have f4 : decide ((y : Int) < (x : Int)) = false := decide_eq_false (by omega)
   have H3 := Lib.hid h3
   clear h3
   go_wp2_with fail
   go_ret
   exact ⟨by rw [HC.out, if_neg H1.out, if_neg H3.out]; rfl, rfl⟩
def In2 (W : World) (v : Value) (x y : Int) : Prop := ∃ g, v = .slice (some ⟨g, 0, none⟩) 2 2 ∧ Cs W g 3 #[.int .i64 x, .int .i64 y]
theorem In2.ext {W W' : World} {v : Value} {x y : Int} (h : In2 W v x y) (he : Ext W W') : In2 W' v x y := by
 obtain ⟨g, e, hc⟩ := h
 exact ⟨g, e, Cs.ext hc he⟩
def orC (x y : Int) : Int := if x = 0 then y else x
set_option maxRecDepth 100000 in
set_option maxHeartbeats 2000000 in
theorem or_any2 (g : Nat) (x y : Int) (w : World) (hg : Cs w g 3 #[.int .i64 x, .int .i64 y]) : Calls Tryz.prog 128 #[.slice (some ⟨g, 0, none⟩) 2 2] w fun e w' => e = .returned (.int .i64 (orC x y)) ∧ Ext w w' := by
 have HG := Lib.hid hg
 have HO : Hid (orC x y = if x = 0 then y else x) := Lib.hid rfl
 clear hg
 go_enter Tryz.func128, Tryz.ntmps128
 go_wp2_with fail
 go_loopw [8] (fun iv wr => ∃ k : Nat, k ≤ 2 ∧ iv = .int .i64 k ∧ (0 < k → x = 0) ∧ (1 < k → y = 0) ∧ Hid (Ext w wr)) (fun iv _ => 2 - (intOf iv).toNat)
 case atStart => exact ⟨0, by omega, rfl, fun h => absurd h (by omega), fun h => absurd h (by omega), Lib.hid (Ext.refl _)⟩
 case round =>
  obtain ⟨k, hk, rfl, h0, h1, HX0⟩ := hrel
  have H0 := Lib.hid h0
  have H1 := Lib.hid h1
  clear h0 h1
  have q0 := (Cs.ext HG.out HX0.out).cell 0 _ rfl
  have q1 := (Cs.ext HG.out HX0.out).cell 1 _ rfl
  match k, hk with
  | 0, _ =>
   clear q1
   by_cases hx : x = 0
   ·have hd : (x != 0) = false := by simp [hx]
    have HX := Lib.hid hx
    clear hx
    go_wp2_with fail
    exact ⟨⟨1, by omega, rfl, fun _ => HX.out, fun h => absurd h (by omega), HX0⟩, by simp [intOf]⟩
   ·have hd : (x != 0) = true := by simpa using hx
    have HX := Lib.hid hx
    clear hx
    go_wp2_with fail
    refine bodyPost_ret (results_tmp rfl _ _ _) rfl ?_
    exact ⟨by rw [HO.out, if_neg HX.out]; rfl, HX0.out⟩
  | 1, _ =>
   clear q0
   have HX := Lib.hid (H0.out (by omega))
   by_cases hx : y = 0
   ·have hd : (y != 0) = false := by simp [hx]
    have HY := Lib.hid hx
    clear hx
    go_wp2_with fail
    exact ⟨⟨2, by omega, rfl, fun _ => HX.out, fun _ => HY.out, HX0⟩, by simp [intOf]⟩
   ·have hd : (y != 0) = true := by simpa using hx
    clear hx
    go_wp2_with fail
    refine bodyPost_ret (results_tmp rfl _ _ _) rfl ?_
    exact ⟨by rw [HO.out, if_pos HX.out]; rfl, HX0.out⟩
  | 2, _ =>
   clear q0 q1
   have HX := Lib.hid (H0.out (by omega))
   have HY := Lib.hid (H1.out (by omega))
   go_wp2_with fail
   refine bodyPost_ret (results_tmp rfl _ _ _) rfl ?_
   exact ⟨by rw [HO.out, if_pos HX.out, HY.out]; rfl, HX0.out⟩
def CmJ (w : World) (g2 g3 a k b j : Nat) (W : World) : Prop := Kb W g2 a k ∧ Kb W g3 b j ∧ Ext w W
theorem CmJ.ext {w : World} {g2 g3 a k b j : Nat} {W W' : World} (h : CmJ w g2 g3 a k b j W) (he : Ext W W') : CmJ w g2 g3 a k b j W' := ⟨h.1.ext he, h.2.1.ext he, h.2.2.trans he⟩
theorem orC_cod {a k b j : Nat} (hk : k < M256) (hj : j < M256) : orC (cmpN a b) (cmpN k j) = cmpN (cdN a k) (cdN b j) := by
 unfold orC cmpN
 have h1 := cdN_lt (a := a) (b := b) hk hj
 have h2 := cdN_lt (a := b) (b := a) hj hk
 repeat' split
 all_goals first | rfl | omega
set_option maxRecDepth 100000 in
set_option maxHeartbeats 2000000 in
theorem compareK_any (a k b m : Nat) (w : World) (hk : k < M256) (hj : m < M256) : Calls Tryz.prog 94 #[.agg (okc a k), .agg (okc b m)] w fun e w' => e = .returned (.int .i64 (cmpN (cdN a k) (cdN b m))) ∧ Ext w w' := by
 have HKK := Lib.hid hk
 have HKJ := Lib.hid hj
 rw [← orC_cod hk hj]
 clear hk hj
 obtain ⟨w1, hw1⟩ : ∃ w1, (w.alloc (.cells (okc a k) 146)).alloc (.cells (okc b m) 146) = w1 := ⟨_, rfl⟩
 have HW1 := Lib.hid hw1
 have HJ : Hid (CmJ w w.heap.size (w.heap.size + 1) a k b m w1) := Lib.hid (by
  rw [← hw1]
  exact ⟨Cs.alloc (Cs.new _ _ _ _ rfl) _, Cs.new _ _ _ _ (by simp), ((Ext.refl w).alloc _).alloc _⟩)
 clear hw1
 obtain ⟨c1, hc1⟩ : ∃ c, okc a k = c := ⟨_, rfl⟩
 obtain ⟨c2, hc2⟩ : ∃ c, okc b m = c := ⟨_, rfl⟩
 rw [hc1, hc2] at HW1
 rw [hc1, hc2]
 clear hc1 hc2
 go_enter Tryz.func94, Tryz.ntmps94
 go_upto_region 1 with fail
 rw [HW1.out]
 clear HW1
 obtain ⟨g3, hg3⟩ : ∃ g, w.heap.size + 1 = g := ⟨_, rfl⟩
 rw [hg3] at HJ ⊢
 clear hg3
 obtain ⟨g2, hg2⟩ : ∃ g, w.heap.size = g := ⟨_, rfl⟩
 rw [hg2] at HJ ⊢
 clear hg2
 refine wp_named fun a0 ha0 => ?_
 obtain ⟨fr, hfr⟩ : ∃ fr : (Nat → Value) → Act, ∀ V, fr V = (((((((((((((a0.put (some 5) (V 0)).put (some 6) (V 1)).put (some 7) (V 2)).put (some 8) (V 3)).put (some 9) (V 4)).put (some 10) (V 5)).put (some 11) (V 6)).put (some 12) (V 7)).put (some 13) (V 8)).put (some 14) (V 9)).put (some 15) (V 10)).put (some 16) (V 11)).put (some 4) (V 12)) := ⟨_, fun _ => rfl⟩
 rw [ha0] at hfr
 simp only [Act.put, List.setIfInBounds_toArray, List.set_cons_zero, List.set_cons_succ] at hfr
 have HFR := Lib.hid hfr
 clear hfr
 refine wp_region_inv (by kernel_rfl) (by kernel_rfl) (fun L A W => ∃ V : Nat → Value, A = fr V ∧ Vals (fun j => ([some (.pointer (some ⟨g2, 0, none⟩)), some (.int .u64 (a : Nat)), some (.pointer (some ⟨g3, 0, none⟩)), some (.int .u64 (b : Nat)), some (.int .i64 (cmpN a b)), some (.pointer (some ⟨g2, 1, none⟩)), some (wv k), some (.pointer (some ⟨g3, 1, none⟩)), some (wv m), some (.int .i64 (cmpN k m)), none, some (.int .i64 (orC (cmpN a b) (cmpN k m))), some (.int .i64 (orC (cmpN a b) (cmpN k m)))] : List (Option Value)).getD j none) L V ∧ (CmJ w g2 g3 a k b m W) ∧ (L 10 = true → In2 W (V 10) (cmpN a b) (cmpN k m))) ?_ ⟨?_, ?_, ?_, ?_, ?_, ?_, ?_, ?_, ?_, ?_, ?_, ?_, ?_, trivial⟩ ?_
 ·refine ⟨fun j => a0.tmps.getD (([5, 6, 7, 8, 9, 10, 11, 12, 13, 14, 15, 16, 4] : List Nat).getD j 0) undef, ?_, Vals.no _ _ _ (far_none _ _ rfl), HJ.out.ext ((Ext.refl _).drew), fun h0 => absurd h0 (by decide)⟩
  rw [HFR.out, ha0]
  rfl
 all_goals clear ha0
 ·rintro L A W K hL hC hW ⟨V, rfl, HV, s0, f10⟩ hK
  have H := Lib.hid (show ∀ W', Ext W W' → K (fr (upd V 0 (.pointer (some ⟨g2, 0, none⟩)))) W' from fun W' he => hK _ _ ⟨_, rfl, HV.us 0 _ rfl, CmJ.ext s0 he, fun h0 => In2.ext (f10 (more_ne h0 rfl)) he⟩)
  clear hK hC hW hL HV s0 f10
  rw [HFR.out]
  go_wp2_with fail
  show K _ _; have := H.out _ (Ext.refl _); rw [HFR.out] at this
  exact this
 ·rintro L A W K hL hC hW ⟨V, rfl, HV, s0, f10⟩ hK
  have e0 := HV 0 _ rfl (hW 0 rfl)
  have hB := s0
  have H := Lib.hid (show ∀ W', Ext W W' → K (fr (upd V 1 (.int .u64 (a : Nat)))) W' from fun W' he => hK _ _ ⟨_, rfl, HV.us 1 _ rfl, CmJ.ext s0 he, fun h0 => mtf (hC.no (hC.no hL 4 _ rfl rfl) 10 _ rfl rfl) (more_ne h0 rfl)⟩)
  have HU := Lib.hid (show (upd V 1 (.int .u64 (a : Nat))) 0 = .pointer (some ⟨g2, 0, none⟩) from e0)
  clear hK hC hW hL HV s0 f10
  rw [HFR.out, e0]
  clear e0
  have qq := hB.1.addr
  clear hB
  go_wp2_with fail
  show K _ _; have := H.out _ (Ext.refl _); rw [HFR.out] at this
  obtain u0 := HU.out
  rw [u0] at this
  exact this
 ·rintro L A W K hL hC hW ⟨V, rfl, HV, s0, f10⟩ hK
  have H := Lib.hid (show ∀ W', Ext W W' → K (fr (upd V 2 (.pointer (some ⟨g3, 0, none⟩)))) W' from fun W' he => hK _ _ ⟨_, rfl, HV.us 2 _ rfl, CmJ.ext s0 he, fun h0 => In2.ext (f10 (more_ne h0 rfl)) he⟩)
  clear hK hC hW hL HV s0 f10
  rw [HFR.out]
  go_wp2_with fail
  show K _ _; have := H.out _ (Ext.refl _); rw [HFR.out] at this
  exact this
 ·rintro L A W K hL hC hW ⟨V, rfl, HV, s0, f10⟩ hK
  have e2 := HV 2 _ rfl (hW 2 rfl)
  have hB := s0
  have H := Lib.hid (show ∀ W', Ext W W' → K (fr (upd V 3 (.int .u64 (b : Nat)))) W' from fun W' he => hK _ _ ⟨_, rfl, HV.us 3 _ rfl, CmJ.ext s0 he, fun h0 => In2.ext (f10 (more_ne h0 rfl)) he⟩)
  have HU := Lib.hid (show (upd V 3 (.int .u64 (b : Nat))) 2 = .pointer (some ⟨g3, 0, none⟩) from e2)
  clear hK hC hW hL HV s0 f10
  rw [HFR.out, e2]
  clear e2
  have qq := hB.2.1.addr
  clear hB
  go_wp2_with fail
  show K _ _; have := H.out _ (Ext.refl _); rw [HFR.out] at this
  obtain u2 := HU.out
  rw [u2] at this
  exact this
 ·rintro L A W K hL hC hW ⟨V, rfl, HV, s0, f10⟩ hK
  have e1 := HV 1 _ rfl (hW 1 rfl)
  have e3 := HV 3 _ rfl (hW 3 rfl)
  have hB := s0
  have H := Lib.hid (show ∀ W', Ext W W' → K (fr (upd V 4 (.int .i64 (cmpN a b)))) W' from fun W' he => hK _ _ ⟨_, rfl, HV.us 4 _ rfl, CmJ.ext s0 he, fun h0 => In2.ext (f10 (more_ne h0 rfl)) he⟩)
  have HU := Lib.hid (show (upd V 4 (.int .i64 (cmpN a b))) 1 = .int .u64 (a : Nat) ∧ (upd V 4 (.int .i64 (cmpN a b))) 3 = .int .u64 (b : Nat) from ⟨e1, e3⟩)
  clear hK hC hW hL HV s0 f10
  rw [HFR.out, e1, e3]
  clear e1 e3
  clear hB
  go_wp2_with fail
  refine (compareA_any a b _).mono ?_
  rintro e wx ⟨rfl, rfl⟩
  have := H.out _ (Ext.refl _)
  clear H
  go_wp2_with fail
  show K _ _
  rw [HFR.out] at this
  obtain ⟨u1, u3⟩ := HU.out
  rw [u1, u3] at this
  exact this
 ·rintro L A W K hL hC hW ⟨V, rfl, HV, s0, f10⟩ hK
  have H := Lib.hid (show ∀ W', Ext W W' → K (fr (upd V 5 (.pointer (some ⟨g2, 1, none⟩)))) W' from fun W' he => hK _ _ ⟨_, rfl, HV.us 5 _ rfl, CmJ.ext s0 he, fun h0 => In2.ext (f10 (more_ne h0 rfl)) he⟩)
  clear hK hC hW hL HV s0 f10
  rw [HFR.out]
  go_wp2_with fail
  show K _ _; have := H.out _ (Ext.refl _); rw [HFR.out] at this
  exact this
 ·rintro L A W K hL hC hW ⟨V, rfl, HV, s0, f10⟩ hK
  have e5 := HV 5 _ rfl (hW 5 rfl)
  have hB := s0
  have H := Lib.hid (show ∀ W', Ext W W' → K (fr (upd V 6 (wv k))) W' from fun W' he => hK _ _ ⟨_, rfl, HV.us 6 _ rfl, CmJ.ext s0 he, fun h0 => In2.ext (f10 (more_ne h0 rfl)) he⟩)
  have HU := Lib.hid (show (upd V 6 (wv k)) 5 = .pointer (some ⟨g2, 1, none⟩) from e5)
  clear hK hC hW hL HV s0 f10
  rw [HFR.out, e5]
  clear e5
  have HWW := Lib.hid hB.1.key
  clear hB
  refine wpList_load_wordIn rfl (.tmp 10) rfl g2 1 k rfl HWW.out ?_
  show K _ _; have := H.out _ (Ext.refl _); rw [HFR.out] at this
  obtain u5 := HU.out
  rw [u5] at this
  exact this
 ·rintro L A W K hL hC hW ⟨V, rfl, HV, s0, f10⟩ hK
  have H := Lib.hid (show ∀ W', Ext W W' → K (fr (upd V 7 (.pointer (some ⟨g3, 1, none⟩)))) W' from fun W' he => hK _ _ ⟨_, rfl, HV.us 7 _ rfl, CmJ.ext s0 he, fun h0 => In2.ext (f10 (more_ne h0 rfl)) he⟩)
  clear hK hC hW hL HV s0 f10
  rw [HFR.out]
  go_wp2_with fail
  show K _ _; have := H.out _ (Ext.refl _); rw [HFR.out] at this
  exact this
 ·rintro L A W K hL hC hW ⟨V, rfl, HV, s0, f10⟩ hK
  have e7 := HV 7 _ rfl (hW 7 rfl)
  have hB := s0
  have H := Lib.hid (show ∀ W', Ext W W' → K (fr (upd V 8 (wv m))) W' from fun W' he => hK _ _ ⟨_, rfl, HV.us 8 _ rfl, CmJ.ext s0 he, fun h0 => In2.ext (f10 (more_ne h0 rfl)) he⟩)
  have HU := Lib.hid (show (upd V 8 (wv m)) 7 = .pointer (some ⟨g3, 1, none⟩) from e7)
  clear hK hC hW hL HV s0 f10
  rw [HFR.out, e7]
  clear e7
  have HWW := Lib.hid hB.2.1.key
  clear hB
  refine wpList_load_wordIn rfl (.tmp 12) rfl g3 1 m rfl HWW.out ?_
  show K _ _; have := H.out _ (Ext.refl _); rw [HFR.out] at this
  obtain u7 := HU.out
  rw [u7] at this
  exact this
 ·rintro L A W K hL hC hW ⟨V, rfl, HV, s0, f10⟩ hK
  have e6 := HV 6 _ rfl (hW 6 rfl)
  have e8 := HV 8 _ rfl (hW 8 rfl)
  have hB := s0
  have H := Lib.hid (show ∀ W', Ext W W' → K (fr (upd V 9 (.int .i64 (cmpN k m)))) W' from fun W' he => hK _ _ ⟨_, rfl, HV.us 9 _ rfl, CmJ.ext s0 he, fun h0 => In2.ext (f10 (more_ne h0 rfl)) he⟩)
  have HU := Lib.hid (show (upd V 9 (.int .i64 (cmpN k m))) 6 = wv k ∧ (upd V 9 (.int .i64 (cmpN k m))) 8 = wv m from ⟨e6, e8⟩)
  clear hK hC hW hL HV s0 f10
  rw [HFR.out, e6, e8]
  clear e6 e8
  clear hB
  go_wp2_with fail
  refine (cmp_any k m _ HKK.out HKJ.out).mono ?_
  rintro e wx ⟨rfl, he⟩
  have := H.out _ he
  clear H
  go_wp2_with fail
  show K _ _
  rw [HFR.out] at this
  obtain ⟨u6, u8⟩ := HU.out
  rw [u6, u8] at this
  exact this
 ·rintro L A W K hL hC hW ⟨V, rfl, HV, s0, f10⟩ hK
  have e4 := HV 4 _ rfl (hW 4 rfl)
  have e9 := HV 9 _ rfl (hW 9 rfl)
  have H := Lib.hid (show ∀ v W', Ext W W' → (In2 W' v (cmpN a b) (cmpN k m)) → K (fr (upd V 10 v)) W' from fun v W' he hp => hK _ _ ⟨_, rfl, HV.un 10 _ rfl, CmJ.ext s0 he, fun h0 => hp⟩)
  have HU := Lib.hid (show ∀ v, (upd V 10 v) 4 = .int .i64 (cmpN a b) ∧ (upd V 10 v) 9 = .int .i64 (cmpN k m) from fun v => ⟨e4, e9⟩)
  clear hK hC hW hL HV s0 f10
  rw [HFR.out, e4, e9]
  clear e4 e9
  go_wp2_with fail
  show K _ _; have := H.out (.slice (some ⟨W.heap.size, 0, none⟩) 2 2) _ ((Ext.refl W).alloc (.cells #[.int .i64 (cmpN a b), .int .i64 (cmpN k m)] 3)) (⟨_, rfl, Cs.new _ _ _ _ rfl⟩); rw [HFR.out] at this
  obtain ⟨u4, u9⟩ := HU.out _
  rw [u4, u9] at this
  exact this
 ·rintro L A W K hL hC hW ⟨V, rfl, HV, s0, f10⟩ hK
  have hB := s0
  have q10 := f10 (hW 10 rfl)
  obtain ⟨g10, e10, z10⟩ := q10
  have H := Lib.hid (show ∀ W', Ext W W' → K (fr (upd V 11 (.int .i64 (orC (cmpN a b) (cmpN k m))))) W' from fun W' he => hK _ _ ⟨_, rfl, HV.us 11 _ rfl, CmJ.ext s0 he, fun h0 => In2.ext (f10 (more_ne h0 rfl)) he⟩)
  have HU := Lib.hid (show (upd V 11 (.int .i64 (orC (cmpN a b) (cmpN k m)))) 10 = .slice (some ⟨g10, 0, none⟩) 2 2 from e10)
  clear hK hC hW hL HV s0 f10
  rw [HFR.out, e10]
  clear e10
  clear hB
  go_wp2_with fail
  refine (or_any2 g10 (cmpN a b) (cmpN k m) _ z10).mono ?_
  rintro e wx ⟨rfl, he⟩
  have := H.out _ he
  clear H
  go_wp2_with fail
  show K _ _
  rw [HFR.out] at this
  obtain u10 := HU.out
  rw [u10] at this
  exact this
 ·rintro L A W K hL hC hW ⟨V, rfl, HV, s0, f10⟩ hK
  have e11 := HV 11 _ rfl (hW 11 rfl)
  have H := Lib.hid (show ∀ W', Ext W W' → K (fr (upd V 12 (.int .i64 (orC (cmpN a b) (cmpN k m))))) W' from fun W' he => hK _ _ ⟨_, rfl, HV.us 12 _ rfl, CmJ.ext s0 he, fun h0 => In2.ext (f10 (more_ne h0 rfl)) he⟩)
  have HU := Lib.hid (show (upd V 12 (.int .i64 (orC (cmpN a b) (cmpN k m)))) 11 = .int .i64 (orC (cmpN a b) (cmpN k m)) from e11)
  clear hK hC hW hL HV s0 f10
  rw [HFR.out, e11]
  clear e11
  go_wp2_with fail
  show K _ _; have := H.out _ (Ext.refl _); rw [HFR.out] at this
  obtain u11 := HU.out
  rw [u11] at this
  exact this
 ·rintro L A W hL ⟨V, rfl, HV, s0, f10⟩
  have e0 := HV 0 _ rfl (hL 0 (by simp))
  have e1 := HV 1 _ rfl (hL 1 (by simp))
  have e2 := HV 2 _ rfl (hL 2 (by simp))
  have e3 := HV 3 _ rfl (hL 3 (by simp))
  have e4 := HV 4 _ rfl (hL 4 (by simp))
  have e5 := HV 5 _ rfl (hL 5 (by simp))
  have e6 := HV 6 _ rfl (hL 6 (by simp))
  have e7 := HV 7 _ rfl (hL 7 (by simp))
  have e8 := HV 8 _ rfl (hL 8 (by simp))
  have e9 := HV 9 _ rfl (hL 9 (by simp))
  have e11 := HV 11 _ rfl (hL 11 (by simp))
  have e12 := HV 12 _ rfl (hL 12 (by simp))
  have hA := s0
  have p15 := f10 (hL 10 (by simp))
  rw [HFR.out, e0, e1, e2, e3, e4, e5, e6, e7, e8, e9, e11, e12]
  clear hL HV HFR e0 e1 e2 e3 e4 e5 e6 e7 e8 e9 e11 e12 s0 f10
  have HAA := Lib.hid hA
  clear hA
  go_wp2_with fail
  refine bodyPost_ret (results_tmp rfl _ _ _) rfl ?_
  exact ⟨rfl, HAA.out.2.2⟩
def rgN (l : List Nn) (i : Nat) : Bool := (l.getD i nz0).mayB && (i == 0 || decide ((l.getD (i - 1) nz0).cod < (l.getD i nz0).cod))
def rightN (l : List Nn) : Bool := decide (l.length ≤ 48) && (List.range l.length).all (rgN l)
def chkN (l : List Nn) : Int := if rightN l then 0 else 180
theorem rightN_long {l : List Nn} (h : ¬ l.length ≤ 48) : rightN l = false := by unfold rightN; rw [decide_eq_false h]; rfl
theorem rightN_row {l : List Nn} (i : Nat) (hi : i < l.length) (h : rgN l i = false) : rightN l = false := by
 unfold rightN
 rw [Bool.and_eq_false_iff]
 refine .inr ?_
 cases hr : (List.range l.length).all (rgN l) with
 | false => rfl
 | true => rw [List.all_eq_true] at hr; have := hr i (List.mem_range.2 hi); rw [h] at this; cases this
theorem rightN_all {l : List Nn} (h1 : l.length ≤ 48) (h : ∀ i, i < l.length → rgN l i = true) : rightN l = true := by
 unfold rightN
 rw [decide_eq_true h1, Bool.true_and, List.all_eq_true]
 intro i hi
 exact h i (List.mem_range.1 hi)
theorem chkN_no {l : List Nn} (h : rightN l = false) : chkN l = 180 := by unfold chkN; rw [h]; rfl
theorem chkN_yes {l : List Nn} (h : rightN l = true) : chkN l = 0 := by unfold chkN; rw [h]; rfl
def NcJ (w : World) (g : Nat) (p : Nn) (W : World) : Prop := Nb6 W g p ∧ Ext w W
theorem NcJ.ext {w : World} {g : Nat} {p : Nn} {W W' : World} (h : NcJ w g p W) (he : Ext W W') : NcJ w g p W' := ⟨h.1.ext he, h.2.trans he⟩
set_option maxRecDepth 100000 in
set_option maxHeartbeats 4000000 in
theorem checkN_any (v : Value) (l : List Nn) (w : World) (hs : Nns w v l) : Calls Tryz.prog 42 #[v] w fun e w' => e = .returned (.int .i64 (chkN l)) ∧ Ext w w' := by
 have HS := Lib.hid hs
 have HOK := Lib.hid hs.oks
 obtain ⟨A1, c, rfl, h1, h2⟩ := hs.len
 unfold maxLen at h2
 clear hs
 go_enter Tryz.func42, Tryz.ntmps42
 by_cases hl : l.length ≤ 48
 ·have hd : decide (48 < l.length) = false := decide_eq_false (by omega)
  have hd2 : decide ((48 : Int) < (l.length : Int)) = false := decide_eq_false (by omega)
  have HL := Lib.hid hl
  go_wp2_with fail
  clear hd hd2
  go_loopw [10] (fun iv wr => ∃ k : Nat, k ≤ l.length ∧ iv = .int .i64 k ∧ Hid ((∀ i, i < k → rgN l i = true) ∧ Ext w wr)) (fun iv _ => l.length - (intOf iv).toNat)
  case atStart => exact ⟨0, by omega, rfl, Lib.hid ⟨fun i hi => absurd hi (by omega), Ext.refl _⟩⟩
  case round =>
   obtain ⟨k, hk, rfl, HJ0⟩ := hrel
   by_cases hlt : k < l.length
   ·have hd : decide (k < l.length) = true := decide_eq_true hlt
    have hd2 : decide ((k : Int) < (l.length : Int)) = true := decide_eq_true (by omega)
    obtain ⟨bb, oo, rfl, hrg, hp⟩ := (HS.out.ext HJ0.out.2).at k hlt
    have HR := Lib.hid hrg
    have HPK := Lib.hid hp.2.1
    have HRG := Lib.hid (show rgN l k = ((l.getD k nz0).mayB && (k == 0 || decide ((l.getD (k - 1) nz0).cod < (l.getD k nz0).cod))) from rfl)
    have HQQ : Hid (∀ j, k = j + 1 → wr.rangeAt bb (oo + j * 6) (nnc (l.getD j nz0)).toList ∧ (l.getD j nz0).key < M256) := Lib.hid (fun j hj => by
     obtain ⟨b', o', e, hr', hp'⟩ := (HS.out.ext HJ0.out.2).at j (by omega)
     cases e
     exact ⟨hr', hp'.2.1⟩)
    clear hrg hp
    have HX := Lib.hid HJ0.out.2
    have HIB := Lib.hid HJ0.out.1
    have HWS := Lib.hid HJ0.out.2.size
    clear HJ0
    obtain ⟨p, hp⟩ : ∃ p, l.getD k nz0 = p := ⟨_, rfl⟩
    rw [hp] at HR HPK HRG
    clear hp
    go_upto_region 6 with (first
     | ((with_reducible refine wpList_load_nn ?_ (.tmp 13) ?_ bb (oo + k * 6) p ?_ ?_ ?_); (exact rfl); (exact rfl); (exact rfl); (exact HR.out))
     | ((with_reducible refine wpList_store_nn ?_ ?_ (.tmp 4) (.tmp 14) ?_ wr.heap.size nz0 p ?_ ?_ ?_ ?_); (exact rfl); (exact rfl); (exact rfl); (exact rfl); (exact rfl); (exact (Cs.new _ _ _ _ rfl)); intro wb kb gb; have KB := Lib.hid kb; have GB := Lib.hid gb; clear kb gb))
    have HXB := Lib.hid (((Ext.refl wr).alloc _).grown GB.out (Nat.le_refl _))
    have HJ : Hid (NcJ wb wr.heap.size p wb) := Lib.hid ⟨KB.out, Ext.refl _⟩
    have HXW := Lib.hid (HX.out.trans HXB.out)
    clear GB KB HWS
    obtain ⟨g4, hg4⟩ : ∃ g, wr.heap.size = g := ⟨_, rfl⟩
    rw [hg4] at HJ ⊢
    clear hg4
    cases hmb : p.mayB with
    | false =>
     have HMB := Lib.hid hmb
     have HF := Lib.hid (rightN_row k hlt (by rw [HRG.out, hmb]; rfl))
     clear hmb
     refine wp_named fun a0 ha0 => ?_
     obtain ⟨fr, hfr⟩ : ∃ fr : (Nat → Value) → Act, ∀ V, fr V = (((((((((((((((((((a0.put (some 15) (V 0)).put (some 16) (V 1)).put (some 17) (V 2)).put (some 18) (V 3)).put (some 19) (V 4)).put (some 20) (V 5)).put (some 21) (V 6)).put (some 22) (V 7)).put (some 23) (V 8)).put (some 24) (V 9)).put (some 25) (V 10)).put (some 26) (V 11)).put (some 27) (V 12)).put (some 28) (V 13)).put (some 29) (V 14)).put (some 30) (V 15)).put (some 31) (V 16)).put (some 32) (V 17)).put (some 33) (V 18)) := ⟨_, fun _ => rfl⟩
     rw [ha0] at hfr
     simp only [Act.put, List.setIfInBounds_toArray, List.set_cons_zero, List.set_cons_succ] at hfr
     have HFR := Lib.hid hfr
     clear hfr
     refine wp_region_inv (by kernel_rfl) (by kernel_rfl) (fun L A W => ∃ V : Nat → Value, A = fr V ∧ Vals (fun j => ([some (.agg (nnc p)), some (.bool false), some (.bool true), some (.bool true), some (undef), some (undef), some (undef), some (undef), some (undef), some (undef), some (undef), some (undef), some (undef), some (undef), some (undef), some (undef), some (undef), some (undef), some (.bool true)] : List (Option Value)).getD j none) L V ∧ (NcJ wb g4 p W)) ?_ ⟨?_, ?_, ?_, ?_, ?_, ?_, ?_, ?_, ?_, ?_, ?_, ?_, ?_, ?_, ?_, ?_, ?_, ?_, ?_, trivial⟩ ?_
     ·refine ⟨fun j => a0.tmps.getD (([15, 16, 17, 18, 19, 20, 21, 22, 23, 24, 25, 26, 27, 28, 29, 30, 31, 32, 33] : List Nat).getD j 0) undef, ?_, Vals.no _ _ _ (far_none _ _ rfl), HJ.out.ext ((Ext.refl _).drew)⟩
      rw [HFR.out, ha0]
      rfl
     all_goals clear ha0
     ·rintro L A W K hL hC hW ⟨V, rfl, HV, s0⟩ hK
      have hB := s0
      have H := Lib.hid (show ∀ W', Ext W W' → K (fr (upd V 0 (.agg (nnc p)))) W' from fun W' he => hK _ _ ⟨_, rfl, HV.us 0 _ rfl, NcJ.ext s0 he⟩)
      clear hK hC hW hL HV s0
      rw [HFR.out]
      have HWW := Lib.hid (Cs.rg hB.1)
      clear hB
      refine wpList_load_nn rfl (.tmp 4) rfl g4 0 p rfl HWW.out ?_
      show K _ _; have := H.out _ (Ext.refl _); rw [HFR.out] at this
      exact this
     ·rintro L A W K hL hC hW ⟨V, rfl, HV, s0⟩ hK
      have e0 := HV 0 _ rfl (hW 0 rfl)
      have hB := s0
      have H := Lib.hid (show ∀ W', Ext W W' → K (fr (upd V 1 (.bool false))) W' from fun W' he => hK _ _ ⟨_, rfl, HV.us 1 _ rfl, NcJ.ext s0 he⟩)
      have HU := Lib.hid (show (upd V 1 (.bool false)) 0 = .agg (nnc p) from e0)
      clear hK hC hW hL HV s0
      rw [HFR.out, e0]
      clear e0
      clear hB
      go_wp2_with fail
      refine ((mayBeN_any p _).mono (fun _ _ h => show _ = Ending.returned (.bool false) ∧ _ from by rw [← HMB.out]; exact h)).mono ?_
      rintro e wx ⟨rfl, he⟩
      have := H.out _ he
      clear H
      go_wp2_with fail
      show K _ _
      rw [HFR.out] at this
      obtain u0 := HU.out
      rw [u0] at this
      exact this
     ·rintro L A W K hL hC hW ⟨V, rfl, HV, s0⟩ hK
      have e1 := HV 1 _ rfl (hW 1 rfl)
      have H := Lib.hid (show ∀ W', Ext W W' → K (fr (upd V 2 (.bool true))) W' from fun W' he => hK _ _ ⟨_, rfl, HV.us 2 _ rfl, NcJ.ext s0 he⟩)
      have HU := Lib.hid (show (upd V 2 (.bool true)) 1 = .bool false from e1)
      clear hK hC hW hL HV s0
      rw [HFR.out, e1]
      clear e1
      go_wp2_with fail
      show K _ _; have := H.out _ (Ext.refl _); rw [HFR.out] at this
      obtain u1 := HU.out
      rw [u1] at this
      exact this
     ·rintro L A W K hL hC hW ⟨V, rfl, HV, s0⟩ hK
      have e2 := HV 2 _ rfl (hW 2 rfl)
      have H := Lib.hid (show ∀ W', Ext W W' → K (fr (upd V 3 (.bool true))) W' from fun W' he => hK _ _ ⟨_, rfl, HV.us 3 _ rfl, NcJ.ext s0 he⟩)
      have HU := Lib.hid (show (upd V 3 (.bool true)) 2 = .bool true from e2)
      clear hK hC hW hL HV s0
      rw [HFR.out, e2]
      clear e2
      go_wp2_with fail
      show K _ _; have := H.out _ (Ext.refl _); rw [HFR.out] at this
      obtain u2 := HU.out
      rw [u2] at this
      exact this
     ·rintro L A W K hL hC hW ⟨V, rfl, HV, s0⟩ hK
      have e3 := HV 3 _ rfl (hW 3 rfl)
      have H := Lib.hid (show ∀ W', Ext W W' → K (fr (upd V 4 (undef))) W' from fun W' he => hK _ _ ⟨_, rfl, HV.us 4 _ rfl, NcJ.ext s0 he⟩)
      have HU := Lib.hid (show (upd V 4 (undef)) 3 = .bool true from e3)
      clear hK hC hW hL HV s0
      rw [HFR.out, e3]
      clear e3
      go_wp2_with fail
      show K _ _; have := H.out _ (Ext.refl _); rw [HFR.out] at this
      obtain u3 := HU.out
      rw [u3] at this
      exact this
     ·rintro L A W K hL hC hW ⟨V, rfl, HV, s0⟩ hK
      have e3 := HV 3 _ rfl (hW 3 rfl)
      have e4 := HV 4 _ rfl (hW 4 rfl)
      have H := Lib.hid (show ∀ W', Ext W W' → K (fr (upd V 5 (undef))) W' from fun W' he => hK _ _ ⟨_, rfl, HV.us 5 _ rfl, NcJ.ext s0 he⟩)
      have HU := Lib.hid (show (upd V 5 (undef)) 3 = .bool true ∧ (upd V 5 (undef)) 4 = undef from ⟨e3, e4⟩)
      clear hK hC hW hL HV s0
      rw [HFR.out, e3, e4]
      clear e3 e4
      go_wp2_with fail
      show K _ _; have := H.out _ (Ext.refl _); rw [HFR.out] at this
      obtain ⟨u3, u4⟩ := HU.out
      rw [u3, u4] at this
      exact this
     ·rintro L A W K hL hC hW ⟨V, rfl, HV, s0⟩ hK
      have e3 := HV 3 _ rfl (hW 3 rfl)
      have e5 := HV 5 _ rfl (hW 5 rfl)
      have H := Lib.hid (show ∀ W', Ext W W' → K (fr (upd V 6 (undef))) W' from fun W' he => hK _ _ ⟨_, rfl, HV.us 6 _ rfl, NcJ.ext s0 he⟩)
      have HU := Lib.hid (show (upd V 6 (undef)) 3 = .bool true ∧ (upd V 6 (undef)) 5 = undef from ⟨e3, e5⟩)
      clear hK hC hW hL HV s0
      rw [HFR.out, e3, e5]
      clear e3 e5
      go_wp2_with fail
      show K _ _; have := H.out _ (Ext.refl _); rw [HFR.out] at this
      obtain ⟨u3, u5⟩ := HU.out
      rw [u3, u5] at this
      exact this
     ·rintro L A W K hL hC hW ⟨V, rfl, HV, s0⟩ hK
      have e6 := HV 6 _ rfl (hW 6 rfl)
      have H := Lib.hid (show ∀ W', Ext W W' → K (fr (upd V 7 (undef))) W' from fun W' he => hK _ _ ⟨_, rfl, HV.us 7 _ rfl, NcJ.ext s0 he⟩)
      have HU := Lib.hid (show (upd V 7 (undef)) 6 = undef from e6)
      clear hK hC hW hL HV s0
      rw [HFR.out, e6]
      clear e6
      go_wp2_with fail
      show K _ _; have := H.out _ (Ext.refl _); rw [HFR.out] at this
      obtain u6 := HU.out
      rw [u6] at this
      exact this
     ·rintro L A W K hL hC hW ⟨V, rfl, HV, s0⟩ hK
      have e6 := HV 6 _ rfl (hW 6 rfl)
      have H := Lib.hid (show ∀ W', Ext W W' → K (fr (upd V 8 (undef))) W' from fun W' he => hK _ _ ⟨_, rfl, HV.us 8 _ rfl, NcJ.ext s0 he⟩)
      have HU := Lib.hid (show (upd V 8 (undef)) 6 = undef from e6)
      clear hK hC hW hL HV s0
      rw [HFR.out, e6]
      clear e6
      go_wp2_with fail
      show K _ _; have := H.out _ (Ext.refl _); rw [HFR.out] at this
      obtain u6 := HU.out
      rw [u6] at this
      exact this
     ·rintro L A W K hL hC hW ⟨V, rfl, HV, s0⟩ hK
      have e6 := HV 6 _ rfl (hW 6 rfl)
      have e8 := HV 8 _ rfl (hW 8 rfl)
      have H := Lib.hid (show ∀ W', Ext W W' → K (fr (upd V 9 (undef))) W' from fun W' he => hK _ _ ⟨_, rfl, HV.us 9 _ rfl, NcJ.ext s0 he⟩)
      have HU := Lib.hid (show (upd V 9 (undef)) 6 = undef ∧ (upd V 9 (undef)) 8 = undef from ⟨e6, e8⟩)
      clear hK hC hW hL HV s0
      rw [HFR.out, e6, e8]
      clear e6 e8
      go_wp2_with fail
      show K _ _; have := H.out _ (Ext.refl _); rw [HFR.out] at this
      obtain ⟨u6, u8⟩ := HU.out
      rw [u6, u8] at this
      exact this
     ·rintro L A W K hL hC hW ⟨V, rfl, HV, s0⟩ hK
      have e6 := HV 6 _ rfl (hW 6 rfl)
      have e7 := HV 7 _ rfl (hW 7 rfl)
      have e9 := HV 9 _ rfl (hW 9 rfl)
      have H := Lib.hid (show ∀ W', Ext W W' → K (fr (upd V 10 (undef))) W' from fun W' he => hK _ _ ⟨_, rfl, HV.us 10 _ rfl, NcJ.ext s0 he⟩)
      have HU := Lib.hid (show (upd V 10 (undef)) 6 = undef ∧ (upd V 10 (undef)) 7 = undef ∧ (upd V 10 (undef)) 9 = undef from ⟨e6, e7, e9⟩)
      clear hK hC hW hL HV s0
      rw [HFR.out, e6, e7, e9]
      clear e6 e7 e9
      go_wp2_with fail
      show K _ _; have := H.out _ (Ext.refl _); rw [HFR.out] at this
      obtain ⟨u6, u7, u9⟩ := HU.out
      rw [u6, u7, u9] at this
      exact this
     ·rintro L A W K hL hC hW ⟨V, rfl, HV, s0⟩ hK
      have e6 := HV 6 _ rfl (hW 6 rfl)
      have e10 := HV 10 _ rfl (hW 10 rfl)
      have H := Lib.hid (show ∀ W', Ext W W' → K (fr (upd V 11 (undef))) W' from fun W' he => hK _ _ ⟨_, rfl, HV.us 11 _ rfl, NcJ.ext s0 he⟩)
      have HU := Lib.hid (show (upd V 11 (undef)) 6 = undef ∧ (upd V 11 (undef)) 10 = undef from ⟨e6, e10⟩)
      clear hK hC hW hL HV s0
      rw [HFR.out, e6, e10]
      clear e6 e10
      go_wp2_with fail
      show K _ _; have := H.out _ (Ext.refl _); rw [HFR.out] at this
      obtain ⟨u6, u10⟩ := HU.out
      rw [u6, u10] at this
      exact this
     ·rintro L A W K hL hC hW ⟨V, rfl, HV, s0⟩ hK
      have e6 := HV 6 _ rfl (hW 6 rfl)
      have e11 := HV 11 _ rfl (hW 11 rfl)
      have H := Lib.hid (show ∀ W', Ext W W' → K (fr (upd V 12 (undef))) W' from fun W' he => hK _ _ ⟨_, rfl, HV.us 12 _ rfl, NcJ.ext s0 he⟩)
      have HU := Lib.hid (show (upd V 12 (undef)) 6 = undef ∧ (upd V 12 (undef)) 11 = undef from ⟨e6, e11⟩)
      clear hK hC hW hL HV s0
      rw [HFR.out, e6, e11]
      clear e6 e11
      go_wp2_with fail
      show K _ _; have := H.out _ (Ext.refl _); rw [HFR.out] at this
      obtain ⟨u6, u11⟩ := HU.out
      rw [u6, u11] at this
      exact this
     ·rintro L A W K hL hC hW ⟨V, rfl, HV, s0⟩ hK
      have e6 := HV 6 _ rfl (hW 6 rfl)
      have H := Lib.hid (show ∀ W', Ext W W' → K (fr (upd V 13 (undef))) W' from fun W' he => hK _ _ ⟨_, rfl, HV.us 13 _ rfl, NcJ.ext s0 he⟩)
      have HU := Lib.hid (show (upd V 13 (undef)) 6 = undef from e6)
      clear hK hC hW hL HV s0
      rw [HFR.out, e6]
      clear e6
      go_wp2_with fail
      show K _ _; have := H.out _ (Ext.refl _); rw [HFR.out] at this
      obtain u6 := HU.out
      rw [u6] at this
      exact this
     ·rintro L A W K hL hC hW ⟨V, rfl, HV, s0⟩ hK
      have e6 := HV 6 _ rfl (hW 6 rfl)
      have e13 := HV 13 _ rfl (hW 13 rfl)
      have H := Lib.hid (show ∀ W', Ext W W' → K (fr (upd V 14 (undef))) W' from fun W' he => hK _ _ ⟨_, rfl, HV.us 14 _ rfl, NcJ.ext s0 he⟩)
      have HU := Lib.hid (show (upd V 14 (undef)) 6 = undef ∧ (upd V 14 (undef)) 13 = undef from ⟨e6, e13⟩)
      clear hK hC hW hL HV s0
      rw [HFR.out, e6, e13]
      clear e6 e13
      go_wp2_with fail
      show K _ _; have := H.out _ (Ext.refl _); rw [HFR.out] at this
      obtain ⟨u6, u13⟩ := HU.out
      rw [u6, u13] at this
      exact this
     ·rintro L A W K hL hC hW ⟨V, rfl, HV, s0⟩ hK
      have e6 := HV 6 _ rfl (hW 6 rfl)
      have e12 := HV 12 _ rfl (hW 12 rfl)
      have e14 := HV 14 _ rfl (hW 14 rfl)
      have H := Lib.hid (show ∀ W', Ext W W' → K (fr (upd V 15 (undef))) W' from fun W' he => hK _ _ ⟨_, rfl, HV.us 15 _ rfl, NcJ.ext s0 he⟩)
      have HU := Lib.hid (show (upd V 15 (undef)) 6 = undef ∧ (upd V 15 (undef)) 12 = undef ∧ (upd V 15 (undef)) 14 = undef from ⟨e6, e12, e14⟩)
      clear hK hC hW hL HV s0
      rw [HFR.out, e6, e12, e14]
      clear e6 e12 e14
      go_wp2_with fail
      show K _ _; have := H.out _ (Ext.refl _); rw [HFR.out] at this
      obtain ⟨u6, u12, u14⟩ := HU.out
      rw [u6, u12, u14] at this
      exact this
     ·rintro L A W K hL hC hW ⟨V, rfl, HV, s0⟩ hK
      have e6 := HV 6 _ rfl (hW 6 rfl)
      have e15 := HV 15 _ rfl (hW 15 rfl)
      have H := Lib.hid (show ∀ W', Ext W W' → K (fr (upd V 16 (undef))) W' from fun W' he => hK _ _ ⟨_, rfl, HV.us 16 _ rfl, NcJ.ext s0 he⟩)
      have HU := Lib.hid (show (upd V 16 (undef)) 6 = undef ∧ (upd V 16 (undef)) 15 = undef from ⟨e6, e15⟩)
      clear hK hC hW hL HV s0
      rw [HFR.out, e6, e15]
      clear e6 e15
      go_wp2_with fail
      show K _ _; have := H.out _ (Ext.refl _); rw [HFR.out] at this
      obtain ⟨u6, u15⟩ := HU.out
      rw [u6, u15] at this
      exact this
     ·rintro L A W K hL hC hW ⟨V, rfl, HV, s0⟩ hK
      have e3 := HV 3 _ rfl (hW 3 rfl)
      have e6 := HV 6 _ rfl (hW 6 rfl)
      have e16 := HV 16 _ rfl (hW 16 rfl)
      have H := Lib.hid (show ∀ W', Ext W W' → K (fr (upd V 17 (undef))) W' from fun W' he => hK _ _ ⟨_, rfl, HV.us 17 _ rfl, NcJ.ext s0 he⟩)
      have HU := Lib.hid (show (upd V 17 (undef)) 3 = .bool true ∧ (upd V 17 (undef)) 6 = undef ∧ (upd V 17 (undef)) 16 = undef from ⟨e3, e6, e16⟩)
      clear hK hC hW hL HV s0
      rw [HFR.out, e3, e6, e16]
      clear e3 e6 e16
      go_wp2_with fail
      show K _ _; have := H.out _ (Ext.refl _); rw [HFR.out] at this
      obtain ⟨u3, u6, u16⟩ := HU.out
      rw [u3, u6, u16] at this
      exact this
     ·rintro L A W K hL hC hW ⟨V, rfl, HV, s0⟩ hK
      have e3 := HV 3 _ rfl (hW 3 rfl)
      have e17 := HV 17 _ rfl (hW 17 rfl)
      have H := Lib.hid (show ∀ W', Ext W W' → K (fr (upd V 18 (.bool true))) W' from fun W' he => hK _ _ ⟨_, rfl, HV.us 18 _ rfl, NcJ.ext s0 he⟩)
      have HU := Lib.hid (show (upd V 18 (.bool true)) 3 = .bool true ∧ (upd V 18 (.bool true)) 17 = undef from ⟨e3, e17⟩)
      clear hK hC hW hL HV s0
      rw [HFR.out, e3, e17]
      clear e3 e17
      go_wp2_with fail
      show K _ _; have := H.out _ (Ext.refl _); rw [HFR.out] at this
      obtain ⟨u3, u17⟩ := HU.out
      rw [u3, u17] at this
      exact this
     ·rintro L A W hL ⟨V, rfl, HV, s0⟩
      have e0 := HV 0 _ rfl (hL 0 (by simp))
      have e1 := HV 1 _ rfl (hL 1 (by simp))
      have e2 := HV 2 _ rfl (hL 2 (by simp))
      have e3 := HV 3 _ rfl (hL 3 (by simp))
      have e4 := HV 4 _ rfl (hL 4 (by simp))
      have e5 := HV 5 _ rfl (hL 5 (by simp))
      have e6 := HV 6 _ rfl (hL 6 (by simp))
      have e7 := HV 7 _ rfl (hL 7 (by simp))
      have e8 := HV 8 _ rfl (hL 8 (by simp))
      have e9 := HV 9 _ rfl (hL 9 (by simp))
      have e10 := HV 10 _ rfl (hL 10 (by simp))
      have e11 := HV 11 _ rfl (hL 11 (by simp))
      have e12 := HV 12 _ rfl (hL 12 (by simp))
      have e13 := HV 13 _ rfl (hL 13 (by simp))
      have e14 := HV 14 _ rfl (hL 14 (by simp))
      have e15 := HV 15 _ rfl (hL 15 (by simp))
      have e16 := HV 16 _ rfl (hL 16 (by simp))
      have e17 := HV 17 _ rfl (hL 17 (by simp))
      have e18 := HV 18 _ rfl (hL 18 (by simp))
      have hA := s0
      rw [HFR.out, e0, e1, e2, e3, e4, e5, e6, e7, e8, e9, e10, e11, e12, e13, e14, e15, e16, e17, e18]
      clear hL HV HFR e0 e1 e2 e3 e4 e5 e6 e7 e8 e9 e10 e11 e12 e13 e14 e15 e16 e17 e18 s0
      go_wp2_with fail
      refine bodyPost_ret (results_tmp rfl _ _ _) rfl ?_
      exact ⟨by rw [chkN_no HF.out]; rfl, HXW.out.trans hA.2⟩
    | true =>
     have HMB := Lib.hid hmb
     rcases Nat.eq_zero_or_pos k with rfl | hk0
     ·have HT := Lib.hid (show rgN l 0 = true by rw [HRG.out, hmb]; rfl)
      clear hmb
      refine wp_named fun a0 ha0 => ?_
      obtain ⟨fr, hfr⟩ : ∃ fr : (Nat → Value) → Act, ∀ V, fr V = (((((((((((((((((((a0.put (some 15) (V 0)).put (some 16) (V 1)).put (some 17) (V 2)).put (some 18) (V 3)).put (some 19) (V 4)).put (some 20) (V 5)).put (some 21) (V 6)).put (some 22) (V 7)).put (some 23) (V 8)).put (some 24) (V 9)).put (some 25) (V 10)).put (some 26) (V 11)).put (some 27) (V 12)).put (some 28) (V 13)).put (some 29) (V 14)).put (some 30) (V 15)).put (some 31) (V 16)).put (some 32) (V 17)).put (some 33) (V 18)) := ⟨_, fun _ => rfl⟩
      rw [ha0] at hfr
      simp only [Act.put, List.setIfInBounds_toArray, List.set_cons_zero, List.set_cons_succ] at hfr
      have HFR := Lib.hid hfr
      clear hfr
      refine wp_region_inv (by kernel_rfl) (by kernel_rfl) (fun L A W => ∃ V : Nat → Value, A = fr V ∧ Vals (fun j => ([some (.agg (nnc p)), some (.bool true), some (.bool false), some (.bool false), some (.int .i64 (0 : Nat)), some (.bool false), some (.bool false), some (undef), some (undef), some (undef), some (undef), some (undef), some (undef), some (undef), some (undef), some (undef), some (undef), some (.bool false), some (.bool false)] : List (Option Value)).getD j none) L V ∧ (NcJ wb g4 p W)) ?_ ⟨?_, ?_, ?_, ?_, ?_, ?_, ?_, ?_, ?_, ?_, ?_, ?_, ?_, ?_, ?_, ?_, ?_, ?_, ?_, trivial⟩ ?_
      ·refine ⟨fun j => a0.tmps.getD (([15, 16, 17, 18, 19, 20, 21, 22, 23, 24, 25, 26, 27, 28, 29, 30, 31, 32, 33] : List Nat).getD j 0) undef, ?_, Vals.no _ _ _ (far_none _ _ rfl), HJ.out.ext ((Ext.refl _).drew)⟩
       rw [HFR.out, ha0]
       rfl
      all_goals clear ha0
      ·rintro L A W K hL hC hW ⟨V, rfl, HV, s0⟩ hK
       have hB := s0
       have H := Lib.hid (show ∀ W', Ext W W' → K (fr (upd V 0 (.agg (nnc p)))) W' from fun W' he => hK _ _ ⟨_, rfl, HV.us 0 _ rfl, NcJ.ext s0 he⟩)
       clear hK hC hW hL HV s0
       rw [HFR.out]
       have HWW := Lib.hid (Cs.rg hB.1)
       clear hB
       refine wpList_load_nn rfl (.tmp 4) rfl g4 0 p rfl HWW.out ?_
       show K _ _; have := H.out _ (Ext.refl _); rw [HFR.out] at this
       exact this
      ·rintro L A W K hL hC hW ⟨V, rfl, HV, s0⟩ hK
       have e0 := HV 0 _ rfl (hW 0 rfl)
       have hB := s0
       have H := Lib.hid (show ∀ W', Ext W W' → K (fr (upd V 1 (.bool true))) W' from fun W' he => hK _ _ ⟨_, rfl, HV.us 1 _ rfl, NcJ.ext s0 he⟩)
       have HU := Lib.hid (show (upd V 1 (.bool true)) 0 = .agg (nnc p) from e0)
       clear hK hC hW hL HV s0
       rw [HFR.out, e0]
       clear e0
       clear hB
       go_wp2_with fail
       refine ((mayBeN_any p _).mono (fun _ _ h => show _ = Ending.returned (.bool true) ∧ _ from by rw [← HMB.out]; exact h)).mono ?_
       rintro e wx ⟨rfl, he⟩
       have := H.out _ he
       clear H
       go_wp2_with fail
       show K _ _
       rw [HFR.out] at this
       obtain u0 := HU.out
       rw [u0] at this
       exact this
      ·rintro L A W K hL hC hW ⟨V, rfl, HV, s0⟩ hK
       have e1 := HV 1 _ rfl (hW 1 rfl)
       have H := Lib.hid (show ∀ W', Ext W W' → K (fr (upd V 2 (.bool false))) W' from fun W' he => hK _ _ ⟨_, rfl, HV.us 2 _ rfl, NcJ.ext s0 he⟩)
       have HU := Lib.hid (show (upd V 2 (.bool false)) 1 = .bool true from e1)
       clear hK hC hW hL HV s0
       rw [HFR.out, e1]
       clear e1
       go_wp2_with fail
       show K _ _; have := H.out _ (Ext.refl _); rw [HFR.out] at this
       obtain u1 := HU.out
       rw [u1] at this
       exact this
      ·rintro L A W K hL hC hW ⟨V, rfl, HV, s0⟩ hK
       have e2 := HV 2 _ rfl (hW 2 rfl)
       have H := Lib.hid (show ∀ W', Ext W W' → K (fr (upd V 3 (.bool false))) W' from fun W' he => hK _ _ ⟨_, rfl, HV.us 3 _ rfl, NcJ.ext s0 he⟩)
       have HU := Lib.hid (show (upd V 3 (.bool false)) 2 = .bool false from e2)
       clear hK hC hW hL HV s0
       rw [HFR.out, e2]
       clear e2
       go_wp2_with fail
       show K _ _; have := H.out _ (Ext.refl _); rw [HFR.out] at this
       obtain u2 := HU.out
       rw [u2] at this
       exact this
      ·rintro L A W K hL hC hW ⟨V, rfl, HV, s0⟩ hK
       have e3 := HV 3 _ rfl (hW 3 rfl)
       have H := Lib.hid (show ∀ W', Ext W W' → K (fr (upd V 4 (.int .i64 (0 : Nat)))) W' from fun W' he => hK _ _ ⟨_, rfl, HV.us 4 _ rfl, NcJ.ext s0 he⟩)
       have HU := Lib.hid (show (upd V 4 (.int .i64 (0 : Nat))) 3 = .bool false from e3)
       clear hK hC hW hL HV s0
       rw [HFR.out, e3]
       clear e3
       go_wp2_with fail
       show K _ _; have := H.out _ (Ext.refl _); rw [HFR.out] at this
       obtain u3 := HU.out
       rw [u3] at this
       exact this
      ·rintro L A W K hL hC hW ⟨V, rfl, HV, s0⟩ hK
       have e3 := HV 3 _ rfl (hW 3 rfl)
       have e4 := HV 4 _ rfl (hW 4 rfl)
       have H := Lib.hid (show ∀ W', Ext W W' → K (fr (upd V 5 (.bool false))) W' from fun W' he => hK _ _ ⟨_, rfl, HV.us 5 _ rfl, NcJ.ext s0 he⟩)
       have HU := Lib.hid (show (upd V 5 (.bool false)) 3 = .bool false ∧ (upd V 5 (.bool false)) 4 = .int .i64 (0 : Nat) from ⟨e3, e4⟩)
       clear hK hC hW hL HV s0
       rw [HFR.out, e3, e4]
       clear e3 e4
       go_wp2_with fail
       show K _ _; have := H.out _ (Ext.refl _); rw [HFR.out] at this
       obtain ⟨u3, u4⟩ := HU.out
       rw [u3, u4] at this
       exact this
      ·rintro L A W K hL hC hW ⟨V, rfl, HV, s0⟩ hK
       have e3 := HV 3 _ rfl (hW 3 rfl)
       have e5 := HV 5 _ rfl (hW 5 rfl)
       have H := Lib.hid (show ∀ W', Ext W W' → K (fr (upd V 6 (.bool false))) W' from fun W' he => hK _ _ ⟨_, rfl, HV.us 6 _ rfl, NcJ.ext s0 he⟩)
       have HU := Lib.hid (show (upd V 6 (.bool false)) 3 = .bool false ∧ (upd V 6 (.bool false)) 5 = .bool false from ⟨e3, e5⟩)
       clear hK hC hW hL HV s0
       rw [HFR.out, e3, e5]
       clear e3 e5
       go_wp2_with fail
       show K _ _; have := H.out _ (Ext.refl _); rw [HFR.out] at this
       obtain ⟨u3, u5⟩ := HU.out
       rw [u3, u5] at this
       exact this
      ·rintro L A W K hL hC hW ⟨V, rfl, HV, s0⟩ hK
       have e6 := HV 6 _ rfl (hW 6 rfl)
       have H := Lib.hid (show ∀ W', Ext W W' → K (fr (upd V 7 (undef))) W' from fun W' he => hK _ _ ⟨_, rfl, HV.us 7 _ rfl, NcJ.ext s0 he⟩)
       have HU := Lib.hid (show (upd V 7 (undef)) 6 = .bool false from e6)
       clear hK hC hW hL HV s0
       rw [HFR.out, e6]
       clear e6
       go_wp2_with fail
       show K _ _; have := H.out _ (Ext.refl _); rw [HFR.out] at this
       obtain u6 := HU.out
       rw [u6] at this
       exact this
      ·rintro L A W K hL hC hW ⟨V, rfl, HV, s0⟩ hK
       have e6 := HV 6 _ rfl (hW 6 rfl)
       have H := Lib.hid (show ∀ W', Ext W W' → K (fr (upd V 8 (undef))) W' from fun W' he => hK _ _ ⟨_, rfl, HV.us 8 _ rfl, NcJ.ext s0 he⟩)
       have HU := Lib.hid (show (upd V 8 (undef)) 6 = .bool false from e6)
       clear hK hC hW hL HV s0
       rw [HFR.out, e6]
       clear e6
       go_wp2_with fail
       show K _ _; have := H.out _ (Ext.refl _); rw [HFR.out] at this
       obtain u6 := HU.out
       rw [u6] at this
       exact this
      ·rintro L A W K hL hC hW ⟨V, rfl, HV, s0⟩ hK
       have e6 := HV 6 _ rfl (hW 6 rfl)
       have e8 := HV 8 _ rfl (hW 8 rfl)
       have H := Lib.hid (show ∀ W', Ext W W' → K (fr (upd V 9 (undef))) W' from fun W' he => hK _ _ ⟨_, rfl, HV.us 9 _ rfl, NcJ.ext s0 he⟩)
       have HU := Lib.hid (show (upd V 9 (undef)) 6 = .bool false ∧ (upd V 9 (undef)) 8 = undef from ⟨e6, e8⟩)
       clear hK hC hW hL HV s0
       rw [HFR.out, e6, e8]
       clear e6 e8
       go_wp2_with fail
       show K _ _; have := H.out _ (Ext.refl _); rw [HFR.out] at this
       obtain ⟨u6, u8⟩ := HU.out
       rw [u6, u8] at this
       exact this
      ·rintro L A W K hL hC hW ⟨V, rfl, HV, s0⟩ hK
       have e6 := HV 6 _ rfl (hW 6 rfl)
       have e7 := HV 7 _ rfl (hW 7 rfl)
       have e9 := HV 9 _ rfl (hW 9 rfl)
       have H := Lib.hid (show ∀ W', Ext W W' → K (fr (upd V 10 (undef))) W' from fun W' he => hK _ _ ⟨_, rfl, HV.us 10 _ rfl, NcJ.ext s0 he⟩)
       have HU := Lib.hid (show (upd V 10 (undef)) 6 = .bool false ∧ (upd V 10 (undef)) 7 = undef ∧ (upd V 10 (undef)) 9 = undef from ⟨e6, e7, e9⟩)
       clear hK hC hW hL HV s0
       rw [HFR.out, e6, e7, e9]
       clear e6 e7 e9
       go_wp2_with fail
       show K _ _; have := H.out _ (Ext.refl _); rw [HFR.out] at this
       obtain ⟨u6, u7, u9⟩ := HU.out
       rw [u6, u7, u9] at this
       exact this
      ·rintro L A W K hL hC hW ⟨V, rfl, HV, s0⟩ hK
       have e6 := HV 6 _ rfl (hW 6 rfl)
       have e10 := HV 10 _ rfl (hW 10 rfl)
       have H := Lib.hid (show ∀ W', Ext W W' → K (fr (upd V 11 (undef))) W' from fun W' he => hK _ _ ⟨_, rfl, HV.us 11 _ rfl, NcJ.ext s0 he⟩)
       have HU := Lib.hid (show (upd V 11 (undef)) 6 = .bool false ∧ (upd V 11 (undef)) 10 = undef from ⟨e6, e10⟩)
       clear hK hC hW hL HV s0
       rw [HFR.out, e6, e10]
       clear e6 e10
       go_wp2_with fail
       show K _ _; have := H.out _ (Ext.refl _); rw [HFR.out] at this
       obtain ⟨u6, u10⟩ := HU.out
       rw [u6, u10] at this
       exact this
      ·rintro L A W K hL hC hW ⟨V, rfl, HV, s0⟩ hK
       have e6 := HV 6 _ rfl (hW 6 rfl)
       have e11 := HV 11 _ rfl (hW 11 rfl)
       have H := Lib.hid (show ∀ W', Ext W W' → K (fr (upd V 12 (undef))) W' from fun W' he => hK _ _ ⟨_, rfl, HV.us 12 _ rfl, NcJ.ext s0 he⟩)
       have HU := Lib.hid (show (upd V 12 (undef)) 6 = .bool false ∧ (upd V 12 (undef)) 11 = undef from ⟨e6, e11⟩)
       clear hK hC hW hL HV s0
       rw [HFR.out, e6, e11]
       clear e6 e11
       go_wp2_with fail
       show K _ _; have := H.out _ (Ext.refl _); rw [HFR.out] at this
       obtain ⟨u6, u11⟩ := HU.out
       rw [u6, u11] at this
       exact this
      ·rintro L A W K hL hC hW ⟨V, rfl, HV, s0⟩ hK
       have e6 := HV 6 _ rfl (hW 6 rfl)
       have H := Lib.hid (show ∀ W', Ext W W' → K (fr (upd V 13 (undef))) W' from fun W' he => hK _ _ ⟨_, rfl, HV.us 13 _ rfl, NcJ.ext s0 he⟩)
       have HU := Lib.hid (show (upd V 13 (undef)) 6 = .bool false from e6)
       clear hK hC hW hL HV s0
       rw [HFR.out, e6]
       clear e6
       go_wp2_with fail
       show K _ _; have := H.out _ (Ext.refl _); rw [HFR.out] at this
       obtain u6 := HU.out
       rw [u6] at this
       exact this
      ·rintro L A W K hL hC hW ⟨V, rfl, HV, s0⟩ hK
       have e6 := HV 6 _ rfl (hW 6 rfl)
       have e13 := HV 13 _ rfl (hW 13 rfl)
       have H := Lib.hid (show ∀ W', Ext W W' → K (fr (upd V 14 (undef))) W' from fun W' he => hK _ _ ⟨_, rfl, HV.us 14 _ rfl, NcJ.ext s0 he⟩)
       have HU := Lib.hid (show (upd V 14 (undef)) 6 = .bool false ∧ (upd V 14 (undef)) 13 = undef from ⟨e6, e13⟩)
       clear hK hC hW hL HV s0
       rw [HFR.out, e6, e13]
       clear e6 e13
       go_wp2_with fail
       show K _ _; have := H.out _ (Ext.refl _); rw [HFR.out] at this
       obtain ⟨u6, u13⟩ := HU.out
       rw [u6, u13] at this
       exact this
      ·rintro L A W K hL hC hW ⟨V, rfl, HV, s0⟩ hK
       have e6 := HV 6 _ rfl (hW 6 rfl)
       have e12 := HV 12 _ rfl (hW 12 rfl)
       have e14 := HV 14 _ rfl (hW 14 rfl)
       have H := Lib.hid (show ∀ W', Ext W W' → K (fr (upd V 15 (undef))) W' from fun W' he => hK _ _ ⟨_, rfl, HV.us 15 _ rfl, NcJ.ext s0 he⟩)
       have HU := Lib.hid (show (upd V 15 (undef)) 6 = .bool false ∧ (upd V 15 (undef)) 12 = undef ∧ (upd V 15 (undef)) 14 = undef from ⟨e6, e12, e14⟩)
       clear hK hC hW hL HV s0
       rw [HFR.out, e6, e12, e14]
       clear e6 e12 e14
       go_wp2_with fail
       show K _ _; have := H.out _ (Ext.refl _); rw [HFR.out] at this
       obtain ⟨u6, u12, u14⟩ := HU.out
       rw [u6, u12, u14] at this
       exact this
      ·rintro L A W K hL hC hW ⟨V, rfl, HV, s0⟩ hK
       have e6 := HV 6 _ rfl (hW 6 rfl)
       have e15 := HV 15 _ rfl (hW 15 rfl)
       have H := Lib.hid (show ∀ W', Ext W W' → K (fr (upd V 16 (undef))) W' from fun W' he => hK _ _ ⟨_, rfl, HV.us 16 _ rfl, NcJ.ext s0 he⟩)
       have HU := Lib.hid (show (upd V 16 (undef)) 6 = .bool false ∧ (upd V 16 (undef)) 15 = undef from ⟨e6, e15⟩)
       clear hK hC hW hL HV s0
       rw [HFR.out, e6, e15]
       clear e6 e15
       go_wp2_with fail
       show K _ _; have := H.out _ (Ext.refl _); rw [HFR.out] at this
       obtain ⟨u6, u15⟩ := HU.out
       rw [u6, u15] at this
       exact this
      ·rintro L A W K hL hC hW ⟨V, rfl, HV, s0⟩ hK
       have e3 := HV 3 _ rfl (hW 3 rfl)
       have e6 := HV 6 _ rfl (hW 6 rfl)
       have e16 := HV 16 _ rfl (hW 16 rfl)
       have H := Lib.hid (show ∀ W', Ext W W' → K (fr (upd V 17 (.bool false))) W' from fun W' he => hK _ _ ⟨_, rfl, HV.us 17 _ rfl, NcJ.ext s0 he⟩)
       have HU := Lib.hid (show (upd V 17 (.bool false)) 3 = .bool false ∧ (upd V 17 (.bool false)) 6 = .bool false ∧ (upd V 17 (.bool false)) 16 = undef from ⟨e3, e6, e16⟩)
       clear hK hC hW hL HV s0
       rw [HFR.out, e3, e6, e16]
       clear e3 e6 e16
       go_wp2_with fail
       show K _ _; have := H.out _ (Ext.refl _); rw [HFR.out] at this
       obtain ⟨u3, u6, u16⟩ := HU.out
       rw [u3, u6, u16] at this
       exact this
      ·rintro L A W K hL hC hW ⟨V, rfl, HV, s0⟩ hK
       have e3 := HV 3 _ rfl (hW 3 rfl)
       have e17 := HV 17 _ rfl (hW 17 rfl)
       have H := Lib.hid (show ∀ W', Ext W W' → K (fr (upd V 18 (.bool false))) W' from fun W' he => hK _ _ ⟨_, rfl, HV.us 18 _ rfl, NcJ.ext s0 he⟩)
       have HU := Lib.hid (show (upd V 18 (.bool false)) 3 = .bool false ∧ (upd V 18 (.bool false)) 17 = .bool false from ⟨e3, e17⟩)
       clear hK hC hW hL HV s0
       rw [HFR.out, e3, e17]
       clear e3 e17
       go_wp2_with fail
       show K _ _; have := H.out _ (Ext.refl _); rw [HFR.out] at this
       obtain ⟨u3, u17⟩ := HU.out
       rw [u3, u17] at this
       exact this
      ·rintro L A W hL ⟨V, rfl, HV, s0⟩
       have e0 := HV 0 _ rfl (hL 0 (by simp))
       have e1 := HV 1 _ rfl (hL 1 (by simp))
       have e2 := HV 2 _ rfl (hL 2 (by simp))
       have e3 := HV 3 _ rfl (hL 3 (by simp))
       have e4 := HV 4 _ rfl (hL 4 (by simp))
       have e5 := HV 5 _ rfl (hL 5 (by simp))
       have e6 := HV 6 _ rfl (hL 6 (by simp))
       have e7 := HV 7 _ rfl (hL 7 (by simp))
       have e8 := HV 8 _ rfl (hL 8 (by simp))
       have e9 := HV 9 _ rfl (hL 9 (by simp))
       have e10 := HV 10 _ rfl (hL 10 (by simp))
       have e11 := HV 11 _ rfl (hL 11 (by simp))
       have e12 := HV 12 _ rfl (hL 12 (by simp))
       have e13 := HV 13 _ rfl (hL 13 (by simp))
       have e14 := HV 14 _ rfl (hL 14 (by simp))
       have e15 := HV 15 _ rfl (hL 15 (by simp))
       have e16 := HV 16 _ rfl (hL 16 (by simp))
       have e17 := HV 17 _ rfl (hL 17 (by simp))
       have e18 := HV 18 _ rfl (hL 18 (by simp))
       have hA := s0
       rw [HFR.out, e0, e1, e2, e3, e4, e5, e6, e7, e8, e9, e10, e11, e12, e13, e14, e15, e16, e17, e18]
       clear hL HV HFR e0 e1 e2 e3 e4 e5 e6 e7 e8 e9 e10 e11 e12 e13 e14 e15 e16 e17 e18 s0
       have HXN := Lib.hid (HXW.out.trans hA.2)
       clear hA
       go_wp2_with fail
       exact ⟨⟨1, by omega, rfl, Lib.hid ⟨fun i hi => by rw [show i = 0 by omega]; exact HT.out, HXN.out⟩⟩, by simp [intOf]; omega⟩
     ·obtain ⟨k, rfl⟩ : ∃ j, k = j + 1 := ⟨k - 1, by omega⟩
      have hrq := HQQ.out k rfl
      rw [show k + 1 - 1 = k by omega] at HRG
      obtain ⟨q, hq⟩ : ∃ q, l.getD k nz0 = q := ⟨_, rfl⟩
      rw [hq] at hrq HRG
      clear hq HQQ
      have HQ : Hid (wb.rangeAt bb (oo + k * 6) (nnc q).toList) := Lib.hid (fun j x hx => HXB.out.cell (hrq.1 j x hx))
      have HQK := Lib.hid hrq.2
      have HGE : Hid (decide (0 ≤ cmpN q.cod p.cod) = !decide (q.cod < p.cod)) := Lib.hid (by
       unfold cmpN
       by_cases hx : q.cod < p.cod
       ·rw [if_pos hx, decide_eq_true hx]; rfl
       ·rw [if_neg hx, decide_eq_false hx]; split <;> rfl)
      clear hrq hmb
      have hd3 : decide (0 < k + 1) = true := decide_eq_true (by omega)
      have hd4 : decide ((0 : Int) < ((k + 1 : Nat) : Int)) = true := decide_eq_true (by omega)
      refine wp_named fun a0 ha0 => ?_
      obtain ⟨fr, hfr⟩ : ∃ fr : (Nat → Value) → Act, ∀ V, fr V = (((((((((((((((((((a0.put (some 15) (V 0)).put (some 16) (V 1)).put (some 17) (V 2)).put (some 18) (V 3)).put (some 19) (V 4)).put (some 20) (V 5)).put (some 21) (V 6)).put (some 22) (V 7)).put (some 23) (V 8)).put (some 24) (V 9)).put (some 25) (V 10)).put (some 26) (V 11)).put (some 27) (V 12)).put (some 28) (V 13)).put (some 29) (V 14)).put (some 30) (V 15)).put (some 31) (V 16)).put (some 32) (V 17)).put (some 33) (V 18)) := ⟨_, fun _ => rfl⟩
      rw [ha0] at hfr
      simp only [Act.put, List.setIfInBounds_toArray, List.set_cons_zero, List.set_cons_succ] at hfr
      have HFR := Lib.hid hfr
      clear hfr
      refine wp_region_inv (by kernel_rfl) (by kernel_rfl) (fun L A W => ∃ V : Nat → Value, A = fr V ∧ Vals (fun j => ([some (.agg (nnc p)), some (.bool true), some (.bool false), some (.bool false), some (.int .i64 ((k + 1 : Nat) : Int)), some (.bool true), some (.bool true), some (.slice (some ⟨bb, oo, none⟩) l.length c), some (.int .i64 ((k + 1 : Nat) : Int)), some (.int .i64 (k : Nat)), some (.pointer (some ⟨bb, oo + k * 6, none⟩)), some (.agg (nnc q)), some (.agg (okc q.addr q.key)), some (.agg (nnc p)), some (.agg (okc p.addr p.key)), some (.int .i64 (cmpN q.cod p.cod)), some (.bool (!decide (q.cod < p.cod))), some (.bool (!decide (q.cod < p.cod))), some (.bool (!decide (q.cod < p.cod)))] : List (Option Value)).getD j none) L V ∧ (NcJ wb g4 p W)) ?_ ⟨?_, ?_, ?_, ?_, ?_, ?_, ?_, ?_, ?_, ?_, ?_, ?_, ?_, ?_, ?_, ?_, ?_, ?_, ?_, trivial⟩ ?_
      ·refine ⟨fun j => a0.tmps.getD (([15, 16, 17, 18, 19, 20, 21, 22, 23, 24, 25, 26, 27, 28, 29, 30, 31, 32, 33] : List Nat).getD j 0) undef, ?_, Vals.no _ _ _ (far_none _ _ rfl), HJ.out.ext ((Ext.refl _).drew)⟩
       rw [HFR.out, ha0]
       rfl
      all_goals clear ha0
      ·rintro L A W K hL hC hW ⟨V, rfl, HV, s0⟩ hK
       have hB := s0
       have H := Lib.hid (show ∀ W', Ext W W' → K (fr (upd V 0 (.agg (nnc p)))) W' from fun W' he => hK _ _ ⟨_, rfl, HV.us 0 _ rfl, NcJ.ext s0 he⟩)
       clear hK hC hW hL HV s0
       rw [HFR.out]
       have HWW := Lib.hid (Cs.rg hB.1)
       clear hB
       refine wpList_load_nn rfl (.tmp 4) rfl g4 0 p rfl HWW.out ?_
       show K _ _; have := H.out _ (Ext.refl _); rw [HFR.out] at this
       exact this
      ·rintro L A W K hL hC hW ⟨V, rfl, HV, s0⟩ hK
       have e0 := HV 0 _ rfl (hW 0 rfl)
       have hB := s0
       have H := Lib.hid (show ∀ W', Ext W W' → K (fr (upd V 1 (.bool true))) W' from fun W' he => hK _ _ ⟨_, rfl, HV.us 1 _ rfl, NcJ.ext s0 he⟩)
       have HU := Lib.hid (show (upd V 1 (.bool true)) 0 = .agg (nnc p) from e0)
       clear hK hC hW hL HV s0
       rw [HFR.out, e0]
       clear e0
       clear hB
       go_wp2_with fail
       refine ((mayBeN_any p _).mono (fun _ _ h => show _ = Ending.returned (.bool true) ∧ _ from by rw [← HMB.out]; exact h)).mono ?_
       rintro e wx ⟨rfl, he⟩
       have := H.out _ he
       clear H
       go_wp2_with fail
       show K _ _
       rw [HFR.out] at this
       obtain u0 := HU.out
       rw [u0] at this
       exact this
      ·rintro L A W K hL hC hW ⟨V, rfl, HV, s0⟩ hK
       have e1 := HV 1 _ rfl (hW 1 rfl)
       have H := Lib.hid (show ∀ W', Ext W W' → K (fr (upd V 2 (.bool false))) W' from fun W' he => hK _ _ ⟨_, rfl, HV.us 2 _ rfl, NcJ.ext s0 he⟩)
       have HU := Lib.hid (show (upd V 2 (.bool false)) 1 = .bool true from e1)
       clear hK hC hW hL HV s0
       rw [HFR.out, e1]
       clear e1
       go_wp2_with fail
       show K _ _; have := H.out _ (Ext.refl _); rw [HFR.out] at this
       obtain u1 := HU.out
       rw [u1] at this
       exact this
      ·rintro L A W K hL hC hW ⟨V, rfl, HV, s0⟩ hK
       have e2 := HV 2 _ rfl (hW 2 rfl)
       have H := Lib.hid (show ∀ W', Ext W W' → K (fr (upd V 3 (.bool false))) W' from fun W' he => hK _ _ ⟨_, rfl, HV.us 3 _ rfl, NcJ.ext s0 he⟩)
       have HU := Lib.hid (show (upd V 3 (.bool false)) 2 = .bool false from e2)
       clear hK hC hW hL HV s0
       rw [HFR.out, e2]
       clear e2
       go_wp2_with fail
       show K _ _; have := H.out _ (Ext.refl _); rw [HFR.out] at this
       obtain u2 := HU.out
       rw [u2] at this
       exact this
      ·rintro L A W K hL hC hW ⟨V, rfl, HV, s0⟩ hK
       have e3 := HV 3 _ rfl (hW 3 rfl)
       have H := Lib.hid (show ∀ W', Ext W W' → K (fr (upd V 4 (.int .i64 ((k + 1 : Nat) : Int)))) W' from fun W' he => hK _ _ ⟨_, rfl, HV.us 4 _ rfl, NcJ.ext s0 he⟩)
       have HU := Lib.hid (show (upd V 4 (.int .i64 ((k + 1 : Nat) : Int))) 3 = .bool false from e3)
       clear hK hC hW hL HV s0
       rw [HFR.out, e3]
       clear e3
       go_wp2_with fail
       show K _ _; have := H.out _ (Ext.refl _); rw [HFR.out] at this
       obtain u3 := HU.out
       rw [u3] at this
       exact this
      ·rintro L A W K hL hC hW ⟨V, rfl, HV, s0⟩ hK
       have e3 := HV 3 _ rfl (hW 3 rfl)
       have e4 := HV 4 _ rfl (hW 4 rfl)
       have H := Lib.hid (show ∀ W', Ext W W' → K (fr (upd V 5 (.bool true))) W' from fun W' he => hK _ _ ⟨_, rfl, HV.us 5 _ rfl, NcJ.ext s0 he⟩)
       have HU := Lib.hid (show (upd V 5 (.bool true)) 3 = .bool false ∧ (upd V 5 (.bool true)) 4 = .int .i64 ((k + 1 : Nat) : Int) from ⟨e3, e4⟩)
       clear hK hC hW hL HV s0
       rw [HFR.out, e3, e4]
       clear e3 e4
       go_wp2_with fail
       show K _ _; have := H.out _ (Ext.refl _); rw [HFR.out] at this
       obtain ⟨u3, u4⟩ := HU.out
       rw [u3, u4] at this
       exact this
      ·rintro L A W K hL hC hW ⟨V, rfl, HV, s0⟩ hK
       have e3 := HV 3 _ rfl (hW 3 rfl)
       have e5 := HV 5 _ rfl (hW 5 rfl)
       have H := Lib.hid (show ∀ W', Ext W W' → K (fr (upd V 6 (.bool true))) W' from fun W' he => hK _ _ ⟨_, rfl, HV.us 6 _ rfl, NcJ.ext s0 he⟩)
       have HU := Lib.hid (show (upd V 6 (.bool true)) 3 = .bool false ∧ (upd V 6 (.bool true)) 5 = .bool true from ⟨e3, e5⟩)
       clear hK hC hW hL HV s0
       rw [HFR.out, e3, e5]
       clear e3 e5
       go_wp2_with fail
       show K _ _; have := H.out _ (Ext.refl _); rw [HFR.out] at this
       obtain ⟨u3, u5⟩ := HU.out
       rw [u3, u5] at this
       exact this
      ·rintro L A W K hL hC hW ⟨V, rfl, HV, s0⟩ hK
       have e6 := HV 6 _ rfl (hW 6 rfl)
       have H := Lib.hid (show ∀ W', Ext W W' → K (fr (upd V 7 (.slice (some ⟨bb, oo, none⟩) l.length c))) W' from fun W' he => hK _ _ ⟨_, rfl, HV.us 7 _ rfl, NcJ.ext s0 he⟩)
       have HU := Lib.hid (show (upd V 7 (.slice (some ⟨bb, oo, none⟩) l.length c)) 6 = .bool true from e6)
       clear hK hC hW hL HV s0
       rw [HFR.out, e6]
       clear e6
       go_wp2_with fail
       show K _ _; have := H.out _ (Ext.refl _); rw [HFR.out] at this
       obtain u6 := HU.out
       rw [u6] at this
       exact this
      ·rintro L A W K hL hC hW ⟨V, rfl, HV, s0⟩ hK
       have e6 := HV 6 _ rfl (hW 6 rfl)
       have H := Lib.hid (show ∀ W', Ext W W' → K (fr (upd V 8 (.int .i64 ((k + 1 : Nat) : Int)))) W' from fun W' he => hK _ _ ⟨_, rfl, HV.us 8 _ rfl, NcJ.ext s0 he⟩)
       have HU := Lib.hid (show (upd V 8 (.int .i64 ((k + 1 : Nat) : Int))) 6 = .bool true from e6)
       clear hK hC hW hL HV s0
       rw [HFR.out, e6]
       clear e6
       go_wp2_with fail
       show K _ _; have := H.out _ (Ext.refl _); rw [HFR.out] at this
       obtain u6 := HU.out
       rw [u6] at this
       exact this
      ·rintro L A W K hL hC hW ⟨V, rfl, HV, s0⟩ hK
       have e6 := HV 6 _ rfl (hW 6 rfl)
       have e8 := HV 8 _ rfl (hW 8 rfl)
       have H := Lib.hid (show ∀ W', Ext W W' → K (fr (upd V 9 (.int .i64 (k : Nat)))) W' from fun W' he => hK _ _ ⟨_, rfl, HV.us 9 _ rfl, NcJ.ext s0 he⟩)
       have HU := Lib.hid (show (upd V 9 (.int .i64 (k : Nat))) 6 = .bool true ∧ (upd V 9 (.int .i64 (k : Nat))) 8 = .int .i64 ((k + 1 : Nat) : Int) from ⟨e6, e8⟩)
       clear hK hC hW hL HV s0
       rw [HFR.out, e6, e8]
       clear e6 e8
       go_wp2_with fail
       show K _ _; have := H.out _ (Ext.refl _); rw [HFR.out] at this
       obtain ⟨u6, u8⟩ := HU.out
       rw [u6, u8] at this
       exact this
      ·rintro L A W K hL hC hW ⟨V, rfl, HV, s0⟩ hK
       have e6 := HV 6 _ rfl (hW 6 rfl)
       have e7 := HV 7 _ rfl (hW 7 rfl)
       have e9 := HV 9 _ rfl (hW 9 rfl)
       have H := Lib.hid (show ∀ W', Ext W W' → K (fr (upd V 10 (.pointer (some ⟨bb, oo + k * 6, none⟩)))) W' from fun W' he => hK _ _ ⟨_, rfl, HV.us 10 _ rfl, NcJ.ext s0 he⟩)
       have HU := Lib.hid (show (upd V 10 (.pointer (some ⟨bb, oo + k * 6, none⟩))) 6 = .bool true ∧ (upd V 10 (.pointer (some ⟨bb, oo + k * 6, none⟩))) 7 = .slice (some ⟨bb, oo, none⟩) l.length c ∧ (upd V 10 (.pointer (some ⟨bb, oo + k * 6, none⟩))) 9 = .int .i64 (k : Nat) from ⟨e6, e7, e9⟩)
       clear hK hC hW hL HV s0
       rw [HFR.out, e6, e7, e9]
       clear e6 e7 e9
       go_wp2_with fail
       show K _ _; have := H.out _ (Ext.refl _); rw [HFR.out] at this
       obtain ⟨u6, u7, u9⟩ := HU.out
       rw [u6, u7, u9] at this
       exact this
      ·rintro L A W K hL hC hW ⟨V, rfl, HV, s0⟩ hK
       have e6 := HV 6 _ rfl (hW 6 rfl)
       have e10 := HV 10 _ rfl (hW 10 rfl)
       have hB := s0
       have H := Lib.hid (show ∀ W', Ext W W' → K (fr (upd V 11 (.agg (nnc q)))) W' from fun W' he => hK _ _ ⟨_, rfl, HV.us 11 _ rfl, NcJ.ext s0 he⟩)
       have HU := Lib.hid (show (upd V 11 (.agg (nnc q))) 6 = .bool true ∧ (upd V 11 (.agg (nnc q))) 10 = .pointer (some ⟨bb, oo + k * 6, none⟩) from ⟨e6, e10⟩)
       clear hK hC hW hL HV s0
       rw [HFR.out, e6, e10]
       clear e6 e10
       have HWW := Lib.hid (fun (j : Nat) (x : Value) (hx : (nnc q).toList[j]? = some x) => hB.2.cell (HQ.out j x hx))
       clear hB
       refine wpList_load_nn rfl (.tmp 25) rfl bb (oo + k * 6) q rfl HWW.out ?_
       show K _ _; have := H.out _ (Ext.refl _); rw [HFR.out] at this
       obtain ⟨u6, u10⟩ := HU.out
       rw [u6, u10] at this
       exact this
      ·rintro L A W K hL hC hW ⟨V, rfl, HV, s0⟩ hK
       have e6 := HV 6 _ rfl (hW 6 rfl)
       have e11 := HV 11 _ rfl (hW 11 rfl)
       have hB := s0
       have H := Lib.hid (show ∀ W', Ext W W' → K (fr (upd V 12 (.agg (okc q.addr q.key)))) W' from fun W' he => hK _ _ ⟨_, rfl, HV.us 12 _ rfl, NcJ.ext s0 he⟩)
       have HU := Lib.hid (show (upd V 12 (.agg (okc q.addr q.key))) 6 = .bool true ∧ (upd V 12 (.agg (okc q.addr q.key))) 11 = .agg (nnc q) from ⟨e6, e11⟩)
       clear hK hC hW hL HV s0
       rw [HFR.out, e6, e11]
       clear e6 e11
       clear hB
       go_wp2_with fail
       refine (keyOf_any q _).mono ?_
       rintro e wx ⟨rfl, he⟩
       have := H.out _ he
       clear H
       go_wp2_with fail
       show K _ _
       rw [HFR.out] at this
       obtain ⟨u6, u11⟩ := HU.out
       rw [u6, u11] at this
       exact this
      ·rintro L A W K hL hC hW ⟨V, rfl, HV, s0⟩ hK
       have e6 := HV 6 _ rfl (hW 6 rfl)
       have hB := s0
       have H := Lib.hid (show ∀ W', Ext W W' → K (fr (upd V 13 (.agg (nnc p)))) W' from fun W' he => hK _ _ ⟨_, rfl, HV.us 13 _ rfl, NcJ.ext s0 he⟩)
       have HU := Lib.hid (show (upd V 13 (.agg (nnc p))) 6 = .bool true from e6)
       clear hK hC hW hL HV s0
       rw [HFR.out, e6]
       clear e6
       have HWW := Lib.hid (Cs.rg hB.1)
       clear hB
       refine wpList_load_nn rfl (.tmp 4) rfl g4 0 p rfl HWW.out ?_
       show K _ _; have := H.out _ (Ext.refl _); rw [HFR.out] at this
       obtain u6 := HU.out
       rw [u6] at this
       exact this
      ·rintro L A W K hL hC hW ⟨V, rfl, HV, s0⟩ hK
       have e6 := HV 6 _ rfl (hW 6 rfl)
       have e13 := HV 13 _ rfl (hW 13 rfl)
       have hB := s0
       have H := Lib.hid (show ∀ W', Ext W W' → K (fr (upd V 14 (.agg (okc p.addr p.key)))) W' from fun W' he => hK _ _ ⟨_, rfl, HV.us 14 _ rfl, NcJ.ext s0 he⟩)
       have HU := Lib.hid (show (upd V 14 (.agg (okc p.addr p.key))) 6 = .bool true ∧ (upd V 14 (.agg (okc p.addr p.key))) 13 = .agg (nnc p) from ⟨e6, e13⟩)
       clear hK hC hW hL HV s0
       rw [HFR.out, e6, e13]
       clear e6 e13
       clear hB
       go_wp2_with fail
       refine (keyOf_any p _).mono ?_
       rintro e wx ⟨rfl, he⟩
       have := H.out _ he
       clear H
       go_wp2_with fail
       show K _ _
       rw [HFR.out] at this
       obtain ⟨u6, u13⟩ := HU.out
       rw [u6, u13] at this
       exact this
      ·rintro L A W K hL hC hW ⟨V, rfl, HV, s0⟩ hK
       have e6 := HV 6 _ rfl (hW 6 rfl)
       have e12 := HV 12 _ rfl (hW 12 rfl)
       have e14 := HV 14 _ rfl (hW 14 rfl)
       have hB := s0
       have H := Lib.hid (show ∀ W', Ext W W' → K (fr (upd V 15 (.int .i64 (cmpN q.cod p.cod)))) W' from fun W' he => hK _ _ ⟨_, rfl, HV.us 15 _ rfl, NcJ.ext s0 he⟩)
       have HU := Lib.hid (show (upd V 15 (.int .i64 (cmpN q.cod p.cod))) 6 = .bool true ∧ (upd V 15 (.int .i64 (cmpN q.cod p.cod))) 12 = .agg (okc q.addr q.key) ∧ (upd V 15 (.int .i64 (cmpN q.cod p.cod))) 14 = .agg (okc p.addr p.key) from ⟨e6, e12, e14⟩)
       clear hK hC hW hL HV s0
       rw [HFR.out, e6, e12, e14]
       clear e6 e12 e14
       clear hB
       go_wp2_with fail
       refine (compareK_any q.addr q.key p.addr p.key _ HQK.out HPK.out).mono ?_
       rintro e wx ⟨rfl, he⟩
       have := H.out _ he
       clear H
       go_wp2_with fail
       show K _ _
       rw [HFR.out] at this
       obtain ⟨u6, u12, u14⟩ := HU.out
       rw [u6, u12, u14] at this
       exact this
      ·rintro L A W K hL hC hW ⟨V, rfl, HV, s0⟩ hK
       have e6 := HV 6 _ rfl (hW 6 rfl)
       have e15 := HV 15 _ rfl (hW 15 rfl)
       have H := Lib.hid (show ∀ W', Ext W W' → K (fr (upd V 16 (.bool (!decide (q.cod < p.cod))))) W' from fun W' he => hK _ _ ⟨_, rfl, HV.us 16 _ rfl, NcJ.ext s0 he⟩)
       have HU := Lib.hid (show (upd V 16 (.bool (!decide (q.cod < p.cod)))) 6 = .bool true ∧ (upd V 16 (.bool (!decide (q.cod < p.cod)))) 15 = .int .i64 (cmpN q.cod p.cod) from ⟨e6, e15⟩)
       clear hK hC hW hL HV s0
       rw [HFR.out, e6, e15]
       clear e6 e15
       go_wp2_with fail
       rw [HGE.out]
       show K _ _; have := H.out _ (Ext.refl _); rw [HFR.out] at this
       obtain ⟨u6, u15⟩ := HU.out
       rw [u6, u15] at this
       exact this
      ·rintro L A W K hL hC hW ⟨V, rfl, HV, s0⟩ hK
       have e3 := HV 3 _ rfl (hW 3 rfl)
       have e6 := HV 6 _ rfl (hW 6 rfl)
       have e16 := HV 16 _ rfl (hW 16 rfl)
       have H := Lib.hid (show ∀ W', Ext W W' → K (fr (upd V 17 (.bool (!decide (q.cod < p.cod))))) W' from fun W' he => hK _ _ ⟨_, rfl, HV.us 17 _ rfl, NcJ.ext s0 he⟩)
       have HU := Lib.hid (show (upd V 17 (.bool (!decide (q.cod < p.cod)))) 3 = .bool false ∧ (upd V 17 (.bool (!decide (q.cod < p.cod)))) 6 = .bool true ∧ (upd V 17 (.bool (!decide (q.cod < p.cod)))) 16 = .bool (!decide (q.cod < p.cod)) from ⟨e3, e6, e16⟩)
       clear hK hC hW hL HV s0
       rw [HFR.out, e3, e6, e16]
       clear e3 e6 e16
       go_wp2_with fail
       show K _ _; have := H.out _ (Ext.refl _); rw [HFR.out] at this
       obtain ⟨u3, u6, u16⟩ := HU.out
       rw [u3, u6, u16] at this
       exact this
      ·rintro L A W K hL hC hW ⟨V, rfl, HV, s0⟩ hK
       have e3 := HV 3 _ rfl (hW 3 rfl)
       have e17 := HV 17 _ rfl (hW 17 rfl)
       have H := Lib.hid (show ∀ W', Ext W W' → K (fr (upd V 18 (.bool (!decide (q.cod < p.cod))))) W' from fun W' he => hK _ _ ⟨_, rfl, HV.us 18 _ rfl, NcJ.ext s0 he⟩)
       have HU := Lib.hid (show (upd V 18 (.bool (!decide (q.cod < p.cod)))) 3 = .bool false ∧ (upd V 18 (.bool (!decide (q.cod < p.cod)))) 17 = .bool (!decide (q.cod < p.cod)) from ⟨e3, e17⟩)
       clear hK hC hW hL HV s0
       rw [HFR.out, e3, e17]
       clear e3 e17
       go_wp2_with fail
       show K _ _; have := H.out _ (Ext.refl _); rw [HFR.out] at this
       obtain ⟨u3, u17⟩ := HU.out
       rw [u3, u17] at this
       exact this
      ·rintro L A W hL ⟨V, rfl, HV, s0⟩
       have e0 := HV 0 _ rfl (hL 0 (by simp))
       have e1 := HV 1 _ rfl (hL 1 (by simp))
       have e2 := HV 2 _ rfl (hL 2 (by simp))
       have e3 := HV 3 _ rfl (hL 3 (by simp))
       have e4 := HV 4 _ rfl (hL 4 (by simp))
       have e5 := HV 5 _ rfl (hL 5 (by simp))
       have e6 := HV 6 _ rfl (hL 6 (by simp))
       have e7 := HV 7 _ rfl (hL 7 (by simp))
       have e8 := HV 8 _ rfl (hL 8 (by simp))
       have e9 := HV 9 _ rfl (hL 9 (by simp))
       have e10 := HV 10 _ rfl (hL 10 (by simp))
       have e11 := HV 11 _ rfl (hL 11 (by simp))
       have e12 := HV 12 _ rfl (hL 12 (by simp))
       have e13 := HV 13 _ rfl (hL 13 (by simp))
       have e14 := HV 14 _ rfl (hL 14 (by simp))
       have e15 := HV 15 _ rfl (hL 15 (by simp))
       have e16 := HV 16 _ rfl (hL 16 (by simp))
       have e17 := HV 17 _ rfl (hL 17 (by simp))
       have e18 := HV 18 _ rfl (hL 18 (by simp))
       have hA := s0
       rw [HFR.out, e0, e1, e2, e3, e4, e5, e6, e7, e8, e9, e10, e11, e12, e13, e14, e15, e16, e17, e18]
       clear hL HV HFR e0 e1 e2 e3 e4 e5 e6 e7 e8 e9 e10 e11 e12 e13 e14 e15 e16 e17 e18 s0
       have HXN := Lib.hid (HXW.out.trans hA.2)
       clear hA
       cases hx : decide (q.cod < p.cod) with
       | false =>
        have HF := Lib.hid (rightN_row (k + 1) hlt (by rw [HRG.out, HMB.out, hx]; simp))
        clear hx
        go_wp2_with fail
        refine bodyPost_ret (results_tmp rfl _ _ _) rfl ?_
        exact ⟨by rw [chkN_no HF.out]; rfl, HXN.out⟩
       | true =>
        have HT := Lib.hid (show rgN l (k + 1) = true by rw [HRG.out, HMB.out, hx]; simp)
        clear hx
        go_wp2_with fail
        exact ⟨⟨k + 1 + 1, by omega, by go_num, Lib.hid ⟨fun i hi => by
         rcases Nat.lt_or_ge i (k + 1) with h | h
         ·exact HIB.out i h
         ·obtain rfl : i = k + 1 := by omega
          exact HT.out, HXN.out⟩⟩, by simp [intOf]; omega⟩
   ·obtain rfl : k = l.length := by omega
    have hd : decide (l.length < l.length) = false := decide_eq_false (by omega)
    have hd2 : decide ((l.length : Int) < (l.length : Int)) = false := decide_eq_false (by omega)
    have HF := Lib.hid (rightN_all HL.out HJ0.out.1)
    have HX := Lib.hid HJ0.out.2
    go_wp2_with fail
    refine bodyPost_ret (results_tmp rfl _ _ _) rfl ?_
    exact ⟨by rw [chkN_yes HF.out]; rfl, HX.out⟩
 ·have hd : decide (48 < l.length) = true := decide_eq_true (by omega)
  have hd2 : decide ((48 : Int) < (l.length : Int)) = true := decide_eq_true (by omega)
  have HF := Lib.hid (rightN_long hl)
  go_wp2_with fail
  refine bodyPost_ret (results_tmp rfl _ _ _) rfl ?_
  exact ⟨by rw [chkN_no HF.out]; rfl, Ext.refl _⟩
end Go.Proofs.YtnjpdchmdimaaaaGreat
