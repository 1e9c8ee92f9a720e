/- Package access: which stands ahead of which. -/
import Derived.Test.YtnjpdchmdimaaaaGreatQAcm
import Derived.Test.YtnjpdchmdimaaaaGreatQWsq
namespace Go.Proofs.YtnjpdchmdimaaaaGreat
open Go.ChangeShapes Go.WideShapes Go.ChangeAt Go.RowKit Go.Shelf

set_option maxRecDepth 100000 in
set_option maxHeartbeats 2000000 in
theorem isNaNAx_any (x : Nat) (w : World) : Calls Tryz.prog 145 #[.int .u64 (x : Nat)] w fun e w' => e = .returned (.bool false) ∧ w = w' := by
 have hd : (((x : Nat) : Int) != (x : Int)) = false := by simp
 go_enter Tryz.func145, Tryz.ntmps145
 go_wp2_with fail
 go_ret
 exact ⟨rfl, rfl⟩
set_option maxRecDepth 100000 in
set_option maxHeartbeats 2000000 in
theorem compareAx_any (x y : Nat) (w : World) : Calls Tryz.prog 129 #[.int .u64 (x : Nat), .int .u64 (y : Nat)] w fun e w' => e = .returned (.int .i64 (cmpN x y)) ∧ w = w' := by
 go_enter Tryz.func129, Tryz.ntmps129
 go_wp2_with fail
 refine (isNaNAx_any x _).mono ?_
 rintro e w2 ⟨rfl, rfl⟩
 go_wp2_with fail
 refine (isNaNAx_any y _).mono ?_
 rintro e w3 ⟨rfl, rfl⟩
 have HC : Hid (cmpN x y = if x < y then -1 else if y < x then 1 else 0) := Lib.hid rfl
 by_cases h1 : x < y
 ·have f1 : decide (x < y) = true := decide_eq_true h1
  have f2 : decide ((x : Int) < (y : Int)) = true := decide_eq_true (by omega)
  have H1 := Lib.hid h1
  clear h1
  go_wp2_with fail
  go_ret
  exact ⟨by rw [HC.out, if_pos H1.out]; rfl, rfl⟩
 ·have f1 : decide (x < y) = false := decide_eq_false h1
  have f2 : decide ((x : Int) < (y : Int)) = false := decide_eq_false (by omega)
  have H1 := Lib.hid h1
  clear h1
  by_cases h3 : y < x
  ·have f3 : decide (y < x) = true := decide_eq_true h3
   have f4 : decide ((y : Int) < (x : Int)) = true := decide_eq_true (by omega)
   have H3 := Lib.hid h3
   clear h3
   go_wp2_with fail
   go_ret
   exact ⟨by rw [HC.out, if_neg H1.out, if_pos H3.out]; rfl, rfl⟩
  ·have f3 : decide (y < x) = false := decide_eq_false h3
   have f4 : decide ((y : Int) < (x : Int)) = false := decide_eq_false (by omega)
   have H3 := Lib.hid h3
   clear h3
   go_wp2_with fail
   go_ret
   exact ⟨by rw [HC.out, if_neg H1.out, if_neg H3.out]; rfl, rfl⟩
def In2x (W : World) (v : Value) (x y : Int) : Prop := ∃ g, v = .slice (some ⟨g, 0, none⟩) 2 2 ∧ Cs W g 3 #[.int .i64 x, .int .i64 y]
theorem In2x.ext {W W' : World} {v : Value} {x y : Int} (h : In2x W v x y) (he : Ext W W') : In2x W' v x y := by
 obtain ⟨g, e, hc⟩ := h
 exact ⟨g, e, Cs.ext hc he⟩
def orCx (x y : Int) : Int := if x = 0 then y else x
set_option maxRecDepth 100000 in
set_option maxHeartbeats 2000000 in
theorem or_anyx (g : Nat) (x y : Int) (w : World) (hg : Cs w g 3 #[.int .i64 x, .int .i64 y]) : Calls Tryz.prog 128 #[.slice (some ⟨g, 0, none⟩) 2 2] w fun e w' => e = .returned (.int .i64 (orCx x y)) ∧ Ext w w' := by
 have HG := Lib.hid hg
 have HO : Hid (orCx x y = if x = 0 then y else x) := Lib.hid rfl
 clear hg
 go_enter Tryz.func128, Tryz.ntmps128
 go_wp2_with fail
 go_loopw [8] (fun iv wr => ∃ k : Nat, k ≤ 2 ∧ iv = .int .i64 k ∧ (0 < k → x = 0) ∧ (1 < k → y = 0) ∧ Hid (Ext w wr)) (fun iv _ => 2 - (intOf iv).toNat)
 case atStart => exact ⟨0, by omega, rfl, fun h => absurd h (by omega), fun h => absurd h (by omega), Lib.hid (Ext.refl _)⟩
 case round =>
  obtain ⟨k, hk, rfl, h0, h1, HX0⟩ := hrel
  have H0 := Lib.hid h0
  have H1 := Lib.hid h1
  clear h0 h1
  have q0 := (Cs.ext HG.out HX0.out).cell 0 _ rfl
  have q1 := (Cs.ext HG.out HX0.out).cell 1 _ rfl
  match k, hk with
  | 0, _ =>
   clear q1
   by_cases hx : x = 0
   ·have hd : (x != 0) = false := by simp [hx]
    have HX := Lib.hid hx
    clear hx
    go_wp2_with fail
    exact ⟨⟨1, by omega, rfl, fun _ => HX.out, fun h => absurd h (by omega), HX0⟩, by simp [intOf]⟩
   ·have hd : (x != 0) = true := by simpa using hx
    have HX := Lib.hid hx
    clear hx
    go_wp2_with fail
    refine bodyPost_ret (results_tmp rfl _ _ _) rfl ?_
    exact ⟨by rw [HO.out, if_neg HX.out]; rfl, HX0.out⟩
  | 1, _ =>
   clear q0
   have HX := Lib.hid (H0.out (by omega))
   by_cases hx : y = 0
   ·have hd : (y != 0) = false := by simp [hx]
    have HY := Lib.hid hx
    clear hx
    go_wp2_with fail
    exact ⟨⟨2, by omega, rfl, fun _ => HX.out, fun _ => HY.out, HX0⟩, by simp [intOf]⟩
   ·have hd : (y != 0) = true := by simpa using hx
    clear hx
    go_wp2_with fail
    refine bodyPost_ret (results_tmp rfl _ _ _) rfl ?_
    exact ⟨by rw [HO.out, if_pos HX.out]; rfl, HX0.out⟩
  | 2, _ =>
   clear q0 q1
   have HX := Lib.hid (H0.out (by omega))
   have HY := Lib.hid (H1.out (by omega))
   go_wp2_with fail
   refine bodyPost_ret (results_tmp rfl _ _ _) rfl ?_
   exact ⟨by rw [HO.out, if_pos HX.out, HY.out]; rfl, HX0.out⟩
theorem orCx_cod {a k b j : Nat} (hk : k < M256) (hj : j < M256) : orCx (cmpN a b) (cmpN k j) = cmpN (ceN a k) (ceN b j) := by
 unfold orCx cmpN
 have h1 := ceN_lt (a := a) (b := b) hk hj
 have h2 := ceN_lt (a := b) (b := a) hj hk
 repeat' split
 all_goals first | rfl | omega
set_option maxRecDepth 100000 in
set_option maxHeartbeats 2000000 in
theorem compareAd_any (x y : Nat) (w : World) : Calls Tryz.prog 114 #[.int .u64 (x : Nat), .int .u64 (y : Nat)] w fun e w' => e = .returned (.int .i64 (cmpN x y)) ∧ Ext w w' := by
 obtain ⟨r, hr⟩ : ∃ r, cmpN x y = r := ⟨_, rfl⟩
 have HC := Lib.hid (fun W => compareAx_any x y W)
 rw [hr] at HC ⊢
 clear hr
 go_enter Tryz.func114, Tryz.ntmps114
 go_wp2_with fail
 refine (HC.out _).mono ?_
 rintro e w2 ⟨rfl, rfl⟩
 go_wp2_with fail
 go_ret
 exact ⟨rfl, Ext.refl _⟩
def CmJx (w : World) (g2 g3 : Nat) (p q : Pe) (W : World) : Prop := BS W g2 p ∧ BS W g3 q ∧ Ext w W
theorem CmJx.ext {w : World} {g2 g3 : Nat} {p q : Pe} {W W' : World} (h : CmJx w g2 g3 p q W) (he : Ext W W') : CmJx w g2 g3 p q W' := ⟨h.1.ext he, h.2.1.ext he, h.2.2.trans he⟩
set_option maxRecDepth 100000 in
set_option maxHeartbeats 2000000 in
theorem compareSp_any (p q : Pe) (w : World) (hk : p.key < M256) (hj : q.key < M256) : Calls Tryz.prog 116 #[.agg (cS p), .agg (cS q)] w fun e w' => e = .returned (.int .i64 (cmpN p.cod q.cod)) ∧ Ext w w' := by
 have HKK := Lib.hid hk
 have HKJ := Lib.hid hj
 have HOR := Lib.hid (orCx_cod (a := p.addr) (b := q.addr) hk hj)
 clear hk hj
 obtain ⟨w1, hw1⟩ : ∃ w1, (w.alloc (.cells (cS p) 115)).alloc (.cells (cS q) 115) = w1 := ⟨_, rfl⟩
 have HJ : Hid (CmJx w w.heap.size (w.heap.size + 1) p q w1) := Lib.hid (by
  rw [← hw1]
  exact ⟨Cs.alloc (Cs.new _ _ _ _ rfl) _, Cs.new _ _ _ _ (by simp), ((Ext.refl w).alloc _).alloc _⟩)
 obtain ⟨pc, hpc⟩ : ∃ pc, cS p = pc := ⟨_, rfl⟩
 obtain ⟨qc, hqc⟩ : ∃ qc, cS q = qc := ⟨_, rfl⟩
 rw [hpc, hqc] at hw1
 rw [hpc, hqc]
 have HW1 := Lib.hid hw1
 clear hw1 hpc hqc
 go_enter Tryz.func116, Tryz.ntmps116
 go_upto_region 1 with fail
 rw [HW1.out]
 clear HW1
 obtain ⟨g3, hg3⟩ : ∃ g, w.heap.size + 1 = g := ⟨_, rfl⟩
 rw [hg3] at HJ ⊢
 obtain ⟨g2, hg2⟩ : ∃ g, w.heap.size = g := ⟨_, rfl⟩
 rw [hg2] at HJ ⊢
 clear hg2 hg3
 refine wp_named fun a0 ha0 => ?_
 obtain ⟨fr, hfr⟩ : ∃ fr : (Nat → Value) → Act, ∀ V, fr V = (((((((((((((a0.put (some 5) (V 0)).put (some 6) (V 1)).put (some 7) (V 2)).put (some 8) (V 3)).put (some 9) (V 4)).put (some 10) (V 5)).put (some 11) (V 6)).put (some 12) (V 7)).put (some 13) (V 8)).put (some 14) (V 9)).put (some 15) (V 10)).put (some 16) (V 11)).put (some 4) (V 12)) := ⟨_, fun _ => rfl⟩
 rw [ha0] at hfr
 simp only [Act.put, List.setIfInBounds_toArray, List.set_cons_zero, List.set_cons_succ] at hfr
 have HFR := Lib.hid hfr
 clear hfr
 refine wp_region_inv (by kernel_rfl) (by kernel_rfl) (fun L A W => ∃ V : Nat → Value, A = fr V ∧ Vals (fun j => ([some (.pointer (some ⟨g2, 0, none⟩)), some (.int .u64 (p.addr : Nat)), some (.pointer (some ⟨g3, 0, none⟩)), some (.int .u64 (q.addr : Nat)), some (.int .i64 (cmpN p.addr q.addr)), some (.pointer (some ⟨g2, 1, none⟩)), some (wv p.key), some (.pointer (some ⟨g3, 1, none⟩)), some (wv q.key), some (.int .i64 (cmpN p.key q.key)), none, some (.int .i64 (orCx (cmpN p.addr q.addr) (cmpN p.key q.key))), some (.int .i64 (orCx (cmpN p.addr q.addr) (cmpN p.key q.key)))] : List (Option Value)).getD j none) L V ∧ (CmJx w g2 g3 p q W) ∧ (L 10 = true → In2x W (V 10) (cmpN p.addr q.addr) (cmpN p.key q.key))) ?_ ⟨?_, ?_, ?_, ?_, ?_, ?_, ?_, ?_, ?_, ?_, ?_, ?_, ?_, trivial⟩ ?_
 ·refine ⟨fun j => a0.tmps.getD (([5, 6, 7, 8, 9, 10, 11, 12, 13, 14, 15, 16, 4] : List Nat).getD j 0) undef, ?_, Vals.no _ _ _ (far_none _ _ rfl), HJ.out.ext ((Ext.refl _).drew), fun h0 => absurd h0 (by decide)⟩
  rw [HFR.out, ha0]
  rfl
 all_goals clear ha0
 ·rintro L A W K hL hC hW ⟨V, rfl, HV, s0, f10⟩ hK
  have H := Lib.hid (show ∀ W', Ext W W' → K (fr (upd V 0 (.pointer (some ⟨g2, 0, none⟩)))) W' from fun W' he => hK _ _ ⟨_, rfl, HV.us 0 _ rfl, CmJx.ext s0 he, fun h0 => In2x.ext (f10 (more_ne h0 rfl)) he⟩)
  clear hK hC hW hL HV s0 f10
  rw [HFR.out]
  go_wp2_with fail
  show K _ _; have := H.out _ (Ext.refl _); rw [HFR.out] at this
  exact this
 ·rintro L A W K hL hC hW ⟨V, rfl, HV, s0, f10⟩ hK
  have e0 := HV 0 _ rfl (hW 0 rfl)
  have hB := s0
  have H := Lib.hid (show ∀ W', Ext W W' → K (fr (upd V 1 (.int .u64 (p.addr : Nat)))) W' from fun W' he => hK _ _ ⟨_, rfl, HV.us 1 _ rfl, CmJx.ext s0 he, fun h0 => mtf (hC.no (hC.no hL 4 _ rfl rfl) 10 _ rfl rfl) (more_ne h0 rfl)⟩)
  have HU := Lib.hid (show (upd V 1 (.int .u64 (p.addr : Nat))) 0 = .pointer (some ⟨g2, 0, none⟩) from e0)
  clear hK hC hW hL HV s0 f10
  rw [HFR.out, e0]
  clear e0
  have qq := hB.1.addr
  clear hB
  go_wp2_with fail
  show K _ _; have := H.out _ (Ext.refl _); rw [HFR.out] at this
  obtain u0 := HU.out
  rw [u0] at this
  exact this
 ·rintro L A W K hL hC hW ⟨V, rfl, HV, s0, f10⟩ hK
  have H := Lib.hid (show ∀ W', Ext W W' → K (fr (upd V 2 (.pointer (some ⟨g3, 0, none⟩)))) W' from fun W' he => hK _ _ ⟨_, rfl, HV.us 2 _ rfl, CmJx.ext s0 he, fun h0 => In2x.ext (f10 (more_ne h0 rfl)) he⟩)
  clear hK hC hW hL HV s0 f10
  rw [HFR.out]
  go_wp2_with fail
  show K _ _; have := H.out _ (Ext.refl _); rw [HFR.out] at this
  exact this
 ·rintro L A W K hL hC hW ⟨V, rfl, HV, s0, f10⟩ hK
  have e2 := HV 2 _ rfl (hW 2 rfl)
  have hB := s0
  have H := Lib.hid (show ∀ W', Ext W W' → K (fr (upd V 3 (.int .u64 (q.addr : Nat)))) W' from fun W' he => hK _ _ ⟨_, rfl, HV.us 3 _ rfl, CmJx.ext s0 he, fun h0 => In2x.ext (f10 (more_ne h0 rfl)) he⟩)
  have HU := Lib.hid (show (upd V 3 (.int .u64 (q.addr : Nat))) 2 = .pointer (some ⟨g3, 0, none⟩) from e2)
  clear hK hC hW hL HV s0 f10
  rw [HFR.out, e2]
  clear e2
  have qq := hB.2.1.addr
  clear hB
  go_wp2_with fail
  show K _ _; have := H.out _ (Ext.refl _); rw [HFR.out] at this
  obtain u2 := HU.out
  rw [u2] at this
  exact this
 ·rintro L A W K hL hC hW ⟨V, rfl, HV, s0, f10⟩ hK
  have e1 := HV 1 _ rfl (hW 1 rfl)
  have e3 := HV 3 _ rfl (hW 3 rfl)
  have hB := s0
  have H := Lib.hid (show ∀ W', Ext W W' → K (fr (upd V 4 (.int .i64 (cmpN p.addr q.addr)))) W' from fun W' he => hK _ _ ⟨_, rfl, HV.us 4 _ rfl, CmJx.ext s0 he, fun h0 => In2x.ext (f10 (more_ne h0 rfl)) he⟩)
  have HU := Lib.hid (show (upd V 4 (.int .i64 (cmpN p.addr q.addr))) 1 = .int .u64 (p.addr : Nat) ∧ (upd V 4 (.int .i64 (cmpN p.addr q.addr))) 3 = .int .u64 (q.addr : Nat) from ⟨e1, e3⟩)
  clear hK hC hW hL HV s0 f10
  rw [HFR.out, e1, e3]
  clear e1 e3
  clear hB
  go_wp2_with fail
  refine (compareAd_any p.addr q.addr _).mono ?_
  rintro e wx ⟨rfl, he⟩
  have := H.out _ he
  clear H
  go_wp2_with fail
  show K _ _
  rw [HFR.out] at this
  obtain ⟨u1, u3⟩ := HU.out
  rw [u1, u3] at this
  exact this
 ·rintro L A W K hL hC hW ⟨V, rfl, HV, s0, f10⟩ hK
  have H := Lib.hid (show ∀ W', Ext W W' → K (fr (upd V 5 (.pointer (some ⟨g2, 1, none⟩)))) W' from fun W' he => hK _ _ ⟨_, rfl, HV.us 5 _ rfl, CmJx.ext s0 he, fun h0 => In2x.ext (f10 (more_ne h0 rfl)) he⟩)
  clear hK hC hW hL HV s0 f10
  rw [HFR.out]
  go_wp2_with fail
  show K _ _; have := H.out _ (Ext.refl _); rw [HFR.out] at this
  exact this
 ·rintro L A W K hL hC hW ⟨V, rfl, HV, s0, f10⟩ hK
  have e5 := HV 5 _ rfl (hW 5 rfl)
  have hB := s0
  have H := Lib.hid (show ∀ W', Ext W W' → K (fr (upd V 6 (wv p.key))) W' from fun W' he => hK _ _ ⟨_, rfl, HV.us 6 _ rfl, CmJx.ext s0 he, fun h0 => In2x.ext (f10 (more_ne h0 rfl)) he⟩)
  have HU := Lib.hid (show (upd V 6 (wv p.key)) 5 = .pointer (some ⟨g2, 1, none⟩) from e5)
  clear hK hC hW hL HV s0 f10
  rw [HFR.out, e5]
  clear e5
  have HWW := Lib.hid hB.1.key
  clear hB
  refine wpList_load_wordIn rfl (.tmp 10) rfl g2 1 p.key rfl HWW.out ?_
  show K _ _; have := H.out _ (Ext.refl _); rw [HFR.out] at this
  obtain u5 := HU.out
  rw [u5] at this
  exact this
 ·rintro L A W K hL hC hW ⟨V, rfl, HV, s0, f10⟩ hK
  have H := Lib.hid (show ∀ W', Ext W W' → K (fr (upd V 7 (.pointer (some ⟨g3, 1, none⟩)))) W' from fun W' he => hK _ _ ⟨_, rfl, HV.us 7 _ rfl, CmJx.ext s0 he, fun h0 => In2x.ext (f10 (more_ne h0 rfl)) he⟩)
  clear hK hC hW hL HV s0 f10
  rw [HFR.out]
  go_wp2_with fail
  show K _ _; have := H.out _ (Ext.refl _); rw [HFR.out] at this
  exact this
 ·rintro L A W K hL hC hW ⟨V, rfl, HV, s0, f10⟩ hK
  have e7 := HV 7 _ rfl (hW 7 rfl)
  have hB := s0
  have H := Lib.hid (show ∀ W', Ext W W' → K (fr (upd V 8 (wv q.key))) W' from fun W' he => hK _ _ ⟨_, rfl, HV.us 8 _ rfl, CmJx.ext s0 he, fun h0 => In2x.ext (f10 (more_ne h0 rfl)) he⟩)
  have HU := Lib.hid (show (upd V 8 (wv q.key)) 7 = .pointer (some ⟨g3, 1, none⟩) from e7)
  clear hK hC hW hL HV s0 f10
  rw [HFR.out, e7]
  clear e7
  have HWW := Lib.hid hB.2.1.key
  clear hB
  refine wpList_load_wordIn rfl (.tmp 12) rfl g3 1 q.key rfl HWW.out ?_
  show K _ _; have := H.out _ (Ext.refl _); rw [HFR.out] at this
  obtain u7 := HU.out
  rw [u7] at this
  exact this
 ·rintro L A W K hL hC hW ⟨V, rfl, HV, s0, f10⟩ hK
  have e6 := HV 6 _ rfl (hW 6 rfl)
  have e8 := HV 8 _ rfl (hW 8 rfl)
  have hB := s0
  have H := Lib.hid (show ∀ W', Ext W W' → K (fr (upd V 9 (.int .i64 (cmpN p.key q.key)))) W' from fun W' he => hK _ _ ⟨_, rfl, HV.us 9 _ rfl, CmJx.ext s0 he, fun h0 => In2x.ext (f10 (more_ne h0 rfl)) he⟩)
  have HU := Lib.hid (show (upd V 9 (.int .i64 (cmpN p.key q.key))) 6 = wv p.key ∧ (upd V 9 (.int .i64 (cmpN p.key q.key))) 8 = wv q.key from ⟨e6, e8⟩)
  clear hK hC hW hL HV s0 f10
  rw [HFR.out, e6, e8]
  clear e6 e8
  clear hB
  go_wp2_with fail
  refine (cmp_any p.key q.key _ HKK.out HKJ.out).mono ?_
  rintro e wx ⟨rfl, he⟩
  have := H.out _ he
  clear H
  go_wp2_with fail
  show K _ _
  rw [HFR.out] at this
  obtain ⟨u6, u8⟩ := HU.out
  rw [u6, u8] at this
  exact this
 ·rintro L A W K hL hC hW ⟨V, rfl, HV, s0, f10⟩ hK
  have e4 := HV 4 _ rfl (hW 4 rfl)
  have e9 := HV 9 _ rfl (hW 9 rfl)
  have H := Lib.hid (show ∀ v W', Ext W W' → (In2x W' v (cmpN p.addr q.addr) (cmpN p.key q.key)) → K (fr (upd V 10 v)) W' from fun v W' he hp => hK _ _ ⟨_, rfl, HV.un 10 _ rfl, CmJx.ext s0 he, fun h0 => hp⟩)
  have HU := Lib.hid (show ∀ v, (upd V 10 v) 4 = .int .i64 (cmpN p.addr q.addr) ∧ (upd V 10 v) 9 = .int .i64 (cmpN p.key q.key) from fun v => ⟨e4, e9⟩)
  clear hK hC hW hL HV s0 f10
  rw [HFR.out, e4, e9]
  clear e4 e9
  go_wp2_with fail
  show K _ _; have := H.out (.slice (some ⟨W.heap.size, 0, none⟩) 2 2) _ ((Ext.refl W).alloc (.cells #[.int .i64 (cmpN p.addr q.addr), .int .i64 (cmpN p.key q.key)] 3)) (⟨_, rfl, Cs.new _ _ _ _ rfl⟩); rw [HFR.out] at this
  obtain ⟨u4, u9⟩ := HU.out _
  rw [u4, u9] at this
  exact this
 ·rintro L A W K hL hC hW ⟨V, rfl, HV, s0, f10⟩ hK
  have hB := s0
  have q10 := f10 (hW 10 rfl)
  obtain ⟨g10, e10, z10⟩ := q10
  have H := Lib.hid (show ∀ W', Ext W W' → K (fr (upd V 11 (.int .i64 (orCx (cmpN p.addr q.addr) (cmpN p.key q.key))))) W' from fun W' he => hK _ _ ⟨_, rfl, HV.us 11 _ rfl, CmJx.ext s0 he, fun h0 => In2x.ext (f10 (more_ne h0 rfl)) he⟩)
  have HU := Lib.hid (show (upd V 11 (.int .i64 (orCx (cmpN p.addr q.addr) (cmpN p.key q.key)))) 10 = .slice (some ⟨g10, 0, none⟩) 2 2 from e10)
  clear hK hC hW hL HV s0 f10
  rw [HFR.out, e10]
  clear e10
  clear hB
  go_wp2_with fail
  refine (or_anyx g10 (cmpN p.addr q.addr) (cmpN p.key q.key) _ z10).mono ?_
  rintro e wx ⟨rfl, he⟩
  have := H.out _ he
  clear H
  go_wp2_with fail
  show K _ _
  rw [HFR.out] at this
  obtain u10 := HU.out
  rw [u10] at this
  exact this
 ·rintro L A W K hL hC hW ⟨V, rfl, HV, s0, f10⟩ hK
  have e11 := HV 11 _ rfl (hW 11 rfl)
  have H := Lib.hid (show ∀ W', Ext W W' → K (fr (upd V 12 (.int .i64 (orCx (cmpN p.addr q.addr) (cmpN p.key q.key))))) W' from fun W' he => hK _ _ ⟨_, rfl, HV.us 12 _ rfl, CmJx.ext s0 he, fun h0 => In2x.ext (f10 (more_ne h0 rfl)) he⟩)
  have HU := Lib.hid (show (upd V 12 (.int .i64 (orCx (cmpN p.addr q.addr) (cmpN p.key q.key)))) 11 = .int .i64 (orCx (cmpN p.addr q.addr) (cmpN p.key q.key)) from e11)
  clear hK hC hW hL HV s0 f10
  rw [HFR.out, e11]
  clear e11
  go_wp2_with fail
  show K _ _; have := H.out _ (Ext.refl _); rw [HFR.out] at this
  obtain u11 := HU.out
  rw [u11] at this
  exact this
 ·rintro L A W hL ⟨V, rfl, HV, s0, f10⟩
  have e0 := HV 0 _ rfl (hL 0 (by simp))
  have e1 := HV 1 _ rfl (hL 1 (by simp))
  have e2 := HV 2 _ rfl (hL 2 (by simp))
  have e3 := HV 3 _ rfl (hL 3 (by simp))
  have e4 := HV 4 _ rfl (hL 4 (by simp))
  have e5 := HV 5 _ rfl (hL 5 (by simp))
  have e6 := HV 6 _ rfl (hL 6 (by simp))
  have e7 := HV 7 _ rfl (hL 7 (by simp))
  have e8 := HV 8 _ rfl (hL 8 (by simp))
  have e9 := HV 9 _ rfl (hL 9 (by simp))
  have e11 := HV 11 _ rfl (hL 11 (by simp))
  have e12 := HV 12 _ rfl (hL 12 (by simp))
  have hA := s0
  have p15 := f10 (hL 10 (by simp))
  rw [HFR.out, e0, e1, e2, e3, e4, e5, e6, e7, e8, e9, e11, e12]
  clear hL HV HFR e0 e1 e2 e3 e4 e5 e6 e7 e8 e9 e11 e12 s0 f10
  go_wp2_with fail
  refine bodyPost_ret (results_tmp rfl _ _ _) rfl ?_
  exact ⟨by rw [show p.cod = ceN p.addr p.key from rfl, show q.cod = ceN q.addr q.key from rfl, ← HOR.out]; rfl, hA.2.2⟩
def CmP (w : World) (g2 g3 : Nat) (p q : Pe) (W : World) : Prop := BP W g2 p ∧ BP W g3 q ∧ Ext w W
theorem CmP.ext {w : World} {g2 g3 : Nat} {p q : Pe} {W W' : World} (h : CmP w g2 g3 p q W) (he : Ext W W') : CmP w g2 g3 p q W' := ⟨h.1.ext he, h.2.1.ext he, h.2.2.trans he⟩
set_option maxRecDepth 100000 in
set_option maxHeartbeats 2000000 in
theorem comparePa_any (p q : Pe) (w : World) (hk : p.key < M256) (hj : q.key < M256) : Calls Tryz.prog 118 #[.agg (cP p), .agg (cP q)] w fun e w' => e = .returned (.int .i64 (cmpN p.cod q.cod)) ∧ Ext w w' := by
 have HKK := Lib.hid hk
 have HKJ := Lib.hid hj
 have HOR := Lib.hid (orCx_cod (a := p.addr) (b := q.addr) hk hj)
 clear hk hj
 obtain ⟨w1, hw1⟩ : ∃ w1, (w.alloc (.cells (cP p) 118)).alloc (.cells (cP q) 118) = w1 := ⟨_, rfl⟩
 have HJ : Hid (CmP w w.heap.size (w.heap.size + 1) p q w1) := Lib.hid (by
  rw [← hw1]
  exact ⟨Cs.alloc (Cs.new _ _ _ _ rfl) _, Cs.new _ _ _ _ (by simp), ((Ext.refl w).alloc _).alloc _⟩)
 obtain ⟨pc, hpc⟩ : ∃ pc, cP p = pc := ⟨_, rfl⟩
 obtain ⟨qc, hqc⟩ : ∃ qc, cP q = qc := ⟨_, rfl⟩
 rw [hpc, hqc] at hw1
 rw [hpc, hqc]
 have HW1 := Lib.hid hw1
 clear hw1 hpc hqc
 go_enter Tryz.func118, Tryz.ntmps118
 go_upto_region 1 with fail
 rw [HW1.out]
 clear HW1
 obtain ⟨g3, hg3⟩ : ∃ g, w.heap.size + 1 = g := ⟨_, rfl⟩
 rw [hg3] at HJ ⊢
 obtain ⟨g2, hg2⟩ : ∃ g, w.heap.size = g := ⟨_, rfl⟩
 rw [hg2] at HJ ⊢
 clear hg2 hg3
 refine wp_named fun a0 ha0 => ?_
 obtain ⟨fr, hfr⟩ : ∃ fr : (Nat → Value) → Act, ∀ V, fr V = (((((((((((((((((a0.put (some 5) (V 0)).put (some 6) (V 1)).put (some 7) (V 2)).put (some 8) (V 3)).put (some 9) (V 4)).put (some 10) (V 5)).put (some 11) (V 6)).put (some 12) (V 7)).put (some 13) (V 8)).put (some 14) (V 9)).put (some 15) (V 10)).put (some 16) (V 11)).put (some 17) (V 12)).put (some 18) (V 13)).put (some 19) (V 14)).put (some 20) (V 15)).put (some 4) (V 16)) := ⟨_, fun _ => rfl⟩
 rw [ha0] at hfr
 simp only [Act.put, List.setIfInBounds_toArray, List.set_cons_zero, List.set_cons_succ] at hfr
 have HFR := Lib.hid hfr
 clear hfr
 refine wp_region_inv (by kernel_rfl) (by kernel_rfl) (fun L A W => ∃ V : Nat → Value, A = fr V ∧ Vals (fun j => ([some (.pointer (some ⟨g2, 0, none⟩)), some (.pointer (some ⟨g2, 0, none⟩)), some (.int .u64 (p.addr : Nat)), some (.pointer (some ⟨g3, 0, none⟩)), some (.pointer (some ⟨g3, 0, none⟩)), some (.int .u64 (q.addr : Nat)), some (.int .i64 (cmpN p.addr q.addr)), some (.pointer (some ⟨g2, 0, none⟩)), some (.pointer (some ⟨g2, 1, none⟩)), some (wv p.key), some (.pointer (some ⟨g3, 0, none⟩)), some (.pointer (some ⟨g3, 1, none⟩)), some (wv q.key), some (.int .i64 (cmpN p.key q.key)), none, some (.int .i64 (orCx (cmpN p.addr q.addr) (cmpN p.key q.key))), some (.int .i64 (orCx (cmpN p.addr q.addr) (cmpN p.key q.key)))] : List (Option Value)).getD j none) L V ∧ (CmP w g2 g3 p q W) ∧ (L 14 = true → In2x W (V 14) (cmpN p.addr q.addr) (cmpN p.key q.key))) ?_ ⟨?_, ?_, ?_, ?_, ?_, ?_, ?_, ?_, ?_, ?_, ?_, ?_, ?_, ?_, ?_, ?_, ?_, trivial⟩ ?_
 ·refine ⟨fun j => a0.tmps.getD (([5, 6, 7, 8, 9, 10, 11, 12, 13, 14, 15, 16, 17, 18, 19, 20, 4] : List Nat).getD j 0) undef, ?_, Vals.no _ _ _ (far_none _ _ rfl), HJ.out.ext ((Ext.refl _).drew), fun h0 => absurd h0 (by decide)⟩
  rw [HFR.out, ha0]
  rfl
 all_goals clear ha0
 ·rintro L A W K hL hC hW ⟨V, rfl, HV, s0, f14⟩ hK
  have H := Lib.hid (show ∀ W', Ext W W' → K (fr (upd V 0 (.pointer (some ⟨g2, 0, none⟩)))) W' from fun W' he => hK _ _ ⟨_, rfl, HV.us 0 _ rfl, CmP.ext s0 he, fun h0 => In2x.ext (f14 (more_ne h0 rfl)) he⟩)
  clear hK hC hW hL HV s0 f14
  rw [HFR.out]
  go_wp2_with fail
  show K _ _; have := H.out _ (Ext.refl _); rw [HFR.out] at this
  exact this
 ·rintro L A W K hL hC hW ⟨V, rfl, HV, s0, f14⟩ hK
  have e0 := HV 0 _ rfl (hW 0 rfl)
  have H := Lib.hid (show ∀ W', Ext W W' → K (fr (upd V 1 (.pointer (some ⟨g2, 0, none⟩)))) W' from fun W' he => hK _ _ ⟨_, rfl, HV.us 1 _ rfl, CmP.ext s0 he, fun h0 => mtf (hC.no (hC.no (hC.no hL 2 _ rfl rfl) 6 _ rfl rfl) 14 _ rfl rfl) (more_ne h0 rfl)⟩)
  have HU := Lib.hid (show (upd V 1 (.pointer (some ⟨g2, 0, none⟩))) 0 = .pointer (some ⟨g2, 0, none⟩) from e0)
  clear hK hC hW hL HV s0 f14
  rw [HFR.out, e0]
  clear e0
  go_wp2_with fail
  show K _ _; have := H.out _ (Ext.refl _); rw [HFR.out] at this
  obtain u0 := HU.out
  rw [u0] at this
  exact this
 ·rintro L A W K hL hC hW ⟨V, rfl, HV, s0, f14⟩ hK
  have e1 := HV 1 _ rfl (hW 1 rfl)
  have hB := s0
  have H := Lib.hid (show ∀ W', Ext W W' → K (fr (upd V 2 (.int .u64 (p.addr : Nat)))) W' from fun W' he => hK _ _ ⟨_, rfl, HV.us 2 _ rfl, CmP.ext s0 he, fun h0 => In2x.ext (f14 (more_ne h0 rfl)) he⟩)
  have HU := Lib.hid (show (upd V 2 (.int .u64 (p.addr : Nat))) 1 = .pointer (some ⟨g2, 0, none⟩) from e1)
  clear hK hC hW hL HV s0 f14
  rw [HFR.out, e1]
  clear e1
  have qq := hB.1.addr
  clear hB
  go_wp2_with fail
  show K _ _; have := H.out _ (Ext.refl _); rw [HFR.out] at this
  obtain u1 := HU.out
  rw [u1] at this
  exact this
 ·rintro L A W K hL hC hW ⟨V, rfl, HV, s0, f14⟩ hK
  have H := Lib.hid (show ∀ W', Ext W W' → K (fr (upd V 3 (.pointer (some ⟨g3, 0, none⟩)))) W' from fun W' he => hK _ _ ⟨_, rfl, HV.us 3 _ rfl, CmP.ext s0 he, fun h0 => In2x.ext (f14 (more_ne h0 rfl)) he⟩)
  clear hK hC hW hL HV s0 f14
  rw [HFR.out]
  go_wp2_with fail
  show K _ _; have := H.out _ (Ext.refl _); rw [HFR.out] at this
  exact this
 ·rintro L A W K hL hC hW ⟨V, rfl, HV, s0, f14⟩ hK
  have e3 := HV 3 _ rfl (hW 3 rfl)
  have H := Lib.hid (show ∀ W', Ext W W' → K (fr (upd V 4 (.pointer (some ⟨g3, 0, none⟩)))) W' from fun W' he => hK _ _ ⟨_, rfl, HV.us 4 _ rfl, CmP.ext s0 he, fun h0 => In2x.ext (f14 (more_ne h0 rfl)) he⟩)
  have HU := Lib.hid (show (upd V 4 (.pointer (some ⟨g3, 0, none⟩))) 3 = .pointer (some ⟨g3, 0, none⟩) from e3)
  clear hK hC hW hL HV s0 f14
  rw [HFR.out, e3]
  clear e3
  go_wp2_with fail
  show K _ _; have := H.out _ (Ext.refl _); rw [HFR.out] at this
  obtain u3 := HU.out
  rw [u3] at this
  exact this
 ·rintro L A W K hL hC hW ⟨V, rfl, HV, s0, f14⟩ hK
  have e4 := HV 4 _ rfl (hW 4 rfl)
  have hB := s0
  have H := Lib.hid (show ∀ W', Ext W W' → K (fr (upd V 5 (.int .u64 (q.addr : Nat)))) W' from fun W' he => hK _ _ ⟨_, rfl, HV.us 5 _ rfl, CmP.ext s0 he, fun h0 => In2x.ext (f14 (more_ne h0 rfl)) he⟩)
  have HU := Lib.hid (show (upd V 5 (.int .u64 (q.addr : Nat))) 4 = .pointer (some ⟨g3, 0, none⟩) from e4)
  clear hK hC hW hL HV s0 f14
  rw [HFR.out, e4]
  clear e4
  have qq := hB.2.1.addr
  clear hB
  go_wp2_with fail
  show K _ _; have := H.out _ (Ext.refl _); rw [HFR.out] at this
  obtain u4 := HU.out
  rw [u4] at this
  exact this
 ·rintro L A W K hL hC hW ⟨V, rfl, HV, s0, f14⟩ hK
  have e2 := HV 2 _ rfl (hW 2 rfl)
  have e5 := HV 5 _ rfl (hW 5 rfl)
  have hB := s0
  have H := Lib.hid (show ∀ W', Ext W W' → K (fr (upd V 6 (.int .i64 (cmpN p.addr q.addr)))) W' from fun W' he => hK _ _ ⟨_, rfl, HV.us 6 _ rfl, CmP.ext s0 he, fun h0 => In2x.ext (f14 (more_ne h0 rfl)) he⟩)
  have HU := Lib.hid (show (upd V 6 (.int .i64 (cmpN p.addr q.addr))) 2 = .int .u64 (p.addr : Nat) ∧ (upd V 6 (.int .i64 (cmpN p.addr q.addr))) 5 = .int .u64 (q.addr : Nat) from ⟨e2, e5⟩)
  clear hK hC hW hL HV s0 f14
  rw [HFR.out, e2, e5]
  clear e2 e5
  clear hB
  go_wp2_with fail
  refine (compareAd_any p.addr q.addr _).mono ?_
  rintro e wx ⟨rfl, he⟩
  have := H.out _ he
  clear H
  go_wp2_with fail
  show K _ _
  rw [HFR.out] at this
  obtain ⟨u2, u5⟩ := HU.out
  rw [u2, u5] at this
  exact this
 ·rintro L A W K hL hC hW ⟨V, rfl, HV, s0, f14⟩ hK
  have H := Lib.hid (show ∀ W', Ext W W' → K (fr (upd V 7 (.pointer (some ⟨g2, 0, none⟩)))) W' from fun W' he => hK _ _ ⟨_, rfl, HV.us 7 _ rfl, CmP.ext s0 he, fun h0 => In2x.ext (f14 (more_ne h0 rfl)) he⟩)
  clear hK hC hW hL HV s0 f14
  rw [HFR.out]
  go_wp2_with fail
  show K _ _; have := H.out _ (Ext.refl _); rw [HFR.out] at this
  exact this
 ·rintro L A W K hL hC hW ⟨V, rfl, HV, s0, f14⟩ hK
  have e7 := HV 7 _ rfl (hW 7 rfl)
  have H := Lib.hid (show ∀ W', Ext W W' → K (fr (upd V 8 (.pointer (some ⟨g2, 1, none⟩)))) W' from fun W' he => hK _ _ ⟨_, rfl, HV.us 8 _ rfl, CmP.ext s0 he, fun h0 => In2x.ext (f14 (more_ne h0 rfl)) he⟩)
  have HU := Lib.hid (show (upd V 8 (.pointer (some ⟨g2, 1, none⟩))) 7 = .pointer (some ⟨g2, 0, none⟩) from e7)
  clear hK hC hW hL HV s0 f14
  rw [HFR.out, e7]
  clear e7
  go_wp2_with fail
  show K _ _; have := H.out _ (Ext.refl _); rw [HFR.out] at this
  obtain u7 := HU.out
  rw [u7] at this
  exact this
 ·rintro L A W K hL hC hW ⟨V, rfl, HV, s0, f14⟩ hK
  have e8 := HV 8 _ rfl (hW 8 rfl)
  have hB := s0
  have H := Lib.hid (show ∀ W', Ext W W' → K (fr (upd V 9 (wv p.key))) W' from fun W' he => hK _ _ ⟨_, rfl, HV.us 9 _ rfl, CmP.ext s0 he, fun h0 => In2x.ext (f14 (more_ne h0 rfl)) he⟩)
  have HU := Lib.hid (show (upd V 9 (wv p.key)) 8 = .pointer (some ⟨g2, 1, none⟩) from e8)
  clear hK hC hW hL HV s0 f14
  rw [HFR.out, e8]
  clear e8
  have HWW := Lib.hid hB.1.key
  clear hB
  refine wpList_load_wordIn rfl (.tmp 13) rfl g2 1 p.key rfl HWW.out ?_
  show K _ _; have := H.out _ (Ext.refl _); rw [HFR.out] at this
  obtain u8 := HU.out
  rw [u8] at this
  exact this
 ·rintro L A W K hL hC hW ⟨V, rfl, HV, s0, f14⟩ hK
  have H := Lib.hid (show ∀ W', Ext W W' → K (fr (upd V 10 (.pointer (some ⟨g3, 0, none⟩)))) W' from fun W' he => hK _ _ ⟨_, rfl, HV.us 10 _ rfl, CmP.ext s0 he, fun h0 => In2x.ext (f14 (more_ne h0 rfl)) he⟩)
  clear hK hC hW hL HV s0 f14
  rw [HFR.out]
  go_wp2_with fail
  show K _ _; have := H.out _ (Ext.refl _); rw [HFR.out] at this
  exact this
 ·rintro L A W K hL hC hW ⟨V, rfl, HV, s0, f14⟩ hK
  have e10 := HV 10 _ rfl (hW 10 rfl)
  have H := Lib.hid (show ∀ W', Ext W W' → K (fr (upd V 11 (.pointer (some ⟨g3, 1, none⟩)))) W' from fun W' he => hK _ _ ⟨_, rfl, HV.us 11 _ rfl, CmP.ext s0 he, fun h0 => In2x.ext (f14 (more_ne h0 rfl)) he⟩)
  have HU := Lib.hid (show (upd V 11 (.pointer (some ⟨g3, 1, none⟩))) 10 = .pointer (some ⟨g3, 0, none⟩) from e10)
  clear hK hC hW hL HV s0 f14
  rw [HFR.out, e10]
  clear e10
  go_wp2_with fail
  show K _ _; have := H.out _ (Ext.refl _); rw [HFR.out] at this
  obtain u10 := HU.out
  rw [u10] at this
  exact this
 ·rintro L A W K hL hC hW ⟨V, rfl, HV, s0, f14⟩ hK
  have e11 := HV 11 _ rfl (hW 11 rfl)
  have hB := s0
  have H := Lib.hid (show ∀ W', Ext W W' → K (fr (upd V 12 (wv q.key))) W' from fun W' he => hK _ _ ⟨_, rfl, HV.us 12 _ rfl, CmP.ext s0 he, fun h0 => In2x.ext (f14 (more_ne h0 rfl)) he⟩)
  have HU := Lib.hid (show (upd V 12 (wv q.key)) 11 = .pointer (some ⟨g3, 1, none⟩) from e11)
  clear hK hC hW hL HV s0 f14
  rw [HFR.out, e11]
  clear e11
  have HWW := Lib.hid hB.2.1.key
  clear hB
  refine wpList_load_wordIn rfl (.tmp 16) rfl g3 1 q.key rfl HWW.out ?_
  show K _ _; have := H.out _ (Ext.refl _); rw [HFR.out] at this
  obtain u11 := HU.out
  rw [u11] at this
  exact this
 ·rintro L A W K hL hC hW ⟨V, rfl, HV, s0, f14⟩ hK
  have e9 := HV 9 _ rfl (hW 9 rfl)
  have e12 := HV 12 _ rfl (hW 12 rfl)
  have hB := s0
  have H := Lib.hid (show ∀ W', Ext W W' → K (fr (upd V 13 (.int .i64 (cmpN p.key q.key)))) W' from fun W' he => hK _ _ ⟨_, rfl, HV.us 13 _ rfl, CmP.ext s0 he, fun h0 => In2x.ext (f14 (more_ne h0 rfl)) he⟩)
  have HU := Lib.hid (show (upd V 13 (.int .i64 (cmpN p.key q.key))) 9 = wv p.key ∧ (upd V 13 (.int .i64 (cmpN p.key q.key))) 12 = wv q.key from ⟨e9, e12⟩)
  clear hK hC hW hL HV s0 f14
  rw [HFR.out, e9, e12]
  clear e9 e12
  clear hB
  go_wp2_with fail
  refine (cmp_any p.key q.key _ HKK.out HKJ.out).mono ?_
  rintro e wx ⟨rfl, he⟩
  have := H.out _ he
  clear H
  go_wp2_with fail
  show K _ _
  rw [HFR.out] at this
  obtain ⟨u9, u12⟩ := HU.out
  rw [u9, u12] at this
  exact this
 ·rintro L A W K hL hC hW ⟨V, rfl, HV, s0, f14⟩ hK
  have e6 := HV 6 _ rfl (hW 6 rfl)
  have e13 := HV 13 _ rfl (hW 13 rfl)
  have H := Lib.hid (show ∀ v W', Ext W W' → (In2x W' v (cmpN p.addr q.addr) (cmpN p.key q.key)) → K (fr (upd V 14 v)) W' from fun v W' he hp => hK _ _ ⟨_, rfl, HV.un 14 _ rfl, CmP.ext s0 he, fun h0 => hp⟩)
  have HU := Lib.hid (show ∀ v, (upd V 14 v) 6 = .int .i64 (cmpN p.addr q.addr) ∧ (upd V 14 v) 13 = .int .i64 (cmpN p.key q.key) from fun v => ⟨e6, e13⟩)
  clear hK hC hW hL HV s0 f14
  rw [HFR.out, e6, e13]
  clear e6 e13
  go_wp2_with fail
  show K _ _; have := H.out (.slice (some ⟨W.heap.size, 0, none⟩) 2 2) _ ((Ext.refl W).alloc (.cells #[.int .i64 (cmpN p.addr q.addr), .int .i64 (cmpN p.key q.key)] 3)) (⟨_, rfl, Cs.new _ _ _ _ rfl⟩); rw [HFR.out] at this
  obtain ⟨u6, u13⟩ := HU.out _
  rw [u6, u13] at this
  exact this
 ·rintro L A W K hL hC hW ⟨V, rfl, HV, s0, f14⟩ hK
  have hB := s0
  have q14 := f14 (hW 14 rfl)
  obtain ⟨g14, e14, z14⟩ := q14
  have H := Lib.hid (show ∀ W', Ext W W' → K (fr (upd V 15 (.int .i64 (orCx (cmpN p.addr q.addr) (cmpN p.key q.key))))) W' from fun W' he => hK _ _ ⟨_, rfl, HV.us 15 _ rfl, CmP.ext s0 he, fun h0 => In2x.ext (f14 (more_ne h0 rfl)) he⟩)
  have HU := Lib.hid (show (upd V 15 (.int .i64 (orCx (cmpN p.addr q.addr) (cmpN p.key q.key)))) 14 = .slice (some ⟨g14, 0, none⟩) 2 2 from e14)
  clear hK hC hW hL HV s0 f14
  rw [HFR.out, e14]
  clear e14
  clear hB
  go_wp2_with fail
  refine (or_anyx g14 (cmpN p.addr q.addr) (cmpN p.key q.key) _ z14).mono ?_
  rintro e wx ⟨rfl, he⟩
  have := H.out _ he
  clear H
  go_wp2_with fail
  show K _ _
  rw [HFR.out] at this
  obtain u14 := HU.out
  rw [u14] at this
  exact this
 ·rintro L A W K hL hC hW ⟨V, rfl, HV, s0, f14⟩ hK
  have e15 := HV 15 _ rfl (hW 15 rfl)
  have H := Lib.hid (show ∀ W', Ext W W' → K (fr (upd V 16 (.int .i64 (orCx (cmpN p.addr q.addr) (cmpN p.key q.key))))) W' from fun W' he => hK _ _ ⟨_, rfl, HV.us 16 _ rfl, CmP.ext s0 he, fun h0 => In2x.ext (f14 (more_ne h0 rfl)) he⟩)
  have HU := Lib.hid (show (upd V 16 (.int .i64 (orCx (cmpN p.addr q.addr) (cmpN p.key q.key)))) 15 = .int .i64 (orCx (cmpN p.addr q.addr) (cmpN p.key q.key)) from e15)
  clear hK hC hW hL HV s0 f14
  rw [HFR.out, e15]
  clear e15
  go_wp2_with fail
  show K _ _; have := H.out _ (Ext.refl _); rw [HFR.out] at this
  obtain u15 := HU.out
  rw [u15] at this
  exact this
 ·rintro L A W hL ⟨V, rfl, HV, s0, f14⟩
  have e0 := HV 0 _ rfl (hL 0 (by simp))
  have e1 := HV 1 _ rfl (hL 1 (by simp))
  have e2 := HV 2 _ rfl (hL 2 (by simp))
  have e3 := HV 3 _ rfl (hL 3 (by simp))
  have e4 := HV 4 _ rfl (hL 4 (by simp))
  have e5 := HV 5 _ rfl (hL 5 (by simp))
  have e6 := HV 6 _ rfl (hL 6 (by simp))
  have e7 := HV 7 _ rfl (hL 7 (by simp))
  have e8 := HV 8 _ rfl (hL 8 (by simp))
  have e9 := HV 9 _ rfl (hL 9 (by simp))
  have e10 := HV 10 _ rfl (hL 10 (by simp))
  have e11 := HV 11 _ rfl (hL 11 (by simp))
  have e12 := HV 12 _ rfl (hL 12 (by simp))
  have e13 := HV 13 _ rfl (hL 13 (by simp))
  have e15 := HV 15 _ rfl (hL 15 (by simp))
  have e16 := HV 16 _ rfl (hL 16 (by simp))
  have hA := s0
  have p19 := f14 (hL 14 (by simp))
  rw [HFR.out, e0, e1, e2, e3, e4, e5, e6, e7, e8, e9, e10, e11, e12, e13, e15, e16]
  clear hL HV HFR e0 e1 e2 e3 e4 e5 e6 e7 e8 e9 e10 e11 e12 e13 e15 e16 s0 f14
  go_wp2_with fail
  refine bodyPost_ret (results_tmp rfl _ _ _) rfl ?_
  exact ⟨by rw [show p.cod = ceN p.addr p.key from rfl, show q.cod = ceN q.addr q.key from rfl, ← HOR.out]; rfl, hA.2.2⟩
end Go.Proofs.YtnjpdchmdimaaaaGreat
