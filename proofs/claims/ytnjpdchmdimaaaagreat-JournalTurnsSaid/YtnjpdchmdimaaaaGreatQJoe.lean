/- JournalTurns: the walk. -/
import Derived.Test.YtnjpdchmdimaaaaGreatQJoc
namespace Go.Proofs.YtnjpdchmdimaaaaGreat
open Go.ChangeShapes Go.WideShapes Go.ChangeAt Go.RowKit Go.Shelf

def TuK (w : World) (g1 g2 g3 : Nat) (v1 v2 v3 : Value) (W : World) : Prop := ∃ c1 c2 c3, v1 = .agg c1 ∧ v2 = .agg c2 ∧ v3 = .agg c3 ∧ Cs W g1 40 c1 ∧ Cs W g2 30 c2 ∧ Cs W g3 35 c3 ∧ Ext w W
theorem TuK.ext {w : World} {g1 g2 g3 : Nat} {v1 v2 v3 : Value} {W W' : World} (h : TuK w g1 g2 g3 v1 v2 v3 W) (he : Ext W W') : TuK w g1 g2 g3 v1 v2 v3 W' := by
 obtain ⟨c1, c2, c3, e1, e2, e3, h1, h2, h3, h4⟩ := h
 exact ⟨c1, c2, c3, e1, e2, e3, Cs.ext h1 he, Cs.ext h2 he, Cs.ext h3 he, h4.trans he⟩
theorem TuK.at1 {w : World} {g1 g2 g3 : Nat} {v1 v2 v3 : Value} {W W' : World} {c : Array Value} (h : TuK w g1 g2 g3 v1 v2 v3 W) (hk : Cs W' g1 40 c) (hg : W.grownBy W' (some g1)) (h12 : g1 < g2) (h13 : g1 < g3) (hw : w.heap.size ≤ g1) : TuK w g1 g2 g3 (.agg c) v2 v3 W' := by
 obtain ⟨c1, c2, c3, e1, e2, e3, k1, k2, k3, k4⟩ := h
 exact ⟨c, c2, c3, rfl, e2, e3, hk, Cs.kept k2 hg (fun e => absurd (Option.some.inj e) (by omega)), Cs.kept k3 hg (fun e => absurd (Option.some.inj e) (by omega)), k4.grown hg hw⟩
theorem TuK.at2 {w : World} {g1 g2 g3 : Nat} {v1 v2 v3 : Value} {W W' : World} {c : Array Value} (h : TuK w g1 g2 g3 v1 v2 v3 W) (hk : Cs W' g2 30 c) (hg : W.grownBy W' (some g2)) (h12 : g1 < g2) (h23 : g2 < g3) (hw : w.heap.size ≤ g1) : TuK w g1 g2 g3 v1 (.agg c) v3 W' := by
 obtain ⟨c1, c2, c3, e1, e2, e3, k1, k2, k3, k4⟩ := h
 exact ⟨c1, c, c3, e1, rfl, e3, Cs.kept k1 hg (fun e => absurd (Option.some.inj e) (by omega)), hk, Cs.kept k3 hg (fun e => absurd (Option.some.inj e) (by omega)), k4.grown hg (by omega)⟩
theorem TuK.at3 {w : World} {g1 g2 g3 : Nat} {v1 v2 v3 : Value} {W W' : World} {c : Array Value} (h : TuK w g1 g2 g3 v1 v2 v3 W) (hk : Cs W' g3 35 c) (hg : W.grownBy W' (some g3)) (h12 : g1 < g2) (h23 : g2 < g3) (hw : w.heap.size ≤ g1) : TuK w g1 g2 g3 v1 v2 (.agg c) W' := by
 obtain ⟨c1, c2, c3, e1, e2, e3, k1, k2, k3, k4⟩ := h
 exact ⟨c1, c2, c, e1, e2, rfl, Cs.kept k1 hg (fun e => absurd (Option.some.inj e) (by omega)), Cs.kept k2 hg (fun e => absurd (Option.some.inj e) (by omega)), hk, k4.grown hg (by omega)⟩
theorem JcB.rgW {W : World} {g : Nat} {a b c d e f m : Value} {j : Jn} (h : JcB W g a b c d e f m j) : W.rangeAt g 0 [a, b, c] := rg_part (cs := [a, b, c, d, e, f, m]) (ds := [a, b, c]) 0 (Cs.rg h.1) (fun j y hy => by rcases j with _ | _ | _ | j; all_goals first | exact hy | (simp at hy))
theorem JcB.rg {W : World} {g : Nat} {a b c d e f m : Value} {j : Jn} (h : JcB W g a b c d e f m j) : W.rangeAt g 0 [a, b, c, d, e, f, m] := Cs.rg h.1
def WcB (W : World) (g : Nat) (a b c : Value) (o : Wo) : Prop := Cs W g 30 #[a, b, c] ∧ WoR W a b c o
theorem WcB.ext {W W' : World} {g : Nat} {a b c : Value} {o : Wo} (h : WcB W g a b c o) (he : Ext W W') : WcB W' g a b c o := ⟨Cs.ext h.1 he, h.2.ext he⟩
theorem WcB.rg {W : World} {g : Nat} {a b c : Value} {o : Wo} (h : WcB W g a b c o) : W.rangeAt g 0 [a, b, c] := Cs.rg h.1
def XcB (W : World) (g : Nat) (a b c : Value) (x : Ax) : Prop := Cs W g 35 #[a, b, c] ∧ AxR W a b c x
theorem XcB.ext {W W' : World} {g : Nat} {a b c : Value} {x : Ax} (h : XcB W g a b c x) (he : Ext W W') : XcB W' g a b c x := ⟨Cs.ext h.1 he, h.2.ext he⟩
theorem XcB.rg {W : World} {g : Nat} {a b c : Value} {x : Ax} (h : XcB W g a b c x) : W.rangeAt g 0 [a, b, c] := Cs.rg h.1
theorem rightJn_w {j : Jn} (hr : rightJn j = true) : rightWo j.p.w = true := by
 have := (rightJn_to hr).2.1
 unfold rightPo at this
 simp only [Bool.and_eq_true] at this
 exact this.1
theorem tchJ_no {j : Jn} {x : Ax} (hr : rightJn j = true) (hx : rightX x = false) : tchJ j x = (jn0, 200) := by
 unfold tchJ tchE jchg
 rw [hr, hx]
 rfl
theorem TuF.ext {w : World} {g1 g2 g3 lo : Nat} {v1 v2 v3 v1' v2' v3' : Value} {j : Jn} {o : Wo} {x : Ax} {W W' : World} (h : TuK w g1 g2 g3 v1 v2 v3 W ∧ RetJn lo W v1' j ∧ RetWo lo W v2' o ∧ RetX lo W v3' x) (he : Ext W W') : TuK w g1 g2 g3 v1 v2 v3 W' ∧ RetJn lo W' v1' j ∧ RetWo lo W' v2' o ∧ RetX lo W' v3' x := ⟨h.1.ext he, h.2.1.ext he, h.2.2.1.ext he, h.2.2.2.ext he⟩
set_option maxRecDepth 100000 in
set_option maxHeartbeats 8000000 in
theorem journalTurns_any (xu xv xz xa xs xq xm ou ov oz pa ps pq : Value) (j : Jn) (o : Wo) (x : Ax) (w : World) (hj : WoR w xu xv xz j.p.w ∧ AxR w xa xs xq j.p.x ∧ Pos w xm j.m) (ho : WoR w ou ov oz o) (hx : AxR w pa ps pq x) :
  Calls Tryz.prog 6 #[.agg #[xu, xv, xz, xa, xs, xq, xm], .agg #[ou, ov, oz], .agg #[pa, ps, pq]] w (RetT w) := by
 have HJ := Lib.hid hj
 have HO := Lib.hid ho
 have HX := Lib.hid hx
 have HO1 : Hid ((#[xu, xv, xz, xa, xs, xq, xm] : Array Value).all (·.oneCell') = true) := Lib.hid (by
  obtain ⟨y1, y2, y3⟩ := axr_one hj.2.1
  have y4 := acs_one hj.1.1
  have y5 := hds_one hj.1.2.1
  have y6 := nns_one hj.1.2.2
  have y7 := pos_one hj.2.2
  simp [y1, y2, y3, y4, y5, y6, y7])
 have ho1 := HO1.out
 have ho2 : (#[ou, ov, oz] : Array Value).all (·.oneCell') = true := by simp [acs_one ho.1, hds_one ho.2.1, nns_one ho.2.2]
 have ho3 : (#[pa, ps, pq] : Array Value).all (·.oneCell') = true := by obtain ⟨y1, y2, y3⟩ := axr_one hx; simp [y1, y2, y3]
 obtain ⟨w0, hw0⟩ : ∃ w0, ((w.alloc (.cells #[xu, xv, xz, xa, xs, xq, xm] 40)).alloc (.cells #[ou, ov, oz] 30)).alloc (.cells #[pa, ps, pq] 35) = w0 := ⟨_, rfl⟩
 have HTU : Hid (TuK w w.heap.size (w.heap.size + 1) (w.heap.size + 1 + 1) (.agg #[xu, xv, xz, xa, xs, xq, xm]) (.agg #[ou, ov, oz]) (.agg #[pa, ps, pq]) w0) := Lib.hid ⟨_, _, _, rfl, rfl, rfl, by rw [← hw0]; exact Cs.alloc (Cs.alloc (Cs.new _ _ _ _ rfl) _) _, by rw [← hw0]; exact Cs.alloc (Cs.new _ _ _ _ (by simp)) _, by rw [← hw0]; exact Cs.new _ _ _ _ (by simp), by rw [← hw0]; exact (((Ext.refl w).alloc _).alloc _).alloc _⟩
 have HW0 := Lib.hid hw0
 clear hj ho hx hw0
 go_enter Tryz.func6, Tryz.ntmps6
 go_wp2_with fail
 rw [HW0.out]
 clear HW0 ho1 ho2 ho3
 refine (wakesJ_any _).mono ?_
 rintro e w1 ⟨rfl, he⟩
 have HTU := Lib.hid (HTU.out.ext he)
 clear he
 go_upto_region 3 with fail

 refine wp_named fun a0 ha0 => ?_
 obtain ⟨fr, hfr⟩ : ∃ fr : (Nat → Value) → Act, ∀ V, fr V = ((((((a0.put (some 19) (V 0)).put (some 20) (V 1)).put (some 21) (V 2)).put (some 22) (V 3)).put (some 23) (V 4)).put (some 24) (V 5)) := ⟨_, fun _ => rfl⟩
 rw [ha0] at hfr
 simp only [Act.put, List.setIfInBounds_toArray, List.set_cons_zero, List.set_cons_succ] at hfr
 have HFR := Lib.hid hfr
 clear hfr
 refine wp_region_inv (by kernel_rfl) (by kernel_rfl) (fun L A W => ∃ V : Nat → Value, A = fr V ∧ Vals (fun j => ([some (.agg #[xu, xv, xz, xa, xs, xq, xm]), none, some (.agg #[ou, ov, oz]), none, some (.agg #[pa, ps, pq]), none, none, none, none] : List (Option Value)).getD j none) L V ∧ (L 6 = false → TuK w w.heap.size (w.heap.size + 1) (w.heap.size + 1 + 1) (.agg #[xu, xv, xz, xa, xs, xq, xm]) (.agg #[ou, ov, oz]) (.agg #[pa, ps, pq]) W) ∧ (L 6 = true → L 7 = false → (TuK w w.heap.size (w.heap.size + 1) (w.heap.size + 1 + 1) (V 1) (.agg #[ou, ov, oz]) (.agg #[pa, ps, pq]) W ∧ RetJn (w.heap.size + 1 + 1 + 1) W (V 1) (cutJ j) ∧ RetWo (w.heap.size + 1 + 1 + 1) W (V 3) (cutO o) ∧ RetX (w.heap.size + 1 + 1 + 1) W (V 5) (cutX x))) ∧ (L 7 = true → L 8 = false → (TuK w w.heap.size (w.heap.size + 1) (w.heap.size + 1 + 1) (V 1) (V 3) (.agg #[pa, ps, pq]) W ∧ RetJn (w.heap.size + 1 + 1 + 1) W (V 1) (cutJ j) ∧ RetWo (w.heap.size + 1 + 1 + 1) W (V 3) (cutO o) ∧ RetX (w.heap.size + 1 + 1 + 1) W (V 5) (cutX x))) ∧ (L 8 = true → (TuK w w.heap.size (w.heap.size + 1) (w.heap.size + 1 + 1) (V 1) (V 3) (V 5) W ∧ RetJn (w.heap.size + 1 + 1 + 1) W (V 1) (cutJ j) ∧ RetWo (w.heap.size + 1 + 1 + 1) W (V 3) (cutO o) ∧ RetX (w.heap.size + 1 + 1 + 1) W (V 5) (cutX x))) ∧ (L 1 = true → RetJn (w.heap.size + 1 + 1 + 1) W (V 1) (cutJ j)) ∧ (L 3 = true → RetWo (w.heap.size + 1 + 1 + 1) W (V 3) (cutO o)) ∧ (L 5 = true → RetX (w.heap.size + 1 + 1 + 1) W (V 5) (cutX x))) ?_ ⟨?_, ?_, ?_, ?_, ?_, ?_, ?_, ?_, ?_, trivial⟩ ?_
 ·refine ⟨fun j => a0.tmps.getD (([19, 20, 21, 22, 23, 24, 0, 0, 0] : List Nat).getD j 0) undef, ?_, Vals.no _ _ _ (far_none _ _ rfl), fun _ => HTU.out.ext (Ext.refl _).drew, fun h0 h1 => absurd h0 (by decide), fun h0 h1 => absurd h0 (by decide), fun h0 => absurd h0 (by decide), fun h0 => absurd h0 (by decide), fun h0 => absurd h0 (by decide), fun h0 => absurd h0 (by decide)⟩
  rw [HFR.out, ha0]
  rfl
 all_goals clear ha0
 ·rintro L A W K hL hC hW ⟨V, rfl, HV, s0, s1, s2, s3, f1, f3, f5⟩ hK
  have hB := s0 (hC.no (hC.no hL 1 _ rfl rfl) 6 _ rfl rfl)
  have H := Lib.hid (show ∀ W', Ext W W' → K (fr (upd V 0 (.agg #[xu, xv, xz, xa, xs, xq, xm]))) W' from fun W' he => hK _ _ ⟨_, rfl, HV.us 0 _ rfl, fun h0 => TuK.ext (s0 (mnf h0 rfl)) he, fun h0 h1 => TuF.ext (s1 (more_ne h0 rfl) (mnf h1 rfl)) he, fun h0 h1 => TuF.ext (s2 (more_ne h0 rfl) (mnf h1 rfl)) he, fun h0 => TuF.ext (s3 (more_ne h0 rfl)) he, fun h0 => RetJn.ext (f1 (more_ne h0 rfl)) he, fun h0 => RetWo.ext (f3 (more_ne h0 rfl)) he, fun h0 => RetX.ext (f5 (more_ne h0 rfl)) he⟩)
  clear hK hC hW hL HV s0 s1 s2 s3 f1 f3 f5
  rw [HFR.out]
  obtain ⟨c1, c2, c3, e1, e2, e3, k1, k2, k3, k4⟩ := hB
  injection e1 with e1
  injection e2 with e2
  injection e3 with e3
  subst e1 e2 e3
  have HRG := Lib.hid (Cs.rg k1)
  clear k1 k2 k3 k4
  refine wpList_loadJn rfl (.tmp 3) rfl w.heap.size 0 xu xv xz xa xs xq xm rfl HRG.out ?_
  show K _ _; have := H.out _ (Ext.refl _); rw [HFR.out] at this
  exact this
 ·rintro L A W K hL hC hW ⟨V, rfl, HV, s0, s1, s2, s3, f1, f3, f5⟩ hK
  have e0 := HV 0 _ rfl (hW 0 rfl)
  have hB := s0 (hC.no hL 6 _ rfl rfl)
  have H := Lib.hid (show ∀ v W', Ext W W' → (RetJn (w.heap.size + 1 + 1 + 1) W' v (cutJ j)) → K (fr (upd V 1 v)) W' from fun v W' he hp => hK _ _ ⟨_, rfl, HV.un 1 _ rfl, fun h0 => TuK.ext (s0 (mnf h0 rfl)) he, fun h0 h1 => mtf (hC.no hL 6 _ rfl rfl) (more_ne h0 rfl), fun h0 h1 => mtf (hC.no (hC.no hL 3 _ rfl rfl) 7 _ rfl rfl) (more_ne h0 rfl), fun h0 => mtf (hC.no (hC.no (hC.no hL 3 _ rfl rfl) 5 _ rfl rfl) 8 _ rfl rfl) (more_ne h0 rfl), fun h0 => hp, fun h0 => RetWo.ext (f3 (more_ne h0 rfl)) he, fun h0 => RetX.ext (f5 (more_ne h0 rfl)) he⟩)
  have HU := Lib.hid (show ∀ v, (upd V 1 v) 0 = .agg #[xu, xv, xz, xa, xs, xq, xm] from fun v => e0)
  clear hK hC hW hL HV s0 s1 s2 s3 f1 f3 f5
  rw [HFR.out, e0]
  clear e0
  obtain ⟨_, _, _, _, _, _, _, _, k3, k4⟩ := hB
  have HB := Lib.hid k4
  have HSZ := Lib.hid (Nat.succ_le_of_lt k3.lt)
  clear k3 k4
  go_wp2_with fail
  refine (few_any _ _ _ _ _ _ _ j _ ⟨HJ.out.1.ext HB.out, HJ.out.2.1.ext HB.out, HJ.out.2.2.ext HB.out⟩).mono ?_
  rintro e wx ⟨vx, rfl, ho, he⟩
  have := H.out _ _ he (ho.low HSZ.out)
  clear H
  go_wp2_with fail
  show K _ _
  rw [HFR.out] at this
  obtain u0 := HU.out _
  rw [u0] at this
  exact this
 ·rintro L A W K hL hC hW ⟨V, rfl, HV, s0, s1, s2, s3, f1, f3, f5⟩ hK
  have hB := s0 (hC.no (hC.no (hC.no hL 3 _ rfl rfl) 5 _ rfl rfl) 6 _ rfl rfl)
  have H := Lib.hid (show ∀ W', Ext W W' → K (fr (upd V 2 (.agg #[ou, ov, oz]))) W' from fun W' he => hK _ _ ⟨_, rfl, HV.us 2 _ rfl, fun h0 => TuK.ext (s0 (mnf h0 rfl)) he, fun h0 h1 => TuF.ext (s1 (more_ne h0 rfl) (mnf h1 rfl)) he, fun h0 h1 => TuF.ext (s2 (more_ne h0 rfl) (mnf h1 rfl)) he, fun h0 => TuF.ext (s3 (more_ne h0 rfl)) he, fun h0 => RetJn.ext (f1 (more_ne h0 rfl)) he, fun h0 => RetWo.ext (f3 (more_ne h0 rfl)) he, fun h0 => RetX.ext (f5 (more_ne h0 rfl)) he⟩)
  clear hK hC hW hL HV s0 s1 s2 s3 f1 f3 f5
  rw [HFR.out]
  obtain ⟨c1, c2, c3, e1, e2, e3, k1, k2, k3, k4⟩ := hB
  injection e1 with e1
  injection e2 with e2
  injection e3 with e3
  subst e1 e2 e3
  have HRG := Lib.hid (Cs.rg k2)
  clear k1 k2 k3 k4
  refine wpList_loadWo rfl (.tmp 4) rfl (w.heap.size + 1) 0 ou ov oz rfl HRG.out ?_
  show K _ _; have := H.out _ (Ext.refl _); rw [HFR.out] at this
  exact this
 ·rintro L A W K hL hC hW ⟨V, rfl, HV, s0, s1, s2, s3, f1, f3, f5⟩ hK
  have e2 := HV 2 _ rfl (hW 2 rfl)
  have hB := s0 (hC.no (hC.no hL 5 _ rfl rfl) 6 _ rfl rfl)
  have q1 := f1 (hW 1 rfl)
  obtain ⟨a1, b1, c1, d1, x1, y1, m1, e1, z1⟩ := retJn_shp q1
  have H := Lib.hid (show ∀ v W', Ext W W' → (RetWo (w.heap.size + 1 + 1 + 1) W' v (cutO o)) → K (fr (upd V 3 v)) W' from fun v W' he hp => hK _ _ ⟨_, rfl, HV.un 3 _ rfl, fun h0 => TuK.ext (s0 (mnf h0 rfl)) he, fun h0 h1 => mtf (hC.no (hC.no hL 5 _ rfl rfl) 6 _ rfl rfl) (more_ne h0 rfl), fun h0 h1 => mtf (hC.no hL 7 _ rfl rfl) (more_ne h0 rfl), fun h0 => mtf (hC.no (hC.no hL 5 _ rfl rfl) 8 _ rfl rfl) (more_ne h0 rfl), fun h0 => RetJn.ext (f1 (more_ne h0 rfl)) he, fun h0 => hp, fun h0 => RetX.ext (f5 (more_ne h0 rfl)) he⟩)
  have HU := Lib.hid (show ∀ v, (upd V 3 v) 2 = .agg #[ou, ov, oz] ∧ (upd V 3 v) 1 = .agg #[a1, b1, c1, d1, x1, y1, m1] from fun v => ⟨e2, e1⟩)
  clear hK hC hW hL HV s0 s1 s2 s3 f1 f3 f5
  rw [HFR.out, e2, e1]
  clear e2 e1
  obtain ⟨_, _, _, _, _, _, _, _, k3, k4⟩ := hB
  have HB := Lib.hid k4
  have HSZ := Lib.hid (Nat.succ_le_of_lt k3.lt)
  clear k3 k4
  go_wp2_with fail
  refine (worldO_any _ _ _ o _ (HO.out.ext HB.out)).mono ?_
  rintro e wx ⟨vx, rfl, ho, he⟩
  have := H.out _ _ he (ho.low HSZ.out)
  clear H
  go_wp2_with fail
  show K _ _
  rw [HFR.out] at this
  obtain ⟨u2, u1⟩ := HU.out _
  rw [u2, u1] at this
  exact this
 ·rintro L A W K hL hC hW ⟨V, rfl, HV, s0, s1, s2, s3, f1, f3, f5⟩ hK
  have hB := s0 (hC.no (hC.no hL 5 _ rfl rfl) 6 _ rfl rfl)
  have H := Lib.hid (show ∀ W', Ext W W' → K (fr (upd V 4 (.agg #[pa, ps, pq]))) W' from fun W' he => hK _ _ ⟨_, rfl, HV.us 4 _ rfl, fun h0 => TuK.ext (s0 (mnf h0 rfl)) he, fun h0 h1 => TuF.ext (s1 (more_ne h0 rfl) (mnf h1 rfl)) he, fun h0 h1 => TuF.ext (s2 (more_ne h0 rfl) (mnf h1 rfl)) he, fun h0 => TuF.ext (s3 (more_ne h0 rfl)) he, fun h0 => RetJn.ext (f1 (more_ne h0 rfl)) he, fun h0 => RetWo.ext (f3 (more_ne h0 rfl)) he, fun h0 => RetX.ext (f5 (more_ne h0 rfl)) he⟩)
  clear hK hC hW hL HV s0 s1 s2 s3 f1 f3 f5
  rw [HFR.out]
  obtain ⟨c1, c2, c3, e1, e2, e3, k1, k2, k3, k4⟩ := hB
  injection e1 with e1
  injection e2 with e2
  injection e3 with e3
  subst e1 e2 e3
  have HRG := Lib.hid (Cs.rg k3)
  clear k1 k2 k3 k4
  refine wpList_loadXk rfl (.tmp 5) rfl (w.heap.size + 1 + 1) 0 pa ps pq rfl HRG.out ?_
  show K _ _; have := H.out _ (Ext.refl _); rw [HFR.out] at this
  exact this
 ·rintro L A W K hL hC hW ⟨V, rfl, HV, s0, s1, s2, s3, f1, f3, f5⟩ hK
  have e4 := HV 4 _ rfl (hW 4 rfl)
  have hB := s0 (hC.no hL 6 _ rfl rfl)
  have q3 := f3 (hW 3 rfl)
  obtain ⟨a3, b3, c3, e3, z3⟩ := retWo_shp q3
  have H := Lib.hid (show ∀ v W', Ext W W' → (RetX (w.heap.size + 1 + 1 + 1) W' v (cutX x)) → K (fr (upd V 5 v)) W' from fun v W' he hp => hK _ _ ⟨_, rfl, HV.un 5 _ rfl, fun h0 => TuK.ext (s0 (mnf h0 rfl)) he, fun h0 h1 => mtf (hC.no hL 6 _ rfl rfl) (more_ne h0 rfl), fun h0 h1 => mtf (hC.no (hC.no hL 6 _ rfl rfl) 7 _ rfl rfl) (more_ne h0 rfl), fun h0 => mtf (hC.no hL 8 _ rfl rfl) (more_ne h0 rfl), fun h0 => RetJn.ext (f1 (more_ne h0 rfl)) he, fun h0 => RetWo.ext (f3 (more_ne h0 rfl)) he, fun h0 => hp⟩)
  have HU := Lib.hid (show ∀ v, (upd V 5 v) 4 = .agg #[pa, ps, pq] ∧ (upd V 5 v) 3 = .agg #[a3, b3, c3] from fun v => ⟨e4, e3⟩)
  clear hK hC hW hL HV s0 s1 s2 s3 f1 f3 f5
  rw [HFR.out, e4, e3]
  clear e4 e3
  obtain ⟨_, _, _, _, _, _, _, _, k3, k4⟩ := hB
  have HB := Lib.hid k4
  have HSZ := Lib.hid (Nat.succ_le_of_lt k3.lt)
  clear k3 k4
  go_wp2_with fail
  refine (touchedX_any _ _ _ x _ (HX.out.ext HB.out)).mono ?_
  rintro e wx ⟨vx, rfl, ho, he⟩
  have := H.out _ _ he (ho.low HSZ.out)
  clear H
  go_wp2_with fail
  show K _ _
  rw [HFR.out] at this
  obtain ⟨u4, u3⟩ := HU.out _
  rw [u4, u3] at this
  exact this
 ·rintro L A W K hL hC hW ⟨V, rfl, HV, s0, s1, s2, s3, f1, f3, f5⟩ hK
  have hB := s0 hL
  have qa1 := f1 (hW 1 rfl)
  have qa2 := f3 (hC 5 _ rfl (hW 5 rfl) 3 rfl)
  have qa3 := f5 (hW 5 rfl)
  have q1 := f1 (hW 1 rfl)
  obtain ⟨a1, b1, c1, d1, x1, y1, m1, e1, z1⟩ := retJn_shp q1
  have q5 := f5 (hW 5 rfl)
  obtain ⟨a5, b5, c5, e5, z5⟩ := retX_shp q5
  have H := Lib.hid (show ∀ W', ((TuK w w.heap.size (w.heap.size + 1) (w.heap.size + 1 + 1) (V 1) (.agg #[ou, ov, oz]) (.agg #[pa, ps, pq]) W' ∧ RetJn (w.heap.size + 1 + 1 + 1) W' (V 1) (cutJ j) ∧ RetWo (w.heap.size + 1 + 1 + 1) W' (V 3) (cutO o) ∧ RetX (w.heap.size + 1 + 1 + 1) W' (V 5) (cutX x))) → K (fr (V)) W' from fun W' hA => hK _ _ ⟨V, rfl, HV.st 6 rfl, fun h0 => msf h0, fun h0 h1 => hA, fun h0 h1 => mtf (hC.no hL 7 _ rfl rfl) (more_ne h0 rfl), fun h0 => mtf (hC.no (hC.no hL 7 _ rfl rfl) 8 _ rfl rfl) (more_ne h0 rfl), fun h0 => hA.2.1, fun h0 => hA.2.2.1, fun h0 => hA.2.2.2⟩)
  have HU := Lib.hid (show (V) 1 = .agg #[a1, b1, c1, d1, x1, y1, m1] ∧ (V) 5 = .agg #[a5, b5, c5] from ⟨e1, e5⟩)
  clear hK hC hW hL HV s0 s1 s2 s3 f1 f3 f5
  rw [HFR.out, e1, e5]
  clear e1 e5
  have HUQ := HU
  have HB := Lib.hid hB
  have ZZ := Lib.hid z1
  clear hB z1
  have Q1 := Lib.hid qa1
  have Q2 := Lib.hid qa2
  have Q3 := Lib.hid qa3
  clear qa1 qa2 qa3
  obtain ⟨cc1, cc2, cc3, ee1, ee2, ee3, k1, k2, k3, _⟩ := HB.out
  injection ee1 with ee1
  subst ee1
  have HK := Lib.hid k1
  clear k1 k2 k3 ee2 ee3
  refine wpList_storeJn rfl rfl (.tmp 3) (.tmp 20) rfl w.heap.size xu xv xz xa xs xq xm a1 b1 c1 d1 x1 y1 m1 rfl rfl ZZ.out.one HK.out ?_
  intro w' kk gg
  have HA := Lib.hid (show (TuK w w.heap.size (w.heap.size + 1) (w.heap.size + 1 + 1) (V 1) (.agg #[ou, ov, oz]) (.agg #[pa, ps, pq]) w' ∧ RetJn (w.heap.size + 1 + 1 + 1) w' (V 1) (cutJ j) ∧ RetWo (w.heap.size + 1 + 1 + 1) w' (V 3) (cutO o) ∧ RetX (w.heap.size + 1 + 1 + 1) w' (V 5) (cutX x)) from ⟨by rw [(HUQ.out.1)]; exact (HB.out).at1 kk gg (by omega) (by omega) (Nat.le_refl _), (Q1.out).old gg (by omega), (Q2.out).old gg (by omega), (Q3.out).old gg (by omega)⟩)
  clear kk gg
  show K _ _; have := H.out _ HA.out; rw [HFR.out] at this
  obtain ⟨u1, u5⟩ := HU.out
  rw [u1, u5] at this
  exact this
 ·rintro L A W K hL hC hW ⟨V, rfl, HV, s0, s1, s2, s3, f1, f3, f5⟩ hK
  have hB := s1 (hW 6 rfl) hL
  have q3 := f3 (hW 3 rfl)
  obtain ⟨a3, b3, c3, e3, z3⟩ := retWo_shp q3
  have H := Lib.hid (show ∀ W', ((TuK w w.heap.size (w.heap.size + 1) (w.heap.size + 1 + 1) (V 1) (V 3) (.agg #[pa, ps, pq]) W' ∧ RetJn (w.heap.size + 1 + 1 + 1) W' (V 1) (cutJ j) ∧ RetWo (w.heap.size + 1 + 1 + 1) W' (V 3) (cutO o) ∧ RetX (w.heap.size + 1 + 1 + 1) W' (V 5) (cutX x))) → K (fr (V)) W' from fun W' hA => hK _ _ ⟨V, rfl, HV.st 7 rfl, fun h0 => mtf (mnf h0 rfl) (hW 6 rfl), fun h0 h1 => msf h1, fun h0 h1 => hA, fun h0 => mtf (hC.no hL 8 _ rfl rfl) (more_ne h0 rfl), fun h0 => hA.2.1, fun h0 => hA.2.2.1, fun h0 => hA.2.2.2⟩)
  have HU := Lib.hid (show (V) 3 = .agg #[a3, b3, c3] from e3)
  clear hK hC hW hL HV s0 s1 s2 s3 f1 f3 f5
  rw [HFR.out, e3]
  clear e3
  have HUQ := HU
  have HB := Lib.hid hB
  have ZZ := Lib.hid z3
  clear hB z3
  obtain ⟨cc1, cc2, cc3, ee1, ee2, ee3, k1, k2, k3, _⟩ := HB.out.1
  injection ee2 with ee2
  subst ee2
  have HK := Lib.hid k2
  clear k1 k2 k3 ee1 ee3
  refine wpList_storeWo rfl rfl (.tmp 4) (.tmp 22) rfl (w.heap.size + 1) ou ov oz a3 b3 c3 rfl rfl ZZ.out.one HK.out ?_
  intro w' kk gg
  have HA := Lib.hid (show (TuK w w.heap.size (w.heap.size + 1) (w.heap.size + 1 + 1) (V 1) (V 3) (.agg #[pa, ps, pq]) w' ∧ RetJn (w.heap.size + 1 + 1 + 1) w' (V 1) (cutJ j) ∧ RetWo (w.heap.size + 1 + 1 + 1) w' (V 3) (cutO o) ∧ RetX (w.heap.size + 1 + 1 + 1) w' (V 5) (cutX x)) from ⟨by rw [(HUQ.out)]; exact (HB.out.1).at2 kk gg (by omega) (by omega) (Nat.le_refl _), (HB.out.2.1).old gg (by omega), (HB.out.2.2.1).old gg (by omega), (HB.out.2.2.2).old gg (by omega)⟩)
  clear kk gg
  show K _ _; have := H.out _ HA.out; rw [HFR.out] at this
  obtain u3 := HU.out
  rw [u3] at this
  exact this
 ·rintro L A W K hL hC hW ⟨V, rfl, HV, s0, s1, s2, s3, f1, f3, f5⟩ hK
  have hB := s2 (hW 7 rfl) hL
  have q5 := f5 (hW 5 rfl)
  obtain ⟨a5, b5, c5, e5, z5⟩ := retX_shp q5
  have H := Lib.hid (show ∀ W', ((TuK w w.heap.size (w.heap.size + 1) (w.heap.size + 1 + 1) (V 1) (V 3) (V 5) W' ∧ RetJn (w.heap.size + 1 + 1 + 1) W' (V 1) (cutJ j) ∧ RetWo (w.heap.size + 1 + 1 + 1) W' (V 3) (cutO o) ∧ RetX (w.heap.size + 1 + 1 + 1) W' (V 5) (cutX x))) → K (fr (V)) W' from fun W' hA => hK _ _ ⟨V, rfl, HV.st 8 rfl, fun h0 => mtf (mnf h0 rfl) (hC 7 _ rfl (hW 7 rfl) 6 rfl), fun h0 h1 => mtf (mnf h1 rfl) (hW 7 rfl), fun h0 h1 => msf h1, fun h0 => hA, fun h0 => hA.2.1, fun h0 => hA.2.2.1, fun h0 => hA.2.2.2⟩)
  have HU := Lib.hid (show (V) 5 = .agg #[a5, b5, c5] from e5)
  clear hK hC hW hL HV s0 s1 s2 s3 f1 f3 f5
  rw [HFR.out, e5]
  clear e5
  have HUQ := HU
  have HB := Lib.hid hB
  have ZZ := Lib.hid z5
  clear hB z5
  obtain ⟨cc1, cc2, cc3, ee1, ee2, ee3, k1, k2, k3, _⟩ := HB.out.1
  injection ee3 with ee3
  subst ee3
  have HK := Lib.hid k3
  clear k1 k2 k3 ee1 ee2
  refine wpList_storeX rfl rfl (.tmp 5) (.tmp 24) rfl (w.heap.size + 1 + 1) pa ps pq a5 b5 c5 rfl rfl ZZ.out.one.1 ZZ.out.one.2.1 ZZ.out.one.2.2 HK.out ?_
  intro w' kk gg
  have HA := Lib.hid (show (TuK w w.heap.size (w.heap.size + 1) (w.heap.size + 1 + 1) (V 1) (V 3) (V 5) w' ∧ RetJn (w.heap.size + 1 + 1 + 1) w' (V 1) (cutJ j) ∧ RetWo (w.heap.size + 1 + 1 + 1) w' (V 3) (cutO o) ∧ RetX (w.heap.size + 1 + 1 + 1) w' (V 5) (cutX x)) from ⟨by rw [(HUQ.out)]; exact (HB.out.1).at3 kk gg (by omega) (by omega) (Nat.le_refl _), (HB.out.2.1).old gg (by omega), (HB.out.2.2.1).old gg (by omega), (HB.out.2.2.2).old gg (by omega)⟩)
  clear kk gg
  show K _ _; have := H.out _ HA.out; rw [HFR.out] at this
  obtain u5 := HU.out
  rw [u5] at this
  exact this
 ·rintro L A W hL ⟨V, rfl, HV, s0, s1, s2, s3, f1, f3, f5⟩
  have e0 := HV 0 _ rfl (hL 0 (by simp))
  have e2 := HV 2 _ rfl (hL 2 (by simp))
  have e4 := HV 4 _ rfl (hL 4 (by simp))
  have hA := s3 (hL 8 (by simp))
  have p20 := f1 (hL 1 (by simp))
  have p22 := f3 (hL 3 (by simp))
  have p24 := f5 (hL 5 (by simp))
  rw [HFR.out, e0, e2, e4]
  clear hL HV HFR e0 e2 e4 s0 s1 s2 s3 f1 f3 f5
  obtain ⟨ja, jb, jc, jd, je, jf, jm, hV1, hr1⟩ := retJn_shp hA.2.1
  obtain ⟨wa, wb, wd, hV3, hr3⟩ := retWo_shp hA.2.2.1
  obtain ⟨ta, ts, tp, hV5, hr5⟩ := retX_shp hA.2.2.2
  obtain ⟨cc1, cc2, cc3, e1, e2, e3, k1, k2, k3, hE⟩ := hA.1
  rw [hV1] at e1
  rw [hV3] at e2
  rw [hV5] at e3
  injection e1 with e1
  injection e2 with e2
  injection e3 with e3
  subst e1 e2 e3
  rw [hV1, hV3, hV5]
  have HEW := Lib.hid hE
  have KJ : Hid (JcB W w.heap.size ja jb jc jd je jf jm (cutJ j)) := Lib.hid ⟨k1, hr1.parts.1, hr1.parts.2.1, hr1.parts.2.2⟩
  have KW : Hid (WcB W (w.heap.size + 1) wa wb wd (cutO o)) := Lib.hid ⟨k2, hr3.wor⟩
  have KX : Hid (XcB W (w.heap.size + 1 + 1) ta ts tp (cutX x)) := Lib.hid ⟨k3, hr5.axr⟩
  have HSZ := Lib.hid (cutJ_sz j)
  have HSO := Lib.hid (cutO_sz o)
  clear k1 k2 k3 hE hr1 hr3 hr5 hA p20 p22 p24 hV1 hV3 hV5 HTU HJ HO HX HO1
  generalize cutJ j = J at *
  generalize cutO o = O at *
  generalize cutX x = X at *
  obtain ⟨AJ, nJ, rfl, _, _⟩ := KJ.out.2.2.2.len
  go_wp2_with (first
   | ((with_reducible refine wpList_loadJn ?_ (.tmp 3) ?_ w.heap.size 0 ja jb jc jd je jf (.slice AJ J.m.length nJ) ?_ ?_ ?_); (exact rfl); (exact rfl); (exact rfl); (exact KJ.out.rg))
   | ((with_reducible refine wpList_loadWo ?_ (.tmp 4) ?_ (w.heap.size + 1) 0 wa wb wd ?_ ?_ ?_); (exact rfl); (exact rfl); (exact rfl); (exact KW.out.rg)))
  by_cases h0 : (layJ J O).2 = 0
  ·obtain ⟨hr0, ho0⟩ := layJ_zero h0
   have HLY := Lib.hid (layJ_yes hr0 ho0)
   have HRJ := Lib.hid hr0
   have HRO := Lib.hid ho0
   clear h0 hr0 ho0
   obtain ⟨AA, hAA⟩ : ∃ AA : Jn, (⟨⟨O, J.p.x⟩, J.m⟩ : Jn) = AA := ⟨_, rfl⟩
   have HLY : Hid (layJ J O = (AA, 0)) := Lib.hid (by rw [HLY.out, hAA])
   have HAO := Lib.hid (show AA.p.w = O ∧ AA.m.length = J.m.length from by rw [← hAA]; exact ⟨rfl, rfl⟩)
   have HRA := Lib.hid (show rightJn AA = true from by rw [← hAA]; exact right_lay HRJ.out HRO.out)
   have HSA : Hid (SzJ AA) := Lib.hid (by rw [← hAA]; exact ⟨HSO.out, HSZ.out.2⟩)
   have HTA := Lib.hid (fun hx : rightX X = true => show tchJ AA X = (⟨⟨O, X⟩, J.m⟩, 0) from by rw [tchJ_yes HRA.out hx, ← hAA])
   have HLB : Hid (layJ AA J.p.w = (J, 0)) := Lib.hid (by rw [layJ_yes HRA.out (rightJn_w HRJ.out), ← hAA])
   clear hAA
   refine (layJ_any _ _ _ _ _ _ _ _ _ _ J O _ KJ.out.2 HSZ.out KW.out.2 HSO.out).mono ?_
   rintro e w10 ⟨v10, rfl, hr, he⟩
   rw [HLY.out] at hr ⊢
   obtain ⟨a10, b10, c10, d10, x10, y10, m10, rfl, hr⟩ := retJn_shp hr
   obtain ⟨A10, n10, rfl, _, _⟩ := hr.parts.2.2.len
   have R10 := Lib.hid hr
   have E10 := Lib.hid he
   have KJ := Lib.hid (KJ.out.ext E10.out); have KW := Lib.hid (KW.out.ext E10.out); have KX := Lib.hid (KX.out.ext E10.out); have HEW := Lib.hid (HEW.out.trans E10.out)
   clear hr he
   cases hx : rightX X with
   | false =>
    have HT1 := Lib.hid (tchJ_no HRA.out hx)
    have HT2 := Lib.hid (tchJ_no HRJ.out hx)
    clear hx HTA
    go_wp2_with (first
     | ((with_reducible refine wpList_storeJn ?_ ?_ (.tmp 7) (.tmp 29) ?_ w10.heap.size (.slice none 0 0) (.slice none 0 0) (.slice none 0 0) (.slice none 0 0) (.slice none 0 0) (.slice none 0 0) (.slice none 0 0) a10 b10 c10 d10 x10 y10 (.slice A10 AA.m.length n10) ?_ ?_ R10.out.one ?_ ?_); (exact rfl); (exact rfl); (exact rfl); (exact rfl); (exact rfl); (exact (Cs.new _ _ _ _ rfl)); intro u10 k10 g10; have EU10 := Lib.hid (((Ext.refl w10).alloc (.cells #[.slice none 0 0, .slice none 0 0, .slice none 0 0, .slice none 0 0, .slice none 0 0, .slice none 0 0, .slice none 0 0] 40)).grown g10 (Nat.le_refl _)); have KJ := Lib.hid (KJ.out.ext EU10.out); have KW := Lib.hid (KW.out.ext EU10.out); have KX := Lib.hid (KX.out.ext EU10.out); have HEW := Lib.hid (HEW.out.trans EU10.out); have KA : Hid (JcB u10 w10.heap.size a10 b10 c10 d10 x10 y10 (.slice A10 AA.m.length n10) AA) := Lib.hid ⟨k10, (R10.out.ext EU10.out).parts.1, (R10.out.ext EU10.out).parts.2.1, (R10.out.ext EU10.out).parts.2.2⟩; clear k10 g10)
     | ((with_reducible refine wpList_loadJn ?_ (.tmp 7) ?_ w10.heap.size 0 a10 b10 c10 d10 x10 y10 (.slice A10 AA.m.length n10) ?_ ?_ ?_); (exact rfl); (exact rfl); (exact rfl); (exact KA.out.rg))
     | ((with_reducible refine wpList_loadXk ?_ (.tmp 5) ?_ (w.heap.size + 1 + 1) 0 ta ts tp ?_ ?_ ?_); (exact rfl); (exact rfl); (exact rfl); (exact KX.out.rg)))
    refine (tchJ_any _ _ _ _ _ _ _ _ _ _ AA X _ KA.out.2 HSA.out KX.out.2).mono ?_
    rintro e w11 ⟨v11, rfl, hr, he⟩
    rw [HT1.out] at hr ⊢
    obtain ⟨a11, b11, c11, d11, x11, y11, m11, rfl, hr⟩ := retJn_shp hr
    obtain ⟨A11, n11, rfl, _, _⟩ := hr.parts.2.2.len
    have R11 := Lib.hid hr
    have E11 := Lib.hid he
    have KJ := Lib.hid (KJ.out.ext E11.out); have KW := Lib.hid (KW.out.ext E11.out); have KX := Lib.hid (KX.out.ext E11.out); have KA := Lib.hid (KA.out.ext E11.out); have HEW := Lib.hid (HEW.out.trans E11.out)
    clear hr he
    go_wp2_with (first
     | ((with_reducible refine wpList_storeJn ?_ ?_ (.tmp 9) (.tmp 53) ?_ w11.heap.size (.slice none 0 0) (.slice none 0 0) (.slice none 0 0) (.slice none 0 0) (.slice none 0 0) (.slice none 0 0) (.slice none 0 0) a11 b11 c11 d11 x11 y11 (.slice A11 jn0.m.length n11) ?_ ?_ R11.out.one ?_ ?_); (exact rfl); (exact rfl); (exact rfl); (exact rfl); (exact rfl); (exact (Cs.new _ _ _ _ rfl)); intro u11 k11 g11; have EU11 := Lib.hid (((Ext.refl w11).alloc (.cells #[.slice none 0 0, .slice none 0 0, .slice none 0 0, .slice none 0 0, .slice none 0 0, .slice none 0 0, .slice none 0 0] 40)).grown g11 (Nat.le_refl _)); have KJ := Lib.hid (KJ.out.ext EU11.out); have KW := Lib.hid (KW.out.ext EU11.out); have KX := Lib.hid (KX.out.ext EU11.out); have KA := Lib.hid (KA.out.ext EU11.out); have HEW := Lib.hid (HEW.out.trans EU11.out); have KB : Hid (JcB u11 w11.heap.size a11 b11 c11 d11 x11 y11 (.slice A11 jn0.m.length n11) jn0) := Lib.hid ⟨k11, (R11.out.ext EU11.out).parts.1, (R11.out.ext EU11.out).parts.2.1, (R11.out.ext EU11.out).parts.2.2⟩; clear k11 g11)
     | ((with_reducible refine wpList_loadJn ?_ (.tmp 3) ?_ w.heap.size 0 ja jb jc jd je jf (.slice AJ J.m.length nJ) ?_ ?_ ?_); (exact rfl); (exact rfl); (exact rfl); (exact KJ.out.rg))
     | ((with_reducible refine wpList_loadXk ?_ (.tmp 5) ?_ (w.heap.size + 1 + 1) 0 ta ts tp ?_ ?_ ?_); (exact rfl); (exact rfl); (exact rfl); (exact KX.out.rg)))
    refine (tchJ_any _ _ _ _ _ _ _ _ _ _ J X _ KJ.out.2 HSZ.out KX.out.2).mono ?_
    rintro e w12 ⟨v12, rfl, hr, he⟩
    rw [HT2.out] at hr ⊢
    obtain ⟨a12, b12, c12, d12, x12, y12, m12, rfl, hr⟩ := retJn_shp hr
    obtain ⟨A12, n12, rfl, _, _⟩ := hr.parts.2.2.len
    have R12 := Lib.hid hr
    have E12 := Lib.hid he
    have KJ := Lib.hid (KJ.out.ext E12.out); have KW := Lib.hid (KW.out.ext E12.out); have KX := Lib.hid (KX.out.ext E12.out); have KA := Lib.hid (KA.out.ext E12.out); have KB := Lib.hid (KB.out.ext E12.out); have HEW := Lib.hid (HEW.out.trans E12.out)
    clear hr he
    go_wp2_with (first
     | ((with_reducible refine wpList_storeJn ?_ ?_ (.tmp 11) (.tmp 59) ?_ w12.heap.size (.slice none 0 0) (.slice none 0 0) (.slice none 0 0) (.slice none 0 0) (.slice none 0 0) (.slice none 0 0) (.slice none 0 0) a12 b12 c12 d12 x12 y12 (.slice A12 jn0.m.length n12) ?_ ?_ R12.out.one ?_ ?_); (exact rfl); (exact rfl); (exact rfl); (exact rfl); (exact rfl); (exact (Cs.new _ _ _ _ rfl)); intro u12 k12 g12; have EU12 := Lib.hid (((Ext.refl w12).alloc (.cells #[.slice none 0 0, .slice none 0 0, .slice none 0 0, .slice none 0 0, .slice none 0 0, .slice none 0 0, .slice none 0 0] 40)).grown g12 (Nat.le_refl _)); have KJ := Lib.hid (KJ.out.ext EU12.out); have KW := Lib.hid (KW.out.ext EU12.out); have KX := Lib.hid (KX.out.ext EU12.out); have KA := Lib.hid (KA.out.ext EU12.out); have KB := Lib.hid (KB.out.ext EU12.out); have HEW := Lib.hid (HEW.out.trans EU12.out); have KC : Hid (JcB u12 w12.heap.size a12 b12 c12 d12 x12 y12 (.slice A12 jn0.m.length n12) jn0) := Lib.hid ⟨k12, (R12.out.ext EU12.out).parts.1, (R12.out.ext EU12.out).parts.2.1, (R12.out.ext EU12.out).parts.2.2⟩; clear k12 g12)
     | ((with_reducible refine wpList_loadJn ?_ (.tmp 7) ?_ w10.heap.size 0 a10 b10 c10 d10 x10 y10 (.slice A10 AA.m.length n10) ?_ ?_ ?_); (exact rfl); (exact rfl); (exact rfl); (exact KA.out.rg))
     | ((with_reducible refine wpList_loadWo ?_ (.tmp 101) ?_ w.heap.size 0 ja jb jc ?_ ?_ ?_); (exact rfl); (exact rfl); (exact rfl); (exact KJ.out.rgW)))
    refine (layJ_any _ _ _ _ _ _ _ _ _ _ AA J.p.w _ KA.out.2 HSA.out KJ.out.2.1 HSZ.out.1).mono ?_
    rintro e w13 ⟨v13, rfl, hr, he⟩
    rw [HLB.out] at hr ⊢
    obtain ⟨a13, b13, c13, d13, x13, y13, m13, rfl, hr⟩ := retJn_shp hr
    obtain ⟨A13, n13, rfl, _, _⟩ := hr.parts.2.2.len
    have R13 := Lib.hid hr
    have E13 := Lib.hid he
    have KJ := Lib.hid (KJ.out.ext E13.out); have KW := Lib.hid (KW.out.ext E13.out); have KX := Lib.hid (KX.out.ext E13.out); have KA := Lib.hid (KA.out.ext E13.out); have KB := Lib.hid (KB.out.ext E13.out); have KC := Lib.hid (KC.out.ext E13.out); have HEW := Lib.hid (HEW.out.trans E13.out)
    clear hr he
    go_wp2_with (first
     | ((with_reducible refine wpList_storeJn ?_ ?_ (.tmp 15) (.tmp 104) ?_ w13.heap.size (.slice none 0 0) (.slice none 0 0) (.slice none 0 0) (.slice none 0 0) (.slice none 0 0) (.slice none 0 0) (.slice none 0 0) a13 b13 c13 d13 x13 y13 (.slice A13 J.m.length n13) ?_ ?_ R13.out.one ?_ ?_); (exact rfl); (exact rfl); (exact rfl); (exact rfl); (exact rfl); (exact (Cs.new _ _ _ _ rfl)); intro u13 k13 g13; have EU13 := Lib.hid (((Ext.refl w13).alloc (.cells #[.slice none 0 0, .slice none 0 0, .slice none 0 0, .slice none 0 0, .slice none 0 0, .slice none 0 0, .slice none 0 0] 40)).grown g13 (Nat.le_refl _)); have KJ := Lib.hid (KJ.out.ext EU13.out); have KW := Lib.hid (KW.out.ext EU13.out); have KX := Lib.hid (KX.out.ext EU13.out); have KA := Lib.hid (KA.out.ext EU13.out); have KB := Lib.hid (KB.out.ext EU13.out); have KC := Lib.hid (KC.out.ext EU13.out); have HEW := Lib.hid (HEW.out.trans EU13.out); have KZ : Hid (JcB u13 w13.heap.size a13 b13 c13 d13 x13 y13 (.slice A13 J.m.length n13) J) := Lib.hid ⟨k13, (R13.out.ext EU13.out).parts.1, (R13.out.ext EU13.out).parts.2.1, (R13.out.ext EU13.out).parts.2.2⟩; clear k13 g13)
     | ((with_reducible refine wpList_loadJn ?_ (.tmp 15) ?_ w13.heap.size 0 a13 b13 c13 d13 x13 y13 (.slice A13 J.m.length n13) ?_ ?_ ?_); (exact rfl); (exact rfl); (exact rfl); (exact KZ.out.rg))
     | ((with_reducible refine wpList_loadJn ?_ (.tmp 3) ?_ w.heap.size 0 ja jb jc jd je jf (.slice AJ J.m.length nJ) ?_ ?_ ?_); (exact rfl); (exact rfl); (exact rfl); (exact KJ.out.rg)))
    refine (sameJ_any _ _ _ _ _ _ _ _ _ _ _ _ _ _ J J _ KZ.out.2.1 KZ.out.2.2.1 KZ.out.2.2.2 KJ.out.2.1 KJ.out.2.2.1 KJ.out.2.2.2).mono ?_
    rintro e w14 ⟨rfl, he⟩
    rw [sameJn_iff.2 rfl]
    have E14 := Lib.hid he
    have KJ := Lib.hid (KJ.out.ext E14.out); have KW := Lib.hid (KW.out.ext E14.out); have KX := Lib.hid (KX.out.ext E14.out); have KA := Lib.hid (KA.out.ext E14.out); have KB := Lib.hid (KB.out.ext E14.out); have KC := Lib.hid (KC.out.ext E14.out); have KZ := Lib.hid (KZ.out.ext E14.out); have HEW := Lib.hid (HEW.out.trans E14.out)
    clear he
    go_wp2_with (first
     | ((with_reducible refine wpList_loadWo ?_ (.tmp 115) ?_ w10.heap.size 0 a10 b10 c10 ?_ ?_ ?_); (exact rfl); (exact rfl); (exact rfl); (exact KA.out.rgW))
     | ((with_reducible refine wpList_loadWo ?_ (.tmp 4) ?_ (w.heap.size + 1) 0 wa wb wd ?_ ?_ ?_); (exact rfl); (exact rfl); (exact rfl); (exact KW.out.rg)))
    refine (sameWo_any _ _ _ _ _ _ AA.p.w O _ KA.out.2.1 KW.out.2).mono ?_
    rintro e w15 ⟨rfl, he⟩
    rw [sameWo_iff.2 HAO.out.1]
    have E15 := Lib.hid he
    have KJ := Lib.hid (KJ.out.ext E15.out); have KW := Lib.hid (KW.out.ext E15.out); have KX := Lib.hid (KX.out.ext E15.out); have KA := Lib.hid (KA.out.ext E15.out); have KB := Lib.hid (KB.out.ext E15.out); have KC := Lib.hid (KC.out.ext E15.out); have KZ := Lib.hid (KZ.out.ext E15.out); have HEW := Lib.hid (HEW.out.trans E15.out)
    clear he
    have qA6 := KA.out.1.cell 6 _ rfl
    have qJ6 := KJ.out.1.cell 6 _ rfl
    have hl := HAO.out.2
    have hl2 : ((AA.m.length : Int) == (J.m.length : Int)) = true := by rw [hl]; exact beq_self_eq_true _
    go_wp2_with fail
    refine bodyPost_ret (results_tmp rfl _ _ _) rfl ?_
    exact ⟨rfl, HEW.out⟩
   | true =>
    have HT1 := Lib.hid (HTA.out hx)
    have HT2 := Lib.hid (tchJ_yes HRJ.out hx)
    have HRX := Lib.hid hx
    clear hx HTA
    obtain ⟨BB, hBB⟩ : ∃ BB : Jn, (⟨⟨O, X⟩, J.m⟩ : Jn) = BB := ⟨_, rfl⟩
    obtain ⟨CC, hCC⟩ : ∃ CC : Jn, (⟨⟨J.p.w, X⟩, J.m⟩ : Jn) = CC := ⟨_, rfl⟩
    have HLD : Hid (layJ CC O = (BB, 0)) := Lib.hid (by rw [← hCC, layJ_yes (right_tch HRJ.out HRX.out) HRO.out, ← hBB])
    have HCW := Lib.hid (show CC.p.w = J.p.w ∧ BB.p.w = O from by rw [← hCC, ← hBB]; exact ⟨rfl, rfl⟩)
    have HSC : Hid (SzJ CC) := Lib.hid (by rw [← hCC]; exact ⟨HSZ.out.1, HSZ.out.2⟩)
    rw [hBB] at HT1
    rw [hCC] at HT2
    clear hBB hCC
    go_wp2_with (first
     | ((with_reducible refine wpList_storeJn ?_ ?_ (.tmp 7) (.tmp 29) ?_ w10.heap.size (.slice none 0 0) (.slice none 0 0) (.slice none 0 0) (.slice none 0 0) (.slice none 0 0) (.slice none 0 0) (.slice none 0 0) a10 b10 c10 d10 x10 y10 (.slice A10 AA.m.length n10) ?_ ?_ R10.out.one ?_ ?_); (exact rfl); (exact rfl); (exact rfl); (exact rfl); (exact rfl); (exact (Cs.new _ _ _ _ rfl)); intro u10 k10 g10; have EU10 := Lib.hid (((Ext.refl w10).alloc (.cells #[.slice none 0 0, .slice none 0 0, .slice none 0 0, .slice none 0 0, .slice none 0 0, .slice none 0 0, .slice none 0 0] 40)).grown g10 (Nat.le_refl _)); have KJ := Lib.hid (KJ.out.ext EU10.out); have KW := Lib.hid (KW.out.ext EU10.out); have KX := Lib.hid (KX.out.ext EU10.out); have HEW := Lib.hid (HEW.out.trans EU10.out); have KA : Hid (JcB u10 w10.heap.size a10 b10 c10 d10 x10 y10 (.slice A10 AA.m.length n10) AA) := Lib.hid ⟨k10, (R10.out.ext EU10.out).parts.1, (R10.out.ext EU10.out).parts.2.1, (R10.out.ext EU10.out).parts.2.2⟩; clear k10 g10)
     | ((with_reducible refine wpList_loadJn ?_ (.tmp 7) ?_ w10.heap.size 0 a10 b10 c10 d10 x10 y10 (.slice A10 AA.m.length n10) ?_ ?_ ?_); (exact rfl); (exact rfl); (exact rfl); (exact KA.out.rg))
     | ((with_reducible refine wpList_loadXk ?_ (.tmp 5) ?_ (w.heap.size + 1 + 1) 0 ta ts tp ?_ ?_ ?_); (exact rfl); (exact rfl); (exact rfl); (exact KX.out.rg)))
    refine (tchJ_any _ _ _ _ _ _ _ _ _ _ AA X _ KA.out.2 HSA.out KX.out.2).mono ?_
    rintro e w11 ⟨v11, rfl, hr, he⟩
    rw [HT1.out] at hr ⊢
    obtain ⟨a11, b11, c11, d11, x11, y11, m11, rfl, hr⟩ := retJn_shp hr
    obtain ⟨A11, n11, rfl, _, _⟩ := hr.parts.2.2.len
    have R11 := Lib.hid hr
    have E11 := Lib.hid he
    have KJ := Lib.hid (KJ.out.ext E11.out); have KW := Lib.hid (KW.out.ext E11.out); have KX := Lib.hid (KX.out.ext E11.out); have KA := Lib.hid (KA.out.ext E11.out); have HEW := Lib.hid (HEW.out.trans E11.out)
    clear hr he
    go_wp2_with (first
     | ((with_reducible refine wpList_storeJn ?_ ?_ (.tmp 9) (.tmp 53) ?_ w11.heap.size (.slice none 0 0) (.slice none 0 0) (.slice none 0 0) (.slice none 0 0) (.slice none 0 0) (.slice none 0 0) (.slice none 0 0) a11 b11 c11 d11 x11 y11 (.slice A11 BB.m.length n11) ?_ ?_ R11.out.one ?_ ?_); (exact rfl); (exact rfl); (exact rfl); (exact rfl); (exact rfl); (exact (Cs.new _ _ _ _ rfl)); intro u11 k11 g11; have EU11 := Lib.hid (((Ext.refl w11).alloc (.cells #[.slice none 0 0, .slice none 0 0, .slice none 0 0, .slice none 0 0, .slice none 0 0, .slice none 0 0, .slice none 0 0] 40)).grown g11 (Nat.le_refl _)); have KJ := Lib.hid (KJ.out.ext EU11.out); have KW := Lib.hid (KW.out.ext EU11.out); have KX := Lib.hid (KX.out.ext EU11.out); have KA := Lib.hid (KA.out.ext EU11.out); have HEW := Lib.hid (HEW.out.trans EU11.out); have KB : Hid (JcB u11 w11.heap.size a11 b11 c11 d11 x11 y11 (.slice A11 BB.m.length n11) BB) := Lib.hid ⟨k11, (R11.out.ext EU11.out).parts.1, (R11.out.ext EU11.out).parts.2.1, (R11.out.ext EU11.out).parts.2.2⟩; clear k11 g11)
     | ((with_reducible refine wpList_loadJn ?_ (.tmp 3) ?_ w.heap.size 0 ja jb jc jd je jf (.slice AJ J.m.length nJ) ?_ ?_ ?_); (exact rfl); (exact rfl); (exact rfl); (exact KJ.out.rg))
     | ((with_reducible refine wpList_loadXk ?_ (.tmp 5) ?_ (w.heap.size + 1 + 1) 0 ta ts tp ?_ ?_ ?_); (exact rfl); (exact rfl); (exact rfl); (exact KX.out.rg)))
    refine (tchJ_any _ _ _ _ _ _ _ _ _ _ J X _ KJ.out.2 HSZ.out KX.out.2).mono ?_
    rintro e w12 ⟨v12, rfl, hr, he⟩
    rw [HT2.out] at hr ⊢
    obtain ⟨a12, b12, c12, d12, x12, y12, m12, rfl, hr⟩ := retJn_shp hr
    obtain ⟨A12, n12, rfl, _, _⟩ := hr.parts.2.2.len
    have R12 := Lib.hid hr
    have E12 := Lib.hid he
    have KJ := Lib.hid (KJ.out.ext E12.out); have KW := Lib.hid (KW.out.ext E12.out); have KX := Lib.hid (KX.out.ext E12.out); have KA := Lib.hid (KA.out.ext E12.out); have KB := Lib.hid (KB.out.ext E12.out); have HEW := Lib.hid (HEW.out.trans E12.out)
    clear hr he
    go_wp2_with (first
     | ((with_reducible refine wpList_storeJn ?_ ?_ (.tmp 11) (.tmp 59) ?_ w12.heap.size (.slice none 0 0) (.slice none 0 0) (.slice none 0 0) (.slice none 0 0) (.slice none 0 0) (.slice none 0 0) (.slice none 0 0) a12 b12 c12 d12 x12 y12 (.slice A12 CC.m.length n12) ?_ ?_ R12.out.one ?_ ?_); (exact rfl); (exact rfl); (exact rfl); (exact rfl); (exact rfl); (exact (Cs.new _ _ _ _ rfl)); intro u12 k12 g12; have EU12 := Lib.hid (((Ext.refl w12).alloc (.cells #[.slice none 0 0, .slice none 0 0, .slice none 0 0, .slice none 0 0, .slice none 0 0, .slice none 0 0, .slice none 0 0] 40)).grown g12 (Nat.le_refl _)); have KJ := Lib.hid (KJ.out.ext EU12.out); have KW := Lib.hid (KW.out.ext EU12.out); have KX := Lib.hid (KX.out.ext EU12.out); have KA := Lib.hid (KA.out.ext EU12.out); have KB := Lib.hid (KB.out.ext EU12.out); have HEW := Lib.hid (HEW.out.trans EU12.out); have KC : Hid (JcB u12 w12.heap.size a12 b12 c12 d12 x12 y12 (.slice A12 CC.m.length n12) CC) := Lib.hid ⟨k12, (R12.out.ext EU12.out).parts.1, (R12.out.ext EU12.out).parts.2.1, (R12.out.ext EU12.out).parts.2.2⟩; clear k12 g12)
     | ((with_reducible refine wpList_loadJn ?_ (.tmp 11) ?_ w12.heap.size 0 a12 b12 c12 d12 x12 y12 (.slice A12 CC.m.length n12) ?_ ?_ ?_); (exact rfl); (exact rfl); (exact rfl); (exact KC.out.rg))
     | ((with_reducible refine wpList_loadWo ?_ (.tmp 4) ?_ (w.heap.size + 1) 0 wa wb wd ?_ ?_ ?_); (exact rfl); (exact rfl); (exact rfl); (exact KW.out.rg)))
    refine (layJ_any _ _ _ _ _ _ _ _ _ _ CC O _ KC.out.2 HSC.out KW.out.2 HSO.out).mono ?_
    rintro e w13 ⟨v13, rfl, hr, he⟩
    rw [HLD.out] at hr ⊢
    obtain ⟨a13, b13, c13, d13, x13, y13, m13, rfl, hr⟩ := retJn_shp hr
    obtain ⟨A13, n13, rfl, _, _⟩ := hr.parts.2.2.len
    have R13 := Lib.hid hr
    have E13 := Lib.hid he
    have KJ := Lib.hid (KJ.out.ext E13.out); have KW := Lib.hid (KW.out.ext E13.out); have KX := Lib.hid (KX.out.ext E13.out); have KA := Lib.hid (KA.out.ext E13.out); have KB := Lib.hid (KB.out.ext E13.out); have KC := Lib.hid (KC.out.ext E13.out); have HEW := Lib.hid (HEW.out.trans E13.out)
    clear hr he
    go_wp2_with (first
     | ((with_reducible refine wpList_storeJn ?_ ?_ (.tmp 13) (.tmp 70) ?_ w13.heap.size (.slice none 0 0) (.slice none 0 0) (.slice none 0 0) (.slice none 0 0) (.slice none 0 0) (.slice none 0 0) (.slice none 0 0) a13 b13 c13 d13 x13 y13 (.slice A13 BB.m.length n13) ?_ ?_ R13.out.one ?_ ?_); (exact rfl); (exact rfl); (exact rfl); (exact rfl); (exact rfl); (exact (Cs.new _ _ _ _ rfl)); intro u13 k13 g13; have EU13 := Lib.hid (((Ext.refl w13).alloc (.cells #[.slice none 0 0, .slice none 0 0, .slice none 0 0, .slice none 0 0, .slice none 0 0, .slice none 0 0, .slice none 0 0] 40)).grown g13 (Nat.le_refl _)); have KJ := Lib.hid (KJ.out.ext EU13.out); have KW := Lib.hid (KW.out.ext EU13.out); have KX := Lib.hid (KX.out.ext EU13.out); have KA := Lib.hid (KA.out.ext EU13.out); have KB := Lib.hid (KB.out.ext EU13.out); have KC := Lib.hid (KC.out.ext EU13.out); have HEW := Lib.hid (HEW.out.trans EU13.out); have KD : Hid (JcB u13 w13.heap.size a13 b13 c13 d13 x13 y13 (.slice A13 BB.m.length n13) BB) := Lib.hid ⟨k13, (R13.out.ext EU13.out).parts.1, (R13.out.ext EU13.out).parts.2.1, (R13.out.ext EU13.out).parts.2.2⟩; clear k13 g13)
     | ((with_reducible refine wpList_loadJn ?_ (.tmp 9) ?_ w11.heap.size 0 a11 b11 c11 d11 x11 y11 (.slice A11 BB.m.length n11) ?_ ?_ ?_); (exact rfl); (exact rfl); (exact rfl); (exact KB.out.rg))
     | ((with_reducible refine wpList_loadJn ?_ (.tmp 13) ?_ w13.heap.size 0 a13 b13 c13 d13 x13 y13 (.slice A13 BB.m.length n13) ?_ ?_ ?_); (exact rfl); (exact rfl); (exact rfl); (exact KD.out.rg)))
    refine (sameJ_any _ _ _ _ _ _ _ _ _ _ _ _ _ _ BB BB _ KB.out.2.1 KB.out.2.2.1 KB.out.2.2.2 KD.out.2.1 KD.out.2.2.1 KD.out.2.2.2).mono ?_
    rintro e w14 ⟨rfl, he⟩
    rw [sameJn_iff.2 rfl]
    have E14 := Lib.hid he
    have KJ := Lib.hid (KJ.out.ext E14.out); have KW := Lib.hid (KW.out.ext E14.out); have KX := Lib.hid (KX.out.ext E14.out); have KA := Lib.hid (KA.out.ext E14.out); have KB := Lib.hid (KB.out.ext E14.out); have KC := Lib.hid (KC.out.ext E14.out); have KD := Lib.hid (KD.out.ext E14.out); have HEW := Lib.hid (HEW.out.trans E14.out)
    clear he
    go_wp2_with (first
     | ((with_reducible refine wpList_loadWo ?_ (.tmp 82) ?_ w12.heap.size 0 a12 b12 c12 ?_ ?_ ?_); (exact rfl); (exact rfl); (exact rfl); (exact KC.out.rgW))
     | ((with_reducible refine wpList_loadWo ?_ (.tmp 85) ?_ w.heap.size 0 ja jb jc ?_ ?_ ?_); (exact rfl); (exact rfl); (exact rfl); (exact KJ.out.rgW)))
    refine (sameWo_any _ _ _ _ _ _ CC.p.w J.p.w _ KC.out.2.1 KJ.out.2.1).mono ?_
    rintro e w15 ⟨rfl, he⟩
    rw [sameWo_iff.2 HCW.out.1]
    have E15 := Lib.hid he
    have KJ := Lib.hid (KJ.out.ext E15.out); have KW := Lib.hid (KW.out.ext E15.out); have KX := Lib.hid (KX.out.ext E15.out); have KA := Lib.hid (KA.out.ext E15.out); have KB := Lib.hid (KB.out.ext E15.out); have KC := Lib.hid (KC.out.ext E15.out); have KD := Lib.hid (KD.out.ext E15.out); have HEW := Lib.hid (HEW.out.trans E15.out)
    clear he
    go_wp2_with (first
     | ((with_reducible refine wpList_loadWo ?_ (.tmp 92) ?_ w11.heap.size 0 a11 b11 c11 ?_ ?_ ?_); (exact rfl); (exact rfl); (exact rfl); (exact KB.out.rgW))
     | ((with_reducible refine wpList_loadWo ?_ (.tmp 4) ?_ (w.heap.size + 1) 0 wa wb wd ?_ ?_ ?_); (exact rfl); (exact rfl); (exact rfl); (exact KW.out.rg)))
    refine (sameWo_any _ _ _ _ _ _ BB.p.w O _ KB.out.2.1 KW.out.2).mono ?_
    rintro e w16 ⟨rfl, he⟩
    rw [sameWo_iff.2 HCW.out.2]
    have E16 := Lib.hid he
    have KJ := Lib.hid (KJ.out.ext E16.out); have KW := Lib.hid (KW.out.ext E16.out); have KX := Lib.hid (KX.out.ext E16.out); have KA := Lib.hid (KA.out.ext E16.out); have KB := Lib.hid (KB.out.ext E16.out); have KC := Lib.hid (KC.out.ext E16.out); have KD := Lib.hid (KD.out.ext E16.out); have HEW := Lib.hid (HEW.out.trans E16.out)
    clear he
    go_wp2_with (first
     | ((with_reducible refine wpList_loadJn ?_ (.tmp 7) ?_ w10.heap.size 0 a10 b10 c10 d10 x10 y10 (.slice A10 AA.m.length n10) ?_ ?_ ?_); (exact rfl); (exact rfl); (exact rfl); (exact KA.out.rg))
     | ((with_reducible refine wpList_loadWo ?_ (.tmp 101) ?_ w.heap.size 0 ja jb jc ?_ ?_ ?_); (exact rfl); (exact rfl); (exact rfl); (exact KJ.out.rgW)))
    refine (layJ_any _ _ _ _ _ _ _ _ _ _ AA J.p.w _ KA.out.2 HSA.out KJ.out.2.1 HSZ.out.1).mono ?_
    rintro e w17 ⟨v17, rfl, hr, he⟩
    rw [HLB.out] at hr ⊢
    obtain ⟨a17, b17, c17, d17, x17, y17, m17, rfl, hr⟩ := retJn_shp hr
    obtain ⟨A17, n17, rfl, _, _⟩ := hr.parts.2.2.len
    have R17 := Lib.hid hr
    have E17 := Lib.hid he
    have KJ := Lib.hid (KJ.out.ext E17.out); have KW := Lib.hid (KW.out.ext E17.out); have KX := Lib.hid (KX.out.ext E17.out); have KA := Lib.hid (KA.out.ext E17.out); have KB := Lib.hid (KB.out.ext E17.out); have KC := Lib.hid (KC.out.ext E17.out); have KD := Lib.hid (KD.out.ext E17.out); have HEW := Lib.hid (HEW.out.trans E17.out)
    clear hr he
    go_wp2_with (first
     | ((with_reducible refine wpList_storeJn ?_ ?_ (.tmp 15) (.tmp 104) ?_ w17.heap.size (.slice none 0 0) (.slice none 0 0) (.slice none 0 0) (.slice none 0 0) (.slice none 0 0) (.slice none 0 0) (.slice none 0 0) a17 b17 c17 d17 x17 y17 (.slice A17 J.m.length n17) ?_ ?_ R17.out.one ?_ ?_); (exact rfl); (exact rfl); (exact rfl); (exact rfl); (exact rfl); (exact (Cs.new _ _ _ _ rfl)); intro u17 k17 g17; have EU17 := Lib.hid (((Ext.refl w17).alloc (.cells #[.slice none 0 0, .slice none 0 0, .slice none 0 0, .slice none 0 0, .slice none 0 0, .slice none 0 0, .slice none 0 0] 40)).grown g17 (Nat.le_refl _)); have KJ := Lib.hid (KJ.out.ext EU17.out); have KW := Lib.hid (KW.out.ext EU17.out); have KX := Lib.hid (KX.out.ext EU17.out); have KA := Lib.hid (KA.out.ext EU17.out); have KB := Lib.hid (KB.out.ext EU17.out); have KC := Lib.hid (KC.out.ext EU17.out); have KD := Lib.hid (KD.out.ext EU17.out); have HEW := Lib.hid (HEW.out.trans EU17.out); have KZ : Hid (JcB u17 w17.heap.size a17 b17 c17 d17 x17 y17 (.slice A17 J.m.length n17) J) := Lib.hid ⟨k17, (R17.out.ext EU17.out).parts.1, (R17.out.ext EU17.out).parts.2.1, (R17.out.ext EU17.out).parts.2.2⟩; clear k17 g17)
     | ((with_reducible refine wpList_loadJn ?_ (.tmp 15) ?_ w17.heap.size 0 a17 b17 c17 d17 x17 y17 (.slice A17 J.m.length n17) ?_ ?_ ?_); (exact rfl); (exact rfl); (exact rfl); (exact KZ.out.rg))
     | ((with_reducible refine wpList_loadJn ?_ (.tmp 3) ?_ w.heap.size 0 ja jb jc jd je jf (.slice AJ J.m.length nJ) ?_ ?_ ?_); (exact rfl); (exact rfl); (exact rfl); (exact KJ.out.rg)))
    refine (sameJ_any _ _ _ _ _ _ _ _ _ _ _ _ _ _ J J _ KZ.out.2.1 KZ.out.2.2.1 KZ.out.2.2.2 KJ.out.2.1 KJ.out.2.2.1 KJ.out.2.2.2).mono ?_
    rintro e w18 ⟨rfl, he⟩
    rw [sameJn_iff.2 rfl]
    have E18 := Lib.hid he
    have KJ := Lib.hid (KJ.out.ext E18.out); have KW := Lib.hid (KW.out.ext E18.out); have KX := Lib.hid (KX.out.ext E18.out); have KA := Lib.hid (KA.out.ext E18.out); have KB := Lib.hid (KB.out.ext E18.out); have KC := Lib.hid (KC.out.ext E18.out); have KD := Lib.hid (KD.out.ext E18.out); have KZ := Lib.hid (KZ.out.ext E18.out); have HEW := Lib.hid (HEW.out.trans E18.out)
    clear he
    go_wp2_with (first
     | ((with_reducible refine wpList_loadWo ?_ (.tmp 115) ?_ w10.heap.size 0 a10 b10 c10 ?_ ?_ ?_); (exact rfl); (exact rfl); (exact rfl); (exact KA.out.rgW))
     | ((with_reducible refine wpList_loadWo ?_ (.tmp 4) ?_ (w.heap.size + 1) 0 wa wb wd ?_ ?_ ?_); (exact rfl); (exact rfl); (exact rfl); (exact KW.out.rg)))
    refine (sameWo_any _ _ _ _ _ _ AA.p.w O _ KA.out.2.1 KW.out.2).mono ?_
    rintro e w19 ⟨rfl, he⟩
    rw [sameWo_iff.2 HAO.out.1]
    have E19 := Lib.hid he
    have KJ := Lib.hid (KJ.out.ext E19.out); have KW := Lib.hid (KW.out.ext E19.out); have KX := Lib.hid (KX.out.ext E19.out); have KA := Lib.hid (KA.out.ext E19.out); have KB := Lib.hid (KB.out.ext E19.out); have KC := Lib.hid (KC.out.ext E19.out); have KD := Lib.hid (KD.out.ext E19.out); have KZ := Lib.hid (KZ.out.ext E19.out); have HEW := Lib.hid (HEW.out.trans E19.out)
    clear he
    have qA6 := KA.out.1.cell 6 _ rfl
    have qJ6 := KJ.out.1.cell 6 _ rfl
    have hl := HAO.out.2
    have hl2 : ((AA.m.length : Int) == (J.m.length : Int)) = true := by rw [hl]; exact beq_self_eq_true _
    go_wp2_with fail
    refine bodyPost_ret (results_tmp rfl _ _ _) rfl ?_
    exact ⟨rfl, HEW.out⟩
  ·obtain ⟨hj0, hor⟩ := layJ_err h0
   have f1 : ((layJ J O).2 != 0) = true := by rw [bne_iff_ne]; exact h0
   have HJ0 := Lib.hid hj0
   have HOR := Lib.hid hor
   clear h0 hj0 hor
   refine (layJ_any _ _ _ _ _ _ _ _ _ _ J O _ KJ.out.2 HSZ.out KW.out.2 HSO.out).mono ?_
   rintro e w10 ⟨v10, rfl, hr, he⟩
   rw [HJ0.out] at hr
   obtain ⟨a10, b10, c10, d10, x10, y10, m10, rfl, hr⟩ := retJn_shp hr
   obtain ⟨A10, n10, rfl, _, _⟩ := hr.parts.2.2.len
   have R10 := Lib.hid hr
   have E10 := Lib.hid he
   have KJ := Lib.hid (KJ.out.ext E10.out); have KW := Lib.hid (KW.out.ext E10.out); have KX := Lib.hid (KX.out.ext E10.out); have HEW := Lib.hid (HEW.out.trans E10.out)
   clear hr he
   go_wp2_with (first
    | ((with_reducible refine wpList_storeJn ?_ ?_ (.tmp 7) (.tmp 29) ?_ w10.heap.size (.slice none 0 0) (.slice none 0 0) (.slice none 0 0) (.slice none 0 0) (.slice none 0 0) (.slice none 0 0) (.slice none 0 0) a10 b10 c10 d10 x10 y10 (.slice A10 jn0.m.length n10) ?_ ?_ R10.out.one ?_ ?_); (exact rfl); (exact rfl); (exact rfl); (exact rfl); (exact rfl); (exact (Cs.new _ _ _ _ rfl)); intro u10 k10 g10; have EU10 := Lib.hid (((Ext.refl w10).alloc (.cells #[.slice none 0 0, .slice none 0 0, .slice none 0 0, .slice none 0 0, .slice none 0 0, .slice none 0 0, .slice none 0 0] 40)).grown g10 (Nat.le_refl _)); have KJ := Lib.hid (KJ.out.ext EU10.out); have KW := Lib.hid (KW.out.ext EU10.out); have KX := Lib.hid (KX.out.ext EU10.out); have HEW := Lib.hid (HEW.out.trans EU10.out); have KA : Hid (JcB u10 w10.heap.size a10 b10 c10 d10 x10 y10 (.slice A10 jn0.m.length n10) jn0) := Lib.hid ⟨k10, (R10.out.ext EU10.out).parts.1, (R10.out.ext EU10.out).parts.2.1, (R10.out.ext EU10.out).parts.2.2⟩; clear k10 g10; have q6 := KA.out.1.cell 6 _ rfl; have hl : (jn0.m.length : Int) = 0 := rfl)
    | ((with_reducible refine wpList_loadJn ?_ (.tmp 3) ?_ w.heap.size 0 ja jb jc jd je jf (.slice AJ J.m.length nJ) ?_ ?_ ?_); (exact rfl); (exact rfl); (exact rfl); (exact KJ.out.rg)))
   refine (checkJ_any _ _ _ _ _ _ _ J _ KJ.out.2.1 KJ.out.2.2.1 KJ.out.2.2.2 HSZ.out).mono ?_
   rintro e w11 ⟨rfl, he⟩
   have E11 := Lib.hid he
   have KJ := Lib.hid (KJ.out.ext E11.out); have KW := Lib.hid (KW.out.ext E11.out); have KX := Lib.hid (KX.out.ext E11.out); have KA := Lib.hid (KA.out.ext E11.out); have HEW := Lib.hid (HEW.out.trans E11.out)
   clear he
   clear q6 hl f1
   by_cases hc : chkJn J = (layJ J O).2
   ·have fb : (chkJn J == (layJ J O).2) = true := by rw [beq_iff_eq]; exact hc
    go_wp2_with fail
    refine bodyPost_ret (results_tmp rfl _ _ _) rfl ?_
    exact ⟨rfl, HEW.out⟩
   ·have fb : (chkJn J == (layJ J O).2) = false := by rw [beq_eq_false_iff_ne]; exact hc
    have HC2 := Lib.hid (HOR.out.resolve_left hc)
    clear hc
    go_wp2_with ((with_reducible refine wpList_loadWo ?_ (.tmp 4) ?_ (w.heap.size + 1) 0 wa wb wd ?_ ?_ ?_); (exact rfl); (exact rfl); (exact rfl); (exact KW.out.rg))
    refine (checkWo_any _ _ _ O _ KW.out.2 HSO.out).mono ?_
    rintro e w12 ⟨rfl, he⟩
    have E12 := Lib.hid he
    have KJ := Lib.hid (KJ.out.ext E12.out); have KW := Lib.hid (KW.out.ext E12.out); have KX := Lib.hid (KX.out.ext E12.out); have KA := Lib.hid (KA.out.ext E12.out); have HEW := Lib.hid (HEW.out.trans E12.out)
    clear he
    have fc : (chkWo O == (layJ J O).2) = true := by rw [beq_iff_eq]; exact HC2.out
    go_wp2_with fail
    refine bodyPost_ret (results_tmp rfl _ _ _) rfl ?_
    exact ⟨rfl, HEW.out⟩
end Go.Proofs.YtnjpdchmdimaaaaGreat
