/- Package journal: lists of what has lists itself, in memory of their own. -/
import Derived.Test.YtnjpdchmdimaaaaGreatQJnd
import Derived.Test.YtnjpdchmdimaaaaGreatQAch
namespace Go.Proofs.YtnjpdchmdimaaaaGreat
open Go.ChangeShapes Go.WideShapes Go.ChangeAt Go.RowKit Go.Shelf

theorem own_low {W W' : World} {lo g s n : Nat} {e : TypeId} {v : Value} {xs : List Value} (h : W.ownsRow lo e s v n xs) (hg : W.grownBy W' (some g)) (hl : g < lo) : W'.ownsRow lo e s v n xs := by
 obtain ⟨h1, h2⟩ := h
 refine ⟨h1, ?_⟩
 rcases h2 with h2 | ⟨b, cap, cur, e, q1, q2, q3⟩
 ·exact .inl h2
 ·exact .inr ⟨b, cap, cur, e, q1, by rw [hg.block b (Array.getElem?_eq_some_iff.1 q2).1 (fun e => by injection e with e; omega)]; exact q2, q3⟩
def JbS (lo : Nat) (W : World) (v : Value) (l : List UInt8) : Prop := ∃ A c, v = .slice A l.length c ∧ Own W lo 5 (.slice A l.length c) l
theorem JbS.ext {lo : Nat} {W W' : World} {v : Value} {l : List UInt8} (h : JbS lo W v l) (he : Ext W W') : JbS lo W' v l := by obtain ⟨A, c, e, h⟩ := h; exact ⟨A, c, e, h.ext he⟩
def JkS (lo : Nat) (W : World) (v : Value) (l : List (Nat × Nat)) : Prop := ∃ A c, v = .slice A l.length c ∧ OwnK W lo (.slice A l.length c) l
theorem JkS.ext {lo : Nat} {W W' : World} {v : Value} {l : List (Nat × Nat)} (h : JkS lo W v l) (he : Ext W W') : JkS lo W' v l := by obtain ⟨A, c, e, h⟩ := h; exact ⟨A, c, e, h.ext he⟩
theorem own_shp {W : World} {lo : Nat} {v : Value} {l : List UInt8} (h : Own W lo 5 v l) : JbS lo W v l := by
 obtain ⟨A, c, rfl, _⟩ := Own.bs h
 exact ⟨A, c, rfl, h⟩
theorem ownK_shp {W : World} {lo : Nat} {v : Value} {l : List (Nat × Nat)} (h : OwnK W lo v l) : JkS lo W v l := by
 obtain ⟨A, c, rfl, _⟩ := h.pks.len
 exact ⟨A, c, rfl, h⟩
def AcN (w0 : World) (g1 g2 : Nat) (a : Ac) (u v : Value) (W : World) : Prop := Ab W g1 a u v ∧ Ext w0 W ∧ Cs W g2 79 az0
theorem AcN.ext {w0 : World} {g1 g2 : Nat} {a : Ac} {u v : Value} {W W' : World} (h : AcN w0 g1 g2 a u v W) (he : Ext W W') : AcN w0 g1 g2 a u v W' := ⟨h.1.ext he, h.2.1.trans he, Cs.ext h.2.2 he⟩
def AcM (w : World) (g1 g2 lo : Nat) (a : Ac) (cu cv u v : Value) (W : World) : Prop := Ab W g1 a cu cv ∧ JbS lo W u a.code ∧ JkS lo W v a.store ∧ Ext w W ∧ Cs W g2 79 az0
theorem AcM.ext {w : World} {g1 g2 lo : Nat} {a : Ac} {cu cv u v : Value} {W W' : World} (h : AcM w g1 g2 lo a cu cv u v W) (he : Ext W W') : AcM w g1 g2 lo a cu cv u v W' := ⟨h.1.ext he, h.2.1.ext he, h.2.2.1.ext he, h.2.2.2.1.trans he, Cs.ext h.2.2.2.2 he⟩
theorem AcM.put {w : World} {g1 g2 lo : Nat} {a : Ac} {cu cv cu' cv' u v : Value} {W W' : World} (h : AcM w g1 g2 lo a cu cv u v W) (hk : Ab W' g1 a cu' cv') (hg : W.grownBy W' (some g1)) (hl : g1 < lo) (hw : w.heap.size ≤ g1) (hn : g2 ≠ g1) : AcM w g1 g2 lo a cu' cv' u v W' := by
 obtain ⟨_, ⟨A, c, e1, h1⟩, ⟨B, d, e2, h2⟩, h3, h4⟩ := h
 exact ⟨hk, ⟨A, c, e1, own_low h1 hg hl⟩, ⟨B, d, e2, own_low h2.1 hg hl, h2.2⟩, h3.grown hg hw, Cs.kept h4 hg (fun e => hn (Option.some.inj e))⟩
set_option maxRecDepth 100000 in
theorem infoLB : (Tryz.prog.info? 76).map (·.size) = some 1 := by kernel_rfl
set_option maxRecDepth 100000 in
theorem infoLP2 : (Tryz.prog.info? 77).map (·.size) = some 1 := by kernel_rfl
set_option maxRecDepth 100000 in
set_option maxHeartbeats 8000000 in
theorem ownAc1_any (a : Ac) (ua va : Value) (w : World) (hu : Bs w ua a.code) (hv : Pks w va a.store) (h1 : a.code.length ≤ 1000000000) (h2 : a.store.length ≤ 1000000000) :
  Calls Tryz.prog 148 #[.agg (acc a ua va)] w fun e w' => ∃ u' v', e = .returned (.agg (acc a u' v')) ∧ JbS w.heap.size w' u' a.code ∧ JkS w.heap.size w' v' a.store ∧ Ext w w' := by
 have HBU := Lib.hid hu
 have HBV := Lib.hid hv
 have HL1 := Lib.hid h1
 have HL2 := Lib.hid h2
 obtain ⟨A1, c1, rfl, _⟩ := hu
 obtain ⟨A2, c2, rfl, _⟩ := hv.len
 obtain ⟨ua, hu0⟩ : ∃ u, Value.slice A1 a.code.length c1 = u := ⟨_, rfl⟩
 obtain ⟨va, hv0⟩ : ∃ u, Value.slice A2 a.store.length c2 = u := ⟨_, rfl⟩
 rw [hu0] at HBU
 rw [hv0] at HBV
 rw [hu0, hv0]
 clear hu0 hv0 hv h1 h2
 obtain ⟨w0, hw0⟩ : ∃ w0, (w.alloc (.cells (acc a ua va) 79)).alloc (.cells #[.int .u64 0, .int .u64 0, .int .u64 0, .int .u64 0, .int .u64 0, .int .u64 0, .slice none 0 0, .slice none 0 0] 79) = w0 := ⟨_, rfl⟩
 have HB0 : Hid (Ab w0 w.heap.size a ua va) := Lib.hid (by rw [← hw0]; exact Cs.alloc (Cs.new _ _ _ _ rfl) _)
 have HR0 : Hid (Cs w0 (w.heap.size + 1) 79 az0) := Lib.hid (by rw [← hw0]; exact Cs.new _ _ _ _ (by simp))
 have HE0 : Hid (Ext w w0) := Lib.hid (by rw [← hw0]; exact ((Ext.refl w).alloc _).alloc _)
 obtain ⟨ac0, hac0⟩ : ∃ c, acc a ua va = c := ⟨_, rfl⟩
 rw [hac0] at hw0 ⊢
 have HW0 := Lib.hid hw0
 clear hw0 hac0
 go_enter Tryz.func148, Tryz.ntmps148
 go_upto_region 1 with fail
 rw [HW0.out]
 clear HW0
 obtain ⟨lo, hlo⟩ : ∃ n, n = w0.heap.size := ⟨_, rfl⟩
 have HLO := Lib.hid hlo
 obtain ⟨g2, hg2⟩ : ∃ g, w.heap.size + 1 = g := ⟨_, rfl⟩
 obtain ⟨g1, hg1⟩ : ∃ g, w.heap.size = g := ⟨_, rfl⟩
 have HG1 : Hid (w.heap.size ≤ g1 ∧ g1 < lo) := Lib.hid (by have := HR0.out.lt; omega)
 have HG2 : Hid (w.heap.size ≤ g2 ∧ g2 < lo ∧ g2 ≠ g1) := Lib.hid (by have := HR0.out.lt; omega)
 rw [hg2] at HR0 ⊢
 rw [hg1] at HB0 ⊢
 clear hlo hg1 hg2
 have HJ : Hid (AcN w0 g1 g2 a ua va w0) := Lib.hid ⟨HB0.out, Ext.refl _, HR0.out⟩
 refine wp_named fun a0 ha0 => ?_
 obtain ⟨fr, hfr⟩ : ∃ fr : (Nat → Value) → Act, ∀ V, fr V = ((((((((a0.put (some 3) (V 0)).put (some 4) (V 1)).put (some 5) (V 2)).put (some 6) (V 3)).put (some 7) (V 4)).put (some 8) (V 5)).put (some 9) (V 6)).put (some 10) (V 8)) := ⟨_, fun _ => rfl⟩
 rw [ha0] at hfr
 simp only [Act.put, List.setIfInBounds_toArray, List.set_cons_zero, List.set_cons_succ] at hfr
 have HFR := Lib.hid hfr
 clear hfr
 refine wp_region_inv (by kernel_rfl) (by kernel_rfl) (fun L A W => ∃ V : Nat → Value, A = fr V ∧ Vals (fun j => ([some (.pointer (some ⟨g1, 6, none⟩)), some (ua), none, some (.pointer (some ⟨g1, 7, none⟩)), some (va), none, some (.pointer (some ⟨g1, 6, none⟩)), none, some (.pointer (some ⟨g1, 7, none⟩)), none] : List (Option Value)).getD j none) L V ∧ (L 7 = false → AcN w0 g1 g2 a ua va W) ∧ (L 7 = true → L 9 = false → AcM w g1 g2 lo a (V 2) va (V 2) (V 5) W) ∧ (L 9 = true → AcM w g1 g2 lo a (V 2) (V 5) (V 2) (V 5) W) ∧ (L 7 = false → L 2 = true → JbS lo W (V 2) a.code) ∧ (L 5 = true → JkS lo W (V 5) a.store)) ?_ ⟨?_, ?_, ?_, ?_, ?_, ?_, ?_, ?_, ?_, ?_, trivial⟩ ?_
 ·refine ⟨fun j => a0.tmps.getD (([3, 4, 5, 6, 7, 8, 9, 0, 10, 0] : List Nat).getD j 0) undef, ?_, Vals.no _ _ _ (far_none _ _ rfl), fun _ => HJ.out.ext (Ext.refl _).drew, fun h0 h1 => absurd h0 (by decide), fun h0 => absurd h0 (by decide), fun h0 h1 => absurd h1 (by decide), fun h0 => absurd h0 (by decide)⟩
  rw [HFR.out, ha0]
  rfl
 all_goals clear ha0
 ·rintro L A W K hL hC hW ⟨V, rfl, HV, s0, s1, s2, f2, f5⟩ hK
  have H := Lib.hid (show ∀ W', Ext W W' → K (fr (upd V 0 (.pointer (some ⟨g1, 6, none⟩)))) W' from fun W' he => hK _ _ ⟨_, rfl, HV.us 0 _ rfl, fun h0 => AcN.ext (s0 (mnf h0 rfl)) he, fun h0 h1 => AcM.ext (s1 (more_ne h0 rfl) (mnf h1 rfl)) he, fun h0 => AcM.ext (s2 (more_ne h0 rfl)) he, fun h0 h1 => JbS.ext (f2 (mnf h0 rfl) (more_ne h1 rfl)) he, fun h0 => JkS.ext (f5 (more_ne h0 rfl)) he⟩)
  clear hK hC hW hL HV s0 s1 s2 f2 f5
  rw [HFR.out]
  go_wp2_with fail
  show K _ _; have := H.out _ (Ext.refl _); rw [HFR.out] at this
  exact this
 ·rintro L A W K hL hC hW ⟨V, rfl, HV, s0, s1, s2, f2, f5⟩ hK
  have e0 := HV 0 _ rfl (hW 0 rfl)
  have hB := s0 (hC.no hL 7 _ rfl rfl)
  have H := Lib.hid (show ∀ W', Ext W W' → K (fr (upd V 1 (ua))) W' from fun W' he => hK _ _ ⟨_, rfl, HV.us 1 _ rfl, fun h0 => AcN.ext (s0 (mnf h0 rfl)) he, fun h0 h1 => AcM.ext (s1 (more_ne h0 rfl) (mnf h1 rfl)) he, fun h0 => AcM.ext (s2 (more_ne h0 rfl)) he, fun h0 h1 => JbS.ext (f2 (mnf h0 rfl) (more_ne h1 rfl)) he, fun h0 => JkS.ext (f5 (more_ne h0 rfl)) he⟩)
  have HU := Lib.hid (show (upd V 1 (ua)) 0 = .pointer (some ⟨g1, 6, none⟩) from e0)
  clear hK hC hW hL HV s0 s1 s2 f2 f5
  rw [HFR.out, e0]
  clear e0
  have qq := Ab.code hB.1
  clear hB
  go_wp2_with fail
  show K _ _; have := H.out _ (Ext.refl _); rw [HFR.out] at this
  obtain u0 := HU.out
  rw [u0] at this
  exact this
 ·rintro L A W K hL hC hW ⟨V, rfl, HV, s0, s1, s2, f2, f5⟩ hK
  have e1 := HV 1 _ rfl (hW 1 rfl)
  have hB := s0 (hC.no hL 7 _ rfl rfl)
  have H := Lib.hid (show ∀ v W', Ext W W' → (JbS lo W' v a.code) → K (fr (upd V 2 v)) W' from fun v W' he hp => hK _ _ ⟨_, rfl, HV.un 2 _ rfl, fun h0 => AcN.ext (s0 (mnf h0 rfl)) he, fun h0 h1 => mtf (hC.no hL 7 _ rfl rfl) (more_ne h0 rfl), fun h0 => mtf (hC.no (hC.no hL 7 _ rfl rfl) 9 _ rfl rfl) (more_ne h0 rfl), fun h0 h1 => hp, fun h0 => JkS.ext (f5 (more_ne h0 rfl)) he⟩)
  have HU := Lib.hid (show ∀ v, (upd V 2 v) 1 = ua from fun v => e1)
  clear hK hC hW hL HV s0 s1 s2 f2 f5
  rw [HFR.out, e1]
  clear e1
  have HBE := Lib.hid hB.2.1
  clear hB
  go_wp2_with fail
  refine (jownB_any ua a.code _ (HBU.out.ext (HE0.out.trans HBE.out)) HL1.out).mono ?_
  rintro e wx ⟨vx, rfl, ho, he⟩
  have := H.out _ _ he (own_shp (ho.mono (Nat.le_trans (Nat.le_of_eq HLO.out) HBE.out.size)))
  clear H
  go_wp2_with fail
  show K _ _
  rw [HFR.out] at this
  obtain u1 := HU.out _
  rw [u1] at this
  exact this
 ·rintro L A W K hL hC hW ⟨V, rfl, HV, s0, s1, s2, f2, f5⟩ hK
  have H := Lib.hid (show ∀ W', Ext W W' → K (fr (upd V 3 (.pointer (some ⟨g1, 7, none⟩)))) W' from fun W' he => hK _ _ ⟨_, rfl, HV.us 3 _ rfl, fun h0 => AcN.ext (s0 (mnf h0 rfl)) he, fun h0 h1 => AcM.ext (s1 (more_ne h0 rfl) (mnf h1 rfl)) he, fun h0 => AcM.ext (s2 (more_ne h0 rfl)) he, fun h0 h1 => JbS.ext (f2 (mnf h0 rfl) (more_ne h1 rfl)) he, fun h0 => JkS.ext (f5 (more_ne h0 rfl)) he⟩)
  clear hK hC hW hL HV s0 s1 s2 f2 f5
  rw [HFR.out]
  go_wp2_with fail
  show K _ _; have := H.out _ (Ext.refl _); rw [HFR.out] at this
  exact this
 ·rintro L A W K hL hC hW ⟨V, rfl, HV, s0, s1, s2, f2, f5⟩ hK
  have e3 := HV 3 _ rfl (hW 3 rfl)
  have hB := s0 (hC.no hL 7 _ rfl rfl)
  have H := Lib.hid (show ∀ W', Ext W W' → K (fr (upd V 4 (va))) W' from fun W' he => hK _ _ ⟨_, rfl, HV.us 4 _ rfl, fun h0 => AcN.ext (s0 (mnf h0 rfl)) he, fun h0 h1 => AcM.ext (s1 (more_ne h0 rfl) (mnf h1 rfl)) he, fun h0 => AcM.ext (s2 (more_ne h0 rfl)) he, fun h0 h1 => JbS.ext (f2 (mnf h0 rfl) (more_ne h1 rfl)) he, fun h0 => JkS.ext (f5 (more_ne h0 rfl)) he⟩)
  have HU := Lib.hid (show (upd V 4 (va)) 3 = .pointer (some ⟨g1, 7, none⟩) from e3)
  clear hK hC hW hL HV s0 s1 s2 f2 f5
  rw [HFR.out, e3]
  clear e3
  have qq := Ab.store hB.1
  clear hB
  go_wp2_with fail
  show K _ _; have := H.out _ (Ext.refl _); rw [HFR.out] at this
  obtain u3 := HU.out
  rw [u3] at this
  exact this
 ·rintro L A W K hL hC hW ⟨V, rfl, HV, s0, s1, s2, f2, f5⟩ hK
  have e4 := HV 4 _ rfl (hW 4 rfl)
  have hB := s0 (hC.no hL 7 _ rfl rfl)
  have H := Lib.hid (show ∀ v W', Ext W W' → (JkS lo W' v a.store) → K (fr (upd V 5 v)) W' from fun v W' he hp => hK _ _ ⟨_, rfl, HV.un 5 _ rfl, fun h0 => AcN.ext (s0 (mnf h0 rfl)) he, fun h0 h1 => mtf (hC.no hL 7 _ rfl rfl) (more_ne h0 rfl), fun h0 => mtf (hC.no hL 9 _ rfl rfl) (more_ne h0 rfl), fun h0 h1 => JbS.ext (f2 (mnf h0 rfl) (more_ne h1 rfl)) he, fun h0 => hp⟩)
  have HU := Lib.hid (show ∀ v, (upd V 5 v) 4 = va from fun v => e4)
  clear hK hC hW hL HV s0 s1 s2 f2 f5
  rw [HFR.out, e4]
  clear e4
  have HBE := Lib.hid hB.2.1
  clear hB
  go_wp2_with fail
  refine (jownPk_any va a.store _ (HBV.out.ext (HE0.out.trans HBE.out)) HL2.out).mono ?_
  rintro e wx ⟨vx, rfl, ho, he⟩
  have := H.out _ _ he (ownK_shp (ho.mono (Nat.le_trans (Nat.le_of_eq HLO.out) HBE.out.size)))
  clear H
  go_wp2_with fail
  show K _ _
  rw [HFR.out] at this
  obtain u4 := HU.out _
  rw [u4] at this
  exact this
 ·rintro L A W K hL hC hW ⟨V, rfl, HV, s0, s1, s2, f2, f5⟩ hK
  have H := Lib.hid (show ∀ W', Ext W W' → K (fr (upd V 6 (.pointer (some ⟨g1, 6, none⟩)))) W' from fun W' he => hK _ _ ⟨_, rfl, HV.us 6 _ rfl, fun h0 => AcN.ext (s0 (mnf h0 rfl)) he, fun h0 h1 => AcM.ext (s1 (more_ne h0 rfl) (mnf h1 rfl)) he, fun h0 => AcM.ext (s2 (more_ne h0 rfl)) he, fun h0 h1 => JbS.ext (f2 (mnf h0 rfl) (more_ne h1 rfl)) he, fun h0 => JkS.ext (f5 (more_ne h0 rfl)) he⟩)
  clear hK hC hW hL HV s0 s1 s2 f2 f5
  rw [HFR.out]
  go_wp2_with fail
  show K _ _; have := H.out _ (Ext.refl _); rw [HFR.out] at this
  exact this
 ·rintro L A W K hL hC hW ⟨V, rfl, HV, s0, s1, s2, f2, f5⟩ hK
  have e6 := HV 6 _ rfl (hW 6 rfl)
  have e1 := HV 1 _ rfl (hW 1 rfl)
  have e4 := HV 4 _ rfl (hW 4 rfl)
  have hB := s0 hL
  have q2 := f2 hL (hW 2 rfl)
  obtain ⟨A2, c2, e2, z2⟩ := q2
  have q5 := f5 (hW 5 rfl)
  obtain ⟨B5, d5, e5, z5⟩ := q5
  have H := Lib.hid (show ∀ W', (AcM w g1 g2 lo a (V 2) va (V 2) (V 5) W') → K (fr (V)) W' from fun W' hA => hK _ _ ⟨V, rfl, HV.st 7 rfl, fun h0 => msf h0, fun h0 h1 => hA, fun h0 => mtf (hC.no hL 9 _ rfl rfl) (more_ne h0 rfl), fun h0 h1 => msf h0, fun h0 => hA.2.2.1⟩)
  have HU := Lib.hid (show (V) 6 = .pointer (some ⟨g1, 6, none⟩) ∧ (V) 2 = .slice A2 a.code.length c2 ∧ (V) 1 = ua ∧ (V) 4 = va ∧ (V) 5 = .slice B5 a.store.length d5 from ⟨e6, e2, e1, e4, e5⟩)
  clear hK hC hW hL HV s0 s1 s2 f2 f5
  rw [HFR.out, e6, e2, e1, e4, e5]
  clear e6 e2 e1 e4 e5
  have HB := Lib.hid hB
  have HZ5 := Lib.hid z2
  have HZ8 := Lib.hid z5
  clear hB z2 z5
  refine wpList_store_one rfl rfl 76 (.tmp 9) (.tmp 5) rfl g1 6 79 (acc a ua va) (.slice A2 a.code.length c2) rfl rfl rfl HB.out.1 infoLB (of_decide_eq_true rfl) rfl ?_
  intro w' kk gg
  have HA := Lib.hid (show AcM w g1 g2 lo a (V 2) va (V 2) (V 5) w' from by rw [HU.out.2.1, HU.out.2.2.2.2]; exact AcM.put (cu := ua) (cv := va) ⟨HB.out.1, ⟨_, _, rfl, HZ5.out⟩, ⟨_, _, rfl, HZ8.out⟩, HE0.out.trans HB.out.2.1, HB.out.2.2⟩ kk gg HG1.out.2 HG1.out.1 HG2.out.2.2)
  clear kk gg
  show K _ _; have := H.out _ HA.out; rw [HFR.out] at this
  obtain ⟨u6, u2, u1, u4, u5⟩ := HU.out
  rw [u6, u2, u1, u4, u5] at this
  exact this
 ·rintro L A W K hL hC hW ⟨V, rfl, HV, s0, s1, s2, f2, f5⟩ hK
  have H := Lib.hid (show ∀ W', Ext W W' → K (fr (upd V 8 (.pointer (some ⟨g1, 7, none⟩)))) W' from fun W' he => hK _ _ ⟨_, rfl, HV.us 8 _ rfl, fun h0 => AcN.ext (s0 (mnf h0 rfl)) he, fun h0 h1 => AcM.ext (s1 (more_ne h0 rfl) (mnf h1 rfl)) he, fun h0 => AcM.ext (s2 (more_ne h0 rfl)) he, fun h0 h1 => JbS.ext (f2 (mnf h0 rfl) (more_ne h1 rfl)) he, fun h0 => JkS.ext (f5 (more_ne h0 rfl)) he⟩)
  clear hK hC hW hL HV s0 s1 s2 f2 f5
  rw [HFR.out]
  go_wp2_with fail
  show K _ _; have := H.out _ (Ext.refl _); rw [HFR.out] at this
  exact this
 ·rintro L A W K hL hC hW ⟨V, rfl, HV, s0, s1, s2, f2, f5⟩ hK
  have e8 := HV 8 _ rfl (hW 8 rfl)
  have hB := s1 (hW 7 rfl) hL
  have q5 := f5 (hW 5 rfl)
  obtain ⟨B5, d5, e5, z5⟩ := q5
  have H := Lib.hid (show ∀ W', (AcM w g1 g2 lo a (V 2) (V 5) (V 2) (V 5) W') → K (fr (V)) W' from fun W' hA => hK _ _ ⟨V, rfl, HV.st 9 rfl, fun h0 => mtf (mnf h0 rfl) (hW 7 rfl), fun h0 h1 => msf h1, fun h0 => hA, fun h0 h1 => mtf (mnf h0 rfl) (hW 7 rfl), fun h0 => hA.2.2.1⟩)
  have HU := Lib.hid (show (V) 8 = .pointer (some ⟨g1, 7, none⟩) ∧ (V) 5 = .slice B5 a.store.length d5 from ⟨e8, e5⟩)
  clear hK hC hW hL HV s0 s1 s2 f2 f5
  rw [HFR.out, e8, e5]
  clear e8 e5
  have HB := Lib.hid (hB)
  clear hB z5
  refine wpList_store_one rfl rfl 77 (.tmp 10) (.tmp 8) rfl g1 7 79 (acc a (V 2) va) (.slice B5 a.store.length d5) rfl rfl rfl HB.out.1 infoLP2 (of_decide_eq_true rfl) rfl ?_
  intro w' kk gg
  have HA := Lib.hid (show AcM w g1 g2 lo a (V 2) (V 5) (V 2) (V 5) w' from HB.out.put (by rw [HU.out.2]; exact kk) gg HG1.out.2 HG1.out.1 HG2.out.2.2)
  clear kk gg
  show K _ _; have := H.out _ HA.out; rw [HFR.out] at this
  obtain ⟨u8, u5⟩ := HU.out
  rw [u8, u5] at this
  exact this
 ·rintro L A W hL ⟨V, rfl, HV, s0, s1, s2, f2, f5⟩
  have e0 := HV 0 _ rfl (hL 0 (by simp))
  have e1 := HV 1 _ rfl (hL 1 (by simp))
  have e3 := HV 3 _ rfl (hL 3 (by simp))
  have e4 := HV 4 _ rfl (hL 4 (by simp))
  have e6 := HV 6 _ rfl (hL 6 (by simp))
  have e8 := HV 8 _ rfl (hL 8 (by simp))
  have hA := s2 (hL 9 (by simp))
  have p8 := f5 (hL 5 (by simp))
  rw [HFR.out, e0, e1, e3, e4, e6, e8]
  clear hL HV HFR e0 e1 e3 e4 e6 e8 s0 s1 s2 f2 f5
  have HA := Lib.hid hA
  clear hA
  obtain ⟨B5, b5, e5, z5⟩ := HA.out.2.1
  obtain ⟨B8, b8, e8, z8⟩ := HA.out.2.2.1
  have HZ := Lib.hid (And.intro z5 z8)
  have HAX : Hid (AcM w g1 g2 lo a (.slice B5 a.code.length b5) (.slice B8 a.store.length b8) (V 2) (V 5) W) := Lib.hid (by have := HA.out; rw [e5, e8] at this; rw [e5, e8]; exact this)
  rw [e5, e8]
  have HAR := Lib.hid (Ab.range HAX.out.1)
  have HRW := Lib.hid HAX.out.2.2.2.2
  have HEW := Lib.hid HAX.out.2.2.2.1
  clear HA HAX e5 e8 z5 z8 p8
  go_wp2_with (first
   | ((with_reducible refine wpList_load_ac ?_ (.tmp 1) ?_ g1 0 a (.slice B5 a.code.length b5) (.slice B8 a.store.length b8) ?_ ?_ ?_); (exact rfl); (exact rfl); (exact rfl); (exact HAR.out))
   | ((with_reducible refine wpList_store_ac ?_ ?_ (.tmp 2) (.tmp 11) ?_ g2 az0 a (.slice B5 a.code.length b5) (.slice B8 a.store.length b8) ?_ ?_ ?_ ?_ ?_ ?_ ?_); (exact rfl); (exact rfl); (exact rfl); (exact rfl); (exact rfl); (exact rfl); (exact rfl); (exact HRW.out); (exact rfl); intro w5 k5 g5; have K5 := Lib.hid k5; have G5 := Lib.hid g5; clear k5 g5))
  have HWL := Lib.hid (show w.heap.size ≤ lo by rw [HLO.out]; exact HE0.out.size)
  refine bodyPost_ret (results_ac Tryz.results148 _ _ g2 a (.slice B5 a.code.length b5) (.slice B8 a.store.length b8) rfl K5.out) rfl ?_
  exact ⟨_, _, rfl, ⟨_, _, rfl, Own.mono (own_low HZ.out.1 G5.out HG2.out.2.1) HWL.out⟩, ⟨_, _, rfl, OwnK.mono ⟨own_low HZ.out.2.1 G5.out HG2.out.2.1, HZ.out.2.2⟩ HWL.out⟩, HEW.out.grown G5.out HG2.out.1⟩
end Go.Proofs.YtnjpdchmdimaaaaGreat
