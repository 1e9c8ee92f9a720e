/- Package journal: each, over accounts. -/
import Derived.Test.YtnjpdchmdimaaaaGreatQJnd
import Derived.Test.YtnjpdchmdimaaaaGreatQAch
namespace Go.Proofs.YtnjpdchmdimaaaaGreat
open Go.ChangeShapes Go.WideShapes Go.ChangeAt Go.RowKit Go.Shelf

theorem own_low {W W' : World} {lo g s n : Nat} {e : TypeId} {v : Value} {xs : List Value} (h : W.ownsRow lo e s v n xs) (hg : W.grownBy W' (some g)) (hl : g < lo) : W'.ownsRow lo e s v n xs := by
 obtain ⟨h1, h2⟩ := h
 refine ⟨h1, ?_⟩
 rcases h2 with h2 | ⟨b, cap, cur, e, q1, q2, q3⟩
 ·exact .inl h2
 ·exact .inr ⟨b, cap, cur, e, q1, by rw [hg.block b (Array.getElem?_eq_some_iff.1 q2).1 (fun e => by injection e with e; omega)]; exact q2, q3⟩
def JbS (lo : Nat) (W : World) (v : Value) (l : List UInt8) : Prop := ∃ A c, v = .slice A l.length c ∧ Own W lo 5 (.slice A l.length c) l
theorem JbS.ext {lo : Nat} {W W' : World} {v : Value} {l : List UInt8} (h : JbS lo W v l) (he : Ext W W') : JbS lo W' v l := by obtain ⟨A, c, e, h⟩ := h; exact ⟨A, c, e, h.ext he⟩
def JkS (lo : Nat) (W : World) (v : Value) (l : List (Nat × Nat)) : Prop := ∃ A c, v = .slice A l.length c ∧ OwnK W lo (.slice A l.length c) l
theorem JkS.ext {lo : Nat} {W W' : World} {v : Value} {l : List (Nat × Nat)} (h : JkS lo W v l) (he : Ext W W') : JkS lo W' v l := by obtain ⟨A, c, e, h⟩ := h; exact ⟨A, c, e, h.ext he⟩
theorem own_shp {W : World} {lo : Nat} {v : Value} {l : List UInt8} (h : Own W lo 5 v l) : JbS lo W v l := by
 obtain ⟨A, c, rfl, _⟩ := Own.bs h
 exact ⟨A, c, rfl, h⟩
theorem ownK_shp {W : World} {lo : Nat} {v : Value} {l : List (Nat × Nat)} (h : OwnK W lo v l) : JkS lo W v l := by
 obtain ⟨A, c, rfl, _⟩ := h.pks.len
 exact ⟨A, c, rfl, h⟩
def AcN (w0 : World) (g1 g2 : Nat) (a : Ac) (u v : Value) (W : World) : Prop := Ab W g1 a u v ∧ Ext w0 W ∧ Cs W g2 79 az0
theorem AcN.ext {w0 : World} {g1 g2 : Nat} {a : Ac} {u v : Value} {W W' : World} (h : AcN w0 g1 g2 a u v W) (he : Ext W W') : AcN w0 g1 g2 a u v W' := ⟨h.1.ext he, h.2.1.trans he, Cs.ext h.2.2 he⟩
def AcM (w : World) (g1 g2 lo : Nat) (a : Ac) (cu cv u v : Value) (W : World) : Prop := Ab W g1 a cu cv ∧ JbS lo W u a.code ∧ JkS lo W v a.store ∧ Ext w W ∧ Cs W g2 79 az0
theorem AcM.ext {w : World} {g1 g2 lo : Nat} {a : Ac} {cu cv u v : Value} {W W' : World} (h : AcM w g1 g2 lo a cu cv u v W) (he : Ext W W') : AcM w g1 g2 lo a cu cv u v W' := ⟨h.1.ext he, h.2.1.ext he, h.2.2.1.ext he, h.2.2.2.1.trans he, Cs.ext h.2.2.2.2 he⟩
theorem AcM.put {w : World} {g1 g2 lo : Nat} {a : Ac} {cu cv cu' cv' u v : Value} {W W' : World} (h : AcM w g1 g2 lo a cu cv u v W) (hk : Ab W' g1 a cu' cv') (hg : W.grownBy W' (some g1)) (hl : g1 < lo) (hw : w.heap.size ≤ g1) (hn : g2 ≠ g1) : AcM w g1 g2 lo a cu' cv' u v W' := by
 obtain ⟨_, ⟨A, c, e1, h1⟩, ⟨B, d, e2, h2⟩, h3, h4⟩ := h
 exact ⟨hk, ⟨A, c, e1, own_low h1 hg hl⟩, ⟨B, d, e2, own_low h2.1 hg hl, h2.2⟩, h3.grown hg hw, Cs.kept h4 hg (fun e => hn (Option.some.inj e))⟩
set_option maxRecDepth 100000 in
theorem infoLB : (Tryz.prog.info? 76).map (·.size) = some 1 := by kernel_rfl
set_option maxRecDepth 100000 in
theorem infoLP2 : (Tryz.prog.info? 77).map (·.size) = some 1 := by kernel_rfl
set_option maxRecDepth 100000 in
set_option maxHeartbeats 8000000 in
theorem ownAc1_any (a : Ac) (ua va : Value) (w : World) (hu : Bs w ua a.code) (hv : Pks w va a.store) (h1 : a.code.length ≤ 1000000000) (h2 : a.store.length ≤ 1000000000) :
  Calls Tryz.prog 148 #[.agg (acc a ua va)] w fun e w' => ∃ u' v', e = .returned (.agg (acc a u' v')) ∧ JbS w.heap.size w' u' a.code ∧ JkS w.heap.size w' v' a.store ∧ Ext w w' := by
 have HBU := Lib.hid hu
 have HBV := Lib.hid hv
 have HL1 := Lib.hid h1
 have HL2 := Lib.hid h2
 obtain ⟨A1, c1, rfl, _⟩ := hu
 obtain ⟨A2, c2, rfl, _⟩ := hv.len
 obtain ⟨ua, hu0⟩ : ∃ u, Value.slice A1 a.code.length c1 = u := ⟨_, rfl⟩
 obtain ⟨va, hv0⟩ : ∃ u, Value.slice A2 a.store.length c2 = u := ⟨_, rfl⟩
 rw [hu0] at HBU
 rw [hv0] at HBV
 rw [hu0, hv0]
 clear hu0 hv0 hv h1 h2
 obtain ⟨w0, hw0⟩ : ∃ w0, (w.alloc (.cells (acc a ua va) 79)).alloc (.cells #[.int .u64 0, .int .u64 0, .int .u64 0, .int .u64 0, .int .u64 0, .int .u64 0, .slice none 0 0, .slice none 0 0] 79) = w0 := ⟨_, rfl⟩
 have HB0 : Hid (Ab w0 w.heap.size a ua va) := Lib.hid (by rw [← hw0]; exact Cs.alloc (Cs.new _ _ _ _ rfl) _)
 have HR0 : Hid (Cs w0 (w.heap.size + 1) 79 az0) := Lib.hid (by rw [← hw0]; exact Cs.new _ _ _ _ (by simp))
 have HE0 : Hid (Ext w w0) := Lib.hid (by rw [← hw0]; exact ((Ext.refl w).alloc _).alloc _)
 obtain ⟨ac0, hac0⟩ : ∃ c, acc a ua va = c := ⟨_, rfl⟩
 rw [hac0] at hw0 ⊢
 have HW0 := Lib.hid hw0
 clear hw0 hac0
 go_enter Tryz.func148, Tryz.ntmps148
 go_upto_region 1 with fail
 rw [HW0.out]
 clear HW0
 obtain ⟨lo, hlo⟩ : ∃ n, n = w0.heap.size := ⟨_, rfl⟩
 have HLO := Lib.hid hlo
 obtain ⟨g2, hg2⟩ : ∃ g, w.heap.size + 1 = g := ⟨_, rfl⟩
 obtain ⟨g1, hg1⟩ : ∃ g, w.heap.size = g := ⟨_, rfl⟩
 have HG1 : Hid (w.heap.size ≤ g1 ∧ g1 < lo) := Lib.hid (by have := HR0.out.lt; omega)
 have HG2 : Hid (w.heap.size ≤ g2 ∧ g2 < lo ∧ g2 ≠ g1) := Lib.hid (by have := HR0.out.lt; omega)
 rw [hg2] at HR0 ⊢
 rw [hg1] at HB0 ⊢
 clear hlo hg1 hg2
 have HJ : Hid (AcN w0 g1 g2 a ua va w0) := Lib.hid ⟨HB0.out, Ext.refl _, HR0.out⟩
 refine wp_named fun a0 ha0 => ?_
 obtain ⟨fr, hfr⟩ : ∃ fr : (Nat → Value) → Act, ∀ V, fr V = ((((((((a0.put (some 3) (V 0)).put (some 4) (V 1)).put (some 5) (V 2)).put (some 6) (V 3)).put (some 7) (V 4)).put (some 8) (V 5)).put (some 9) (V 6)).put (some 10) (V 8)) := ⟨_, fun _ => rfl⟩
 rw [ha0] at hfr
 simp only [Act.put, List.setIfInBounds_toArray, List.set_cons_zero, List.set_cons_succ] at hfr
 have HFR := Lib.hid hfr
 clear hfr
 refine wp_region_inv (by kernel_rfl) (by kernel_rfl) (fun L A W => ∃ V : Nat → Value, A = fr V ∧ Vals (fun j => ([some (.pointer (some ⟨g1, 6, none⟩)), some (ua), none, some (.pointer (some ⟨g1, 7, none⟩)), some (va), none, some (.pointer (some ⟨g1, 6, none⟩)), none, some (.pointer (some ⟨g1, 7, none⟩)), none] : List (Option Value)).getD j none) L V ∧ (L 7 = false → AcN w0 g1 g2 a ua va W) ∧ (L 7 = true → L 9 = false → AcM w g1 g2 lo a (V 2) va (V 2) (V 5) W) ∧ (L 9 = true → AcM w g1 g2 lo a (V 2) (V 5) (V 2) (V 5) W) ∧ (L 7 = false → L 2 = true → JbS lo W (V 2) a.code) ∧ (L 5 = true → JkS lo W (V 5) a.store)) ?_ ⟨?_, ?_, ?_, ?_, ?_, ?_, ?_, ?_, ?_, ?_, trivial⟩ ?_
 ·refine ⟨fun j => a0.tmps.getD (([3, 4, 5, 6, 7, 8, 9, 0, 10, 0] : List Nat).getD j 0) undef, ?_, Vals.no _ _ _ (far_none _ _ rfl), fun _ => HJ.out.ext (Ext.refl _).drew, fun h0 h1 => absurd h0 (by decide), fun h0 => absurd h0 (by decide), fun h0 h1 => absurd h1 (by decide), fun h0 => absurd h0 (by decide)⟩
  rw [HFR.out, ha0]
  rfl
 all_goals clear ha0
 ·rintro L A W K hL hC hW ⟨V, rfl, HV, s0, s1, s2, f2, f5⟩ hK
  have H := Lib.hid (show ∀ W', Ext W W' → K (fr (upd V 0 (.pointer (some ⟨g1, 6, none⟩)))) W' from fun W' he => hK _ _ ⟨_, rfl, HV.us 0 _ rfl, fun h0 => AcN.ext (s0 (mnf h0 rfl)) he, fun h0 h1 => AcM.ext (s1 (more_ne h0 rfl) (mnf h1 rfl)) he, fun h0 => AcM.ext (s2 (more_ne h0 rfl)) he, fun h0 h1 => JbS.ext (f2 (mnf h0 rfl) (more_ne h1 rfl)) he, fun h0 => JkS.ext (f5 (more_ne h0 rfl)) he⟩)
  clear hK hC hW hL HV s0 s1 s2 f2 f5
  rw [HFR.out]
  go_wp2_with fail
  show K _ _; have := H.out _ (Ext.refl _); rw [HFR.out] at this
  exact this
 ·rintro L A W K hL hC hW ⟨V, rfl, HV, s0, s1, s2, f2, f5⟩ hK
  have e0 := HV 0 _ rfl (hW 0 rfl)
  have hB := s0 (hC.no hL 7 _ rfl rfl)
  have H := Lib.hid (show ∀ W', Ext W W' → K (fr (upd V 1 (ua))) W' from fun W' he => hK _ _ ⟨_, rfl, HV.us 1 _ rfl, fun h0 => AcN.ext (s0 (mnf h0 rfl)) he, fun h0 h1 => AcM.ext (s1 (more_ne h0 rfl) (mnf h1 rfl)) he, fun h0 => AcM.ext (s2 (more_ne h0 rfl)) he, fun h0 h1 => JbS.ext (f2 (mnf h0 rfl) (more_ne h1 rfl)) he, fun h0 => JkS.ext (f5 (more_ne h0 rfl)) he⟩)
  have HU := Lib.hid (show (upd V 1 (ua)) 0 = .pointer (some ⟨g1, 6, none⟩) from e0)
  clear hK hC hW hL HV s0 s1 s2 f2 f5
  rw [HFR.out, e0]
  clear e0
  have qq := Ab.code hB.1
  clear hB
  go_wp2_with fail
  show K _ _; have := H.out _ (Ext.refl _); rw [HFR.out] at this
  obtain u0 := HU.out
  rw [u0] at this
  exact this
 ·rintro L A W K hL hC hW ⟨V, rfl, HV, s0, s1, s2, f2, f5⟩ hK
  have e1 := HV 1 _ rfl (hW 1 rfl)
  have hB := s0 (hC.no hL 7 _ rfl rfl)
  have H := Lib.hid (show ∀ v W', Ext W W' → (JbS lo W' v a.code) → K (fr (upd V 2 v)) W' from fun v W' he hp => hK _ _ ⟨_, rfl, HV.un 2 _ rfl, fun h0 => AcN.ext (s0 (mnf h0 rfl)) he, fun h0 h1 => mtf (hC.no hL 7 _ rfl rfl) (more_ne h0 rfl), fun h0 => mtf (hC.no (hC.no hL 7 _ rfl rfl) 9 _ rfl rfl) (more_ne h0 rfl), fun h0 h1 => hp, fun h0 => JkS.ext (f5 (more_ne h0 rfl)) he⟩)
  have HU := Lib.hid (show ∀ v, (upd V 2 v) 1 = ua from fun v => e1)
  clear hK hC hW hL HV s0 s1 s2 f2 f5
  rw [HFR.out, e1]
  clear e1
  have HBE := Lib.hid hB.2.1
  clear hB
  go_wp2_with fail
  refine (jownB_any ua a.code _ (HBU.out.ext (HE0.out.trans HBE.out)) HL1.out).mono ?_
  rintro e wx ⟨vx, rfl, ho, he⟩
  have := H.out _ _ he (own_shp (ho.mono (Nat.le_trans (Nat.le_of_eq HLO.out) HBE.out.size)))
  clear H
  go_wp2_with fail
  show K _ _
  rw [HFR.out] at this
  obtain u1 := HU.out _
  rw [u1] at this
  exact this
 ·rintro L A W K hL hC hW ⟨V, rfl, HV, s0, s1, s2, f2, f5⟩ hK
  have H := Lib.hid (show ∀ W', Ext W W' → K (fr (upd V 3 (.pointer (some ⟨g1, 7, none⟩)))) W' from fun W' he => hK _ _ ⟨_, rfl, HV.us 3 _ rfl, fun h0 => AcN.ext (s0 (mnf h0 rfl)) he, fun h0 h1 => AcM.ext (s1 (more_ne h0 rfl) (mnf h1 rfl)) he, fun h0 => AcM.ext (s2 (more_ne h0 rfl)) he, fun h0 h1 => JbS.ext (f2 (mnf h0 rfl) (more_ne h1 rfl)) he, fun h0 => JkS.ext (f5 (more_ne h0 rfl)) he⟩)
  clear hK hC hW hL HV s0 s1 s2 f2 f5
  rw [HFR.out]
  go_wp2_with fail
  show K _ _; have := H.out _ (Ext.refl _); rw [HFR.out] at this
  exact this
 ·rintro L A W K hL hC hW ⟨V, rfl, HV, s0, s1, s2, f2, f5⟩ hK
  have e3 := HV 3 _ rfl (hW 3 rfl)
  have hB := s0 (hC.no hL 7 _ rfl rfl)
  have H := Lib.hid (show ∀ W', Ext W W' → K (fr (upd V 4 (va))) W' from fun W' he => hK _ _ ⟨_, rfl, HV.us 4 _ rfl, fun h0 => AcN.ext (s0 (mnf h0 rfl)) he, fun h0 h1 => AcM.ext (s1 (more_ne h0 rfl) (mnf h1 rfl)) he, fun h0 => AcM.ext (s2 (more_ne h0 rfl)) he, fun h0 h1 => JbS.ext (f2 (mnf h0 rfl) (more_ne h1 rfl)) he, fun h0 => JkS.ext (f5 (more_ne h0 rfl)) he⟩)
  have HU := Lib.hid (show (upd V 4 (va)) 3 = .pointer (some ⟨g1, 7, none⟩) from e3)
  clear hK hC hW hL HV s0 s1 s2 f2 f5
  rw [HFR.out, e3]
  clear e3
  have qq := Ab.store hB.1
  clear hB
  go_wp2_with fail
  show K _ _; have := H.out _ (Ext.refl _); rw [HFR.out] at this
  obtain u3 := HU.out
  rw [u3] at this
  exact this
 ·rintro L A W K hL hC hW ⟨V, rfl, HV, s0, s1, s2, f2, f5⟩ hK
  have e4 := HV 4 _ rfl (hW 4 rfl)
  have hB := s0 (hC.no hL 7 _ rfl rfl)
  have H := Lib.hid (show ∀ v W', Ext W W' → (JkS lo W' v a.store) → K (fr (upd V 5 v)) W' from fun v W' he hp => hK _ _ ⟨_, rfl, HV.un 5 _ rfl, fun h0 => AcN.ext (s0 (mnf h0 rfl)) he, fun h0 h1 => mtf (hC.no hL 7 _ rfl rfl) (more_ne h0 rfl), fun h0 => mtf (hC.no hL 9 _ rfl rfl) (more_ne h0 rfl), fun h0 h1 => JbS.ext (f2 (mnf h0 rfl) (more_ne h1 rfl)) he, fun h0 => hp⟩)
  have HU := Lib.hid (show ∀ v, (upd V 5 v) 4 = va from fun v => e4)
  clear hK hC hW hL HV s0 s1 s2 f2 f5
  rw [HFR.out, e4]
  clear e4
  have HBE := Lib.hid hB.2.1
  clear hB
  go_wp2_with fail
  refine (jownPk_any va a.store _ (HBV.out.ext (HE0.out.trans HBE.out)) HL2.out).mono ?_
  rintro e wx ⟨vx, rfl, ho, he⟩
  have := H.out _ _ he (ownK_shp (ho.mono (Nat.le_trans (Nat.le_of_eq HLO.out) HBE.out.size)))
  clear H
  go_wp2_with fail
  show K _ _
  rw [HFR.out] at this
  obtain u4 := HU.out _
  rw [u4] at this
  exact this
 ·rintro L A W K hL hC hW ⟨V, rfl, HV, s0, s1, s2, f2, f5⟩ hK
  have H := Lib.hid (show ∀ W', Ext W W' → K (fr (upd V 6 (.pointer (some ⟨g1, 6, none⟩)))) W' from fun W' he => hK _ _ ⟨_, rfl, HV.us 6 _ rfl, fun h0 => AcN.ext (s0 (mnf h0 rfl)) he, fun h0 h1 => AcM.ext (s1 (more_ne h0 rfl) (mnf h1 rfl)) he, fun h0 => AcM.ext (s2 (more_ne h0 rfl)) he, fun h0 h1 => JbS.ext (f2 (mnf h0 rfl) (more_ne h1 rfl)) he, fun h0 => JkS.ext (f5 (more_ne h0 rfl)) he⟩)
  clear hK hC hW hL HV s0 s1 s2 f2 f5
  rw [HFR.out]
  go_wp2_with fail
  show K _ _; have := H.out _ (Ext.refl _); rw [HFR.out] at this
  exact this
 ·rintro L A W K hL hC hW ⟨V, rfl, HV, s0, s1, s2, f2, f5⟩ hK
  have e6 := HV 6 _ rfl (hW 6 rfl)
  have e1 := HV 1 _ rfl (hW 1 rfl)
  have e4 := HV 4 _ rfl (hW 4 rfl)
  have hB := s0 hL
  have q2 := f2 hL (hW 2 rfl)
  obtain ⟨A2, c2, e2, z2⟩ := q2
  have q5 := f5 (hW 5 rfl)
  obtain ⟨B5, d5, e5, z5⟩ := q5
  have H := Lib.hid (show ∀ W', (AcM w g1 g2 lo a (V 2) va (V 2) (V 5) W') → K (fr (V)) W' from fun W' hA => hK _ _ ⟨V, rfl, HV.st 7 rfl, fun h0 => msf h0, fun h0 h1 => hA, fun h0 => mtf (hC.no hL 9 _ rfl rfl) (more_ne h0 rfl), fun h0 h1 => msf h0, fun h0 => hA.2.2.1⟩)
  have HU := Lib.hid (show (V) 6 = .pointer (some ⟨g1, 6, none⟩) ∧ (V) 2 = .slice A2 a.code.length c2 ∧ (V) 1 = ua ∧ (V) 4 = va ∧ (V) 5 = .slice B5 a.store.length d5 from ⟨e6, e2, e1, e4, e5⟩)
  clear hK hC hW hL HV s0 s1 s2 f2 f5
  rw [HFR.out, e6, e2, e1, e4, e5]
  clear e6 e2 e1 e4 e5
  have HB := Lib.hid hB
  have HZ5 := Lib.hid z2
  have HZ8 := Lib.hid z5
  clear hB z2 z5
  refine wpList_store_one rfl rfl 76 (.tmp 9) (.tmp 5) rfl g1 6 79 (acc a ua va) (.slice A2 a.code.length c2) rfl rfl rfl HB.out.1 infoLB (of_decide_eq_true rfl) rfl ?_
  intro w' kk gg
  have HA := Lib.hid (show AcM w g1 g2 lo a (V 2) va (V 2) (V 5) w' from by rw [HU.out.2.1, HU.out.2.2.2.2]; exact AcM.put (cu := ua) (cv := va) ⟨HB.out.1, ⟨_, _, rfl, HZ5.out⟩, ⟨_, _, rfl, HZ8.out⟩, HE0.out.trans HB.out.2.1, HB.out.2.2⟩ kk gg HG1.out.2 HG1.out.1 HG2.out.2.2)
  clear kk gg
  show K _ _; have := H.out _ HA.out; rw [HFR.out] at this
  obtain ⟨u6, u2, u1, u4, u5⟩ := HU.out
  rw [u6, u2, u1, u4, u5] at this
  exact this
 ·rintro L A W K hL hC hW ⟨V, rfl, HV, s0, s1, s2, f2, f5⟩ hK
  have H := Lib.hid (show ∀ W', Ext W W' → K (fr (upd V 8 (.pointer (some ⟨g1, 7, none⟩)))) W' from fun W' he => hK _ _ ⟨_, rfl, HV.us 8 _ rfl, fun h0 => AcN.ext (s0 (mnf h0 rfl)) he, fun h0 h1 => AcM.ext (s1 (more_ne h0 rfl) (mnf h1 rfl)) he, fun h0 => AcM.ext (s2 (more_ne h0 rfl)) he, fun h0 h1 => JbS.ext (f2 (mnf h0 rfl) (more_ne h1 rfl)) he, fun h0 => JkS.ext (f5 (more_ne h0 rfl)) he⟩)
  clear hK hC hW hL HV s0 s1 s2 f2 f5
  rw [HFR.out]
  go_wp2_with fail
  show K _ _; have := H.out _ (Ext.refl _); rw [HFR.out] at this
  exact this
 ·rintro L A W K hL hC hW ⟨V, rfl, HV, s0, s1, s2, f2, f5⟩ hK
  have e8 := HV 8 _ rfl (hW 8 rfl)
  have hB := s1 (hW 7 rfl) hL
  have q5 := f5 (hW 5 rfl)
  obtain ⟨B5, d5, e5, z5⟩ := q5
  have H := Lib.hid (show ∀ W', (AcM w g1 g2 lo a (V 2) (V 5) (V 2) (V 5) W') → K (fr (V)) W' from fun W' hA => hK _ _ ⟨V, rfl, HV.st 9 rfl, fun h0 => mtf (mnf h0 rfl) (hW 7 rfl), fun h0 h1 => msf h1, fun h0 => hA, fun h0 h1 => mtf (mnf h0 rfl) (hW 7 rfl), fun h0 => hA.2.2.1⟩)
  have HU := Lib.hid (show (V) 8 = .pointer (some ⟨g1, 7, none⟩) ∧ (V) 5 = .slice B5 a.store.length d5 from ⟨e8, e5⟩)
  clear hK hC hW hL HV s0 s1 s2 f2 f5
  rw [HFR.out, e8, e5]
  clear e8 e5
  have HB := Lib.hid (hB)
  clear hB z5
  refine wpList_store_one rfl rfl 77 (.tmp 10) (.tmp 8) rfl g1 7 79 (acc a (V 2) va) (.slice B5 a.store.length d5) rfl rfl rfl HB.out.1 infoLP2 (of_decide_eq_true rfl) rfl ?_
  intro w' kk gg
  have HA := Lib.hid (show AcM w g1 g2 lo a (V 2) (V 5) (V 2) (V 5) w' from HB.out.put (by rw [HU.out.2]; exact kk) gg HG1.out.2 HG1.out.1 HG2.out.2.2)
  clear kk gg
  show K _ _; have := H.out _ HA.out; rw [HFR.out] at this
  obtain ⟨u8, u5⟩ := HU.out
  rw [u8, u5] at this
  exact this
 ·rintro L A W hL ⟨V, rfl, HV, s0, s1, s2, f2, f5⟩
  have e0 := HV 0 _ rfl (hL 0 (by simp))
  have e1 := HV 1 _ rfl (hL 1 (by simp))
  have e3 := HV 3 _ rfl (hL 3 (by simp))
  have e4 := HV 4 _ rfl (hL 4 (by simp))
  have e6 := HV 6 _ rfl (hL 6 (by simp))
  have e8 := HV 8 _ rfl (hL 8 (by simp))
  have hA := s2 (hL 9 (by simp))
  have p8 := f5 (hL 5 (by simp))
  rw [HFR.out, e0, e1, e3, e4, e6, e8]
  clear hL HV HFR e0 e1 e3 e4 e6 e8 s0 s1 s2 f2 f5
  have HA := Lib.hid hA
  clear hA
  obtain ⟨B5, b5, e5, z5⟩ := HA.out.2.1
  obtain ⟨B8, b8, e8, z8⟩ := HA.out.2.2.1
  have HZ := Lib.hid (And.intro z5 z8)
  have HAX : Hid (AcM w g1 g2 lo a (.slice B5 a.code.length b5) (.slice B8 a.store.length b8) (V 2) (V 5) W) := Lib.hid (by have := HA.out; rw [e5, e8] at this; rw [e5, e8]; exact this)
  rw [e5, e8]
  have HAR := Lib.hid (Ab.range HAX.out.1)
  have HRW := Lib.hid HAX.out.2.2.2.2
  have HEW := Lib.hid HAX.out.2.2.2.1
  clear HA HAX e5 e8 z5 z8 p8
  go_wp2_with (first
   | ((with_reducible refine wpList_load_ac ?_ (.tmp 1) ?_ g1 0 a (.slice B5 a.code.length b5) (.slice B8 a.store.length b8) ?_ ?_ ?_); (exact rfl); (exact rfl); (exact rfl); (exact HAR.out))
   | ((with_reducible refine wpList_store_ac ?_ ?_ (.tmp 2) (.tmp 11) ?_ g2 az0 a (.slice B5 a.code.length b5) (.slice B8 a.store.length b8) ?_ ?_ ?_ ?_ ?_ ?_ ?_); (exact rfl); (exact rfl); (exact rfl); (exact rfl); (exact rfl); (exact rfl); (exact rfl); (exact HRW.out); (exact rfl); intro w5 k5 g5; have K5 := Lib.hid k5; have G5 := Lib.hid g5; clear k5 g5))
  have HWL := Lib.hid (show w.heap.size ≤ lo by rw [HLO.out]; exact HE0.out.size)
  refine bodyPost_ret (results_ac Tryz.results148 _ _ g2 a (.slice B5 a.code.length b5) (.slice B8 a.store.length b8) rfl K5.out) rfl ?_
  exact ⟨_, _, rfl, ⟨_, _, rfl, Own.mono (own_low HZ.out.1 G5.out HG2.out.2.1) HWL.out⟩, ⟨_, _, rfl, OwnK.mono ⟨own_low HZ.out.2.1 G5.out HG2.out.2.1, HZ.out.2.2⟩ HWL.out⟩, HEW.out.grown G5.out HG2.out.1⟩
end Go.Proofs.YtnjpdchmdimaaaaGreat
namespace Go.Proofs.YtnjpdchmdimaaaaGreat
open Go.ChangeShapes Go.WideShapes Go.ChangeAt Go.RowKit Go.Shelf

def EaJ {α : Type} (E : TypeId) (s : Nat) (Rd : World → List Value → α → Prop) (w : World) (b lo : Nat) (css0 : List (List Value)) (rest : List Value) (l : List α) (k : Nat) (W : World) : Prop :=
 ∃ css : List (List Value), css.length = l.length ∧ (∀ cs ∈ css, cs.length = s) ∧ Cs W b E (css.flatten ++ rest).toArray ∧ (∀ (i : Nat) cs x, i < k → css[i]? = some cs → l[i]? = some x → Far lo (fun g => g = b) W (fun W => Rd W cs x)) ∧ (∀ i, k ≤ i → css[i]? = css0[i]?) ∧ Ext w W
theorem lay_flat {s : Nat} (css : List (List Value)) (hl : ∀ cs ∈ css, cs.length = s) (rest ds : List Value) (k : Nat) (hk : k < css.length) (hd : ds.length = s) : layC (css.flatten ++ rest).toArray (k * s) ds.toArray = ((css.set k ds).flatten ++ rest).toArray := by
 have hf := flat_len css hl
 have hle : k * s + s ≤ css.flatten.length := by
  rw [hf]
  have := Nat.mul_le_mul_right s (show k + 1 ≤ css.length from hk)
  rw [Nat.add_mul, Nat.one_mul] at this
  exact this
 unfold layC
 rw [← flat_set css hl k ds hk hd]
 simp only [List.size_toArray, hd]
 rw [List.take_append_of_le_length (by omega), List.drop_append_of_le_length hle]
 simp only [List.append_assoc]
theorem ea_range {E : TypeId} {s : Nat} {b : Nat} {W : World} {css : List (List Value)} {rest : List Value} (hc : Cs W b E (css.flatten ++ rest).toArray) (hl : ∀ cs ∈ css, cs.length = s) {k : Nat} {cs : List Value} (hk : css[k]? = some cs) : W.rangeAt b (k * s) cs := by
 have h1 := flat_at css hl k cs hk
 have hlen : cs.length = s := hl cs (List.mem_of_getElem? hk)
 intro j x hx
 have hj : j < s := by have := (List.getElem?_eq_some_iff.1 hx).1; omega
 rw [← h1, List.getElem?_take, if_pos hj, List.getElem?_drop] at hx
 have := Cs.rg hc (k * s + j) x (by rw [List.getElem?_append_left (List.getElem?_eq_some_iff.1 hx).1]; exact hx)
 rwa [Nat.zero_add] at this
theorem EaJ.step {α : Type} {E : TypeId} {s : Nat} {Rd : World → List Value → α → Prop} {w : World} {b lo : Nat} {css0 : List (List Value)} {rest : List Value} {l : List α} {k : Nat} {W W1 W2 : World} {css : List (List Value)} {ds : List Value} {x : α}
  (h1 : css.length = l.length) (h2 : ∀ cs ∈ css, cs.length = s) (h4 : ∀ (i : Nat) cs x, i < k → css[i]? = some cs → l[i]? = some x → Far lo (fun g => g = b) W (fun W => Rd W cs x)) (h5 : ∀ i, k ≤ i → css[i]? = css0[i]?) (h6 : Ext w W)
  (he : Ext W W1) (hk : k < l.length) (hd : ds.length = s) (hx : l[k]? = some x) (hf : Far lo (fun g => g = b) W1 (fun W => Rd W ds x)) (hc : Cs W2 b E (layC (css.flatten ++ rest).toArray (k * s) ds.toArray)) (hg : W1.grownBy W2 (some b)) (hb : w.heap.size ≤ b) : EaJ E s Rd w b lo css0 rest l (k + 1) W2 := by
 refine ⟨css.set k ds, by rw [List.length_set, h1], fun cs hm => ?_, by rw [← lay_flat css h2 rest ds k (by omega) hd]; exact hc, fun i cs y hi hcs hy => ?_, fun i hi => ?_, (h6.trans he).grown hg hb⟩
 ·rcases List.mem_or_eq_of_mem_set hm with hm | rfl
  ·exact h2 cs hm
  ·exact hd
 ·by_cases hik : i = k
  ·subst hik
   rw [List.getElem?_set_self (by omega)] at hcs
   rw [hx] at hy
   rw [← Option.some.inj hcs, ← Option.some.inj hy]
   exact hf.old hg (.inr (.inl rfl))
  ·rw [List.getElem?_set_ne (fun e => hik e.symm)] at hcs
   exact ((h4 i cs y (by omega) hcs hy).ext he).old hg (.inr (.inl rfl))
 ·rw [List.getElem?_set_ne (by omega)]
  exact h5 i (by omega)
theorem EaJ.row {α : Type} {E : TypeId} {s : Nat} {Rd : World → List Value → α → Prop} {w W : World} {b lo cap : Nat} {css0 : List (List Value)} {rest : List Value} {l : List α} (h : EaJ E s Rd w b lo css0 rest l l.length W) (hlo : lo ≤ b) (hc : l.length ≤ cap) (hm : cap ≤ maxLen) (hs : (l.length * s + rest.length) = cap * s) : RowO E s Rd No lo W (.slice (some ⟨b, 0, none⟩) l.length cap) l := by
 obtain ⟨css, h1, h2, h3, h4, _, _⟩ := h
 have hf := flat_len css h2
 refine ⟨css, h1, h2, ⟨by rw [hf, h1], .inr ⟨b, cap, _, rfl, hlo, h3, hc, hm, ?_, ?_⟩⟩, fun i cs x hi hx => ?_⟩
 ·rw [List.size_toArray, List.length_append, hf, h1]; exact hs
 ·rw [List.take_append_of_le_length (by rw [hf, h1]; exact Nat.le_refl _), List.take_of_length_le (by rw [hf, h1]; exact Nat.le_refl _)]
 ·have hil : i < l.length := (List.getElem?_eq_some_iff.1 hx).1
  refine (h4 i cs x hil hi hx).less fun g hg => ?_
  rcases hg with hg | hg
  ·exact hg.elim
  ·exact .inl (by have : some b = some g := hg; exact (Option.some.inj this).symm)
theorem acm_far {lo lo1 b : Nat} {W : World} {x : Ac} {u v : Value} (hx : x.ok) (h1 : JbS lo1 W u x.code) (h2 : JkS lo1 W v x.store) (hl : lo ≤ lo1) (hb : b < lo1) : Far lo (fun g => g = b) W (fun W => AcR W (acc x u v).toList x) := by
 obtain ⟨A, c, rfl, h1⟩ := h1
 obtain ⟨B, d, rfl, h2⟩ := h2
 have f1 : Far lo1 No W (fun W => Bs W (.slice A x.code.length c) x.code) := Own.far h1 (fun g _ h => h.elim)
 have f2 : Far lo1 No W (fun W => Pks W (.slice B x.store.length d) x.store) := OwnK.far h2 (fun g _ h => h.elim)
 exact (((f1.both f2).imp fun W h => ⟨hx, _, _, rfl, h.1, h.2⟩).less (X' := fun g => g = b) (fun g hg => .inr (.inl (by rw [hg]; exact hb)))).low hl
theorem ac_getD {l : List Ac} {k : Nat} (hk : k < l.length) : l[k]? = some (l.getD k acz) := by rw [List.getD_eq_getElem?_getD, List.getElem?_eq_getElem hk]; rfl
set_option maxRecDepth 100000 in
set_option maxHeartbeats 8000000 in
theorem eachAc_any (v : Value) (l : List Ac) (w : World) (hb : Acs w v l) (hl : l.length ≤ 1000000000) (hs : ∀ a ∈ l, a.code.length ≤ 1000000000 ∧ a.store.length ≤ 1000000000) :
  Calls Tryz.prog 147 #[v, .func (.func 148) #[] #[]] w fun e w' => ∃ v', e = .returned v' ∧ RowO 79 8 AcR No w.heap.size w' v' l ∧ Ext w w' := by
 have HO := Lib.hid (jownAc_any v l w hb hl)
 have HS := Lib.hid hs
 have HLL := Lib.hid hl
 obtain ⟨A0, c0, rfl, _, _⟩ := hb.len
 clear hb hs
 go_enter Tryz.func147, Tryz.ntmps147
 go_wp2_with fail
 refine HO.out.mono ?_
 rintro e w1 ⟨v1, css0, rfl, ho, k1, k2, k3, he⟩
 have HE1 := Lib.hid he
 rcases Nat.eq_zero_or_pos l.length with h0 | h0
 ·obtain rfl := List.eq_nil_of_length_eq_zero h0
  have HRO := Lib.hid (RowO.of_empty (E := 79) (s := 8) (Rd := AcR) (X := No) (by have := ho; rw [List.eq_nil_of_length_eq_zero (show css0.length = 0 from k1)] at this; exact this))
  obtain ⟨_, A1, c1, rfl, _, _, _⟩ := Rs.of_own ho
  clear ho k1 k2 k3 he HO
  go_wp2_with fail
  go_loopw [12] (fun iv wr => iv = .int .i64 (0 : Nat) ∧ w1 = wr) (fun iv _ => 1 - (intOf iv).toNat)
  case atStart => exact ⟨rfl, rfl⟩
  case round =>
   obtain ⟨rfl, rfl⟩ := hrel
   go_wp2_with fail
   go_ret
   exact ⟨_, rfl, HRO.out, HE1.out⟩
 ·obtain ⟨b, cap, cur, rfl, hb1, hb2, hb3, hb4, hb5, hb6⟩ : ∃ g cap cur, v1 = .slice (some ⟨g, 0, none⟩) l.length cap ∧ w.heap.size ≤ g ∧ w1.heap[g]? = some (.cells cur 79 (0, 0)) ∧ l.length ≤ cap ∧ cap ≤ maxLen ∧ cur.size = cap * 8 ∧ cur.toList.take (l.length * 8) = css0.flatten := by
   rcases ho.2 with ⟨_, h⟩ | h
   ·omega
   ·exact h
  have HB := Lib.hid hb1
  have HCAP := Lib.hid (And.intro hb3 hb4)
  have hrest : cur = (css0.flatten ++ cur.toList.drop (l.length * 8)).toArray := by
   rw [← hb6, List.take_append_drop]
  obtain ⟨rest, hre⟩ : ∃ r, cur.toList.drop (l.length * 8) = r := ⟨_, rfl⟩
  have HRS := Lib.hid (show l.length * 8 + rest.length = cap * 8 by have h8 : cur.toList.length = cap * 8 := (Array.length_toList (xs := cur)).trans hb5; rw [← hre, List.length_drop, h8]; have := Nat.mul_le_mul_right 8 hb3; omega)
  rw [hre] at hrest
  have HJ0 : Hid (EaJ 79 8 AcR w b w.heap.size css0 rest l 0 w1) := Lib.hid ⟨css0, k1, k2, by rw [← hrest]; exact hb2, fun i cs x hi => absurd hi (by omega), fun i _ => rfl, he⟩
  have HK3 := Lib.hid k3
  have HK1 := Lib.hid k1
  unfold maxLen at hb4
  clear ho k1 k2 k3 he hb1 hb2 hb5 hb6 hrest hre HO h0 HE1 hl
  go_wp2_with fail
  go_loopw [12] (fun iv wr => ∃ k : Nat, k ≤ l.length ∧ iv = .int .i64 (k : Nat) ∧ Hid (EaJ 79 8 AcR w b w.heap.size css0 rest l k wr)) (fun iv _ => l.length - (intOf iv).toNat)
  case atStart => exact ⟨0, by omega, rfl, HJ0⟩
  case round =>
   obtain ⟨k, hk, rfl, HJ⟩ := hrel
   clear HJ0
   by_cases hlt : k < l.length
   ·have hd : decide (k < l.length) = true := decide_eq_true hlt
    have hd2 : decide ((k : Int) < (l.length : Int)) = true := decide_eq_true (by omega)
    obtain ⟨css, h1, h2, h3, h4, h5, h6⟩ := HJ.out
    obtain ⟨cs0, hcs0⟩ : ∃ cs, css[k]? = some cs := ⟨_, List.getElem?_eq_getElem (show k < css.length by omega)⟩
    obtain ⟨hok, u, va, rfl, hu, hv⟩ := HK3.out k cs0 _ (by rw [← h5 k (Nat.le_refl _)]; exact hcs0) (ac_getD hlt)
    have HR := Lib.hid (ea_range h3 h2 hcs0)
    have HXX := Lib.hid (ac_getD hlt)
    have HSX := Lib.hid (HS.out _ (List.mem_of_getElem? (ac_getD hlt)))
    have HSTEP := Lib.hid (fun (W1 W2 : World) (u' v' : Value) (he : Ext wr W1) (hf : Far w.heap.size (fun g => g = b) W1 (fun W => AcR W (acc (l.getD k acz) u' v').toList (l.getD k acz))) (hc : Cs W2 b 79 (layC (css.flatten ++ rest).toArray (k * 8) (acc (l.getD k acz) u' v'))) (hg : W1.grownBy W2 (some b)) => EaJ.step (css0 := css0) h1 h2 h4 h5 h6 he hlt rfl (ac_getD hlt) hf hc hg HB.out)
    have HC3 := Lib.hid h3
    have HCS := Lib.hid (show k * 8 + 8 ≤ (css.flatten ++ rest).toArray.size by
     rw [List.size_toArray, List.length_append, flat_len css h2, h1]
     have := Nat.mul_le_mul_right 8 (show k + 1 ≤ l.length from hlt)
     omega)
    have HE6 := Lib.hid h6
    have HU := Lib.hid (hu.ext h6)
    have HV := Lib.hid (hv.ext h6)
    have HUO := Lib.hid (bs_one hu)
    have HVO := Lib.hid (pks_one hv)
    have HOK := Lib.hid hok
    have HBL := Lib.hid h3.lt
    clear h1 h2 h3 h4 h5 h6 hcs0 hok hu hv HJ
    generalize l.getD k acz = x at *
    go_upto_region 5 with (first
     | ((with_reducible refine wpList_load_ac ?_ (.tmp 15) ?_ b (k * 8) x u va ?_ ?_ ?_); (exact rfl); (exact rfl); (exact rfl); (exact HR.out))
     | ((with_reducible refine wpList_store_ac ?_ ?_ (.tmp 7) (.tmp 16) ?_ wr.heap.size az0 x u va ?_ ?_ ?_ ?_ ?_ ?_ ?_); (exact rfl); (exact rfl); (exact rfl); (exact HUO.out); (exact HVO.out); (exact rfl); (exact rfl); (exact Cs.new _ _ _ _ rfl); (exact rfl); intro w2 k2 g2; have R2 := Lib.hid (Ab.range k2); have E2 := Lib.hid (((Ext.refl wr).alloc (.cells az0 79)).grown g2 (Nat.le_refl _)); clear k2 g2))
    go_wp2_with ((with_reducible refine wpList_load_ac ?_ (.tmp 7) ?_ wr.heap.size 0 x u va ?_ ?_ ?_); (exact rfl); (exact rfl); (exact rfl); (exact R2.out))
    refine (ownAc1_any x u va _ (HU.out.ext E2.out) (HV.out.ext E2.out) HSX.out.1 HSX.out.2).mono ?_
    rintro e w3 ⟨u', v', rfl, hj1, hj2, he⟩
    have HX3 := Lib.hid (E2.out.trans he)
    have HF := Lib.hid (acm_far (lo := w.heap.size) (b := b) HOK.out hj1 hj2 (Nat.le_trans HE6.out.size E2.out.size) (Nat.lt_of_lt_of_le HBL.out E2.out.size))
    have HO' := Lib.hid (show (acc x u' v').all (·.oneCell') = true by obtain ⟨A, c, rfl, _⟩ := hj1; obtain ⟨B, d, rfl, _⟩ := hj2; exact acc_one _ _ _ rfl rfl)
    have HC5 := Lib.hid (Cs.ext HC3.out HX3.out)
    clear hj1 hj2 he R2 E2
    go_wp2_with ((with_reducible refine wpList_store_in ?_ ?_ 79 (.tmp 22) (.tmp 21) ?_ b (k * 8) 79 (css.flatten ++ rest).toArray (acc x u' v') ?_ ?_ ?_ ?_ ?_ ?_ ?_); (exact rfl); (exact rfl); (exact rfl); (exact rfl); (exact rfl); (exact HC5.out); (exact acinfo); (exact HCS.out); (exact HO'.out); intro w6 k6 g6; have K6 := Lib.hid (HSTEP.out w3 w6 u' v' HX3.out HF.out k6 g6); clear k6 g6)
    exact ⟨⟨k + 1, by omega, by go_num, K6⟩, by simp [intOf]; omega⟩
   ·obtain rfl : k = l.length := by omega
    have hd : decide (l.length < l.length) = false := decide_eq_false (by omega)
    have hd2 : decide ((l.length : Int) < (l.length : Int)) = false := decide_eq_false (by omega)
    have HRO := Lib.hid (EaJ.row HJ.out HB.out HCAP.out.1 HCAP.out.2 HRS.out)
    have HE6 := Lib.hid (show Ext w wr by obtain ⟨_, _, _, _, _, _, h⟩ := HJ.out; exact h)
    clear HJ
    go_wp2_with fail
    go_ret
    exact ⟨_, rfl, HRO.out, HE6.out⟩
end Go.Proofs.YtnjpdchmdimaaaaGreat
