/- Package journal: the laws' touched. -/
import Derived.Test.YtnjpdchmdimaaaaGreatQJnq
namespace Go.Proofs.YtnjpdchmdimaaaaGreat
open Go.ChangeShapes Go.WideShapes Go.ChangeAt Go.RowKit Go.Shelf

theorem Sl.cutJ {α : Type} {W : World} {s : Nat} {Rd : List Value → α → Prop} {A : Option Addr} {n c : Nat} {l : List α} (h : Sl W s Rd (.slice A n c) l) (k : Nat) : Sl W s Rd (.slice A (l.take k).length c) (l.take k) := by
 obtain ⟨A', c', e, h1, h2, h3⟩ := h
 injection e with e1 e2 e3
 subst e1 e3
 have hle : (l.take k).length ≤ l.length := by rw [List.length_take]; exact Nat.min_le_right _ _
 refine ⟨A, c, rfl, Nat.le_trans hle h1, h2, fun hp => ?_⟩
 obtain ⟨b, o, e, hc⟩ := h3 (Nat.lt_of_lt_of_le hp hle)
 refine ⟨b, o, e, fun i x hx => hc i x ?_⟩
 rw [List.getElem?_take] at hx
 split at hx
 ·exact hx
 ·cases hx
theorem cut_min {α : Type} (l : List α) (k : Nat) : min (l.length : Int) (k : Int) = ((l.take k).length : Int) := by rw [List.length_take]; omega
def cutX (x : Ax) : Ax := ⟨x.a.take 402, x.s.take 402, x.p.take 402⟩
set_option maxRecDepth 100000 in
set_option maxHeartbeats 8000000 in
theorem touchedX_any (va vs vp : Value) (x : Ax) (w : World) (hx : AxR w va vs vp x) :
  Calls Tryz.prog 22 #[.agg #[va, vs, vp]] w fun e w' => ∃ v', e = .returned v' ∧ RetX w.heap.size w' v' (cutX x) ∧ Ext w w' := by
 obtain ⟨A1, c1, rfl, q1, q2⟩ := hx.1.len
 obtain ⟨A2, c2, rfl, q3, q4⟩ := hx.2.1.len
 obtain ⟨A3, c3, rfl, q5, q6⟩ := hx.2.2.len
 have HX1 := Lib.hid (show XA w (.slice A1 (x.a.take 402).length c1) (x.a.take 402) from Sl.cutJ hx.1 402)
 have HX2 := Lib.hid (show XS w (.slice A2 (x.s.take 402).length c2) (x.s.take 402) from Sl.cutJ hx.2.1 402)
 have HX3 := Lib.hid (show XP w (.slice A3 (x.p.take 402).length c3) (x.p.take 402) from Sl.cutJ hx.2.2 402)
 have HM1 := Lib.hid (show min (x.a.length : Int) 402 = ((x.a.take 402).length : Int) ∧ (x.a.take 402).length ≤ c1 from ⟨cut_min _ 402, by rw [List.length_take]; omega⟩)
 have HM2 := Lib.hid (show min (x.s.length : Int) 402 = ((x.s.take 402).length : Int) ∧ (x.s.take 402).length ≤ c2 from ⟨cut_min _ 402, by rw [List.length_take]; omega⟩)
 have HM3 := Lib.hid (show min (x.p.length : Int) 402 = ((x.p.take 402).length : Int) ∧ (x.p.take 402).length ≤ c3 from ⟨cut_min _ 402, by rw [List.length_take]; omega⟩)
 have HL1 := Lib.hid (show (x.a.take 402).length ≤ 100000 by rw [List.length_take]; omega)
 have HL2 := Lib.hid (show (x.s.take 402).length ≤ 100000 by rw [List.length_take]; omega)
 have HL3 := Lib.hid (show (x.p.take 402).length ≤ 100000 by rw [List.length_take]; omega)
 have HCU : Hid (cutX x = ⟨x.a.take 402, x.s.take 402, x.p.take 402⟩) := Lib.hid rfl
 generalize x.a.take 402 = la at *
 generalize x.s.take 402 = ls at *
 generalize x.p.take 402 = lp at *
 obtain ⟨w0, hw0⟩ : ∃ w0, (w.alloc (.cells #[.slice A1 x.a.length c1, .slice A2 x.s.length c2, .slice A3 x.p.length c3] 35)).alloc (.cells #[.slice none 0 0, .slice none 0 0, .slice none 0 0] 35) = w0 := ⟨_, rfl⟩
 have HC0 : Hid (Cs w0 w.heap.size 35 #[.slice A1 x.a.length c1, .slice A2 x.s.length c2, .slice A3 x.p.length c3]) := Lib.hid (by rw [← hw0]; exact Cs.alloc (Cs.new _ _ _ _ rfl) _)
 have HR0 : Hid (Cs w0 (w.heap.size + 1) 35 #[.slice none 0 0, .slice none 0 0, .slice none 0 0]) := Lib.hid (by rw [← hw0]; exact Cs.new _ _ _ _ (by simp))
 have HE0 : Hid (Ext w w0) := Lib.hid (by rw [← hw0]; exact ((Ext.refl w).alloc _).alloc _)
 have HG2 : Hid (w.heap.size ≤ w.heap.size + 1 ∧ w.heap.size + 1 < w0.heap.size) := Lib.hid ⟨Nat.le_succ _, HR0.out.lt⟩
 have HW0 := Lib.hid hw0
 clear hx hw0 q1 q2 q3 q4 q5 q6
 go_enter Tryz.func22, Tryz.ntmps22
 go_upto_region 1 with fail
 rw [HW0.out]
 clear HW0
 refine wp_named fun a0 ha0 => ?_
 obtain ⟨fr, hfr⟩ : ∃ fr : (Nat → Value) → Act, ∀ V, fr V = (((((((((((((((((((((((((a0.put (some 3) (V 0)).put (some 4) (V 1)).put (some 5) (V 2)).put (some 6) (V 3)).put (some 7) (V 4)).put (some 8) (V 5)).put (some 9) (V 6)).put (some 10) (V 7)).put (some 11) (V 8)).put (some 12) (V 9)).put (some 13) (V 10)).put (some 14) (V 11)).put (some 15) (V 12)).put (some 16) (V 13)).put (some 17) (V 14)).put (some 18) (V 15)).put (some 19) (V 16)).put (some 20) (V 17)).put (some 21) (V 18)).put (some 22) (V 19)).put (some 23) (V 20)).put (some 24) (V 21)).put (some 25) (V 22)).put (some 26) (V 23)).put (some 27) (V 24)) := ⟨_, fun _ => rfl⟩
 rw [ha0] at hfr
 simp only [Act.put, List.setIfInBounds_toArray, List.set_cons_zero, List.set_cons_succ] at hfr
 have HFR := Lib.hid hfr
 clear hfr
 refine wp_region_inv (by kernel_rfl) (by kernel_rfl) (fun L A W => ∃ V : Nat → Value, A = fr V ∧ Vals (fun j => ([some (.pointer (some ⟨w.heap.size, 0, none⟩)), some (.slice A1 x.a.length c1), some (.pointer (some ⟨w.heap.size, 0, none⟩)), some (.slice A1 x.a.length c1), some (.int .i64 (x.a.length : Nat)), some (.int .i64 (la.length : Nat)), some (.slice A1 la.length c1), none, some (.pointer (some ⟨w.heap.size, 1, none⟩)), some (.slice A2 x.s.length c2), some (.pointer (some ⟨w.heap.size, 1, none⟩)), some (.slice A2 x.s.length c2), some (.int .i64 (x.s.length : Nat)), some (.int .i64 (ls.length : Nat)), some (.slice A2 ls.length c2), none, some (.pointer (some ⟨w.heap.size, 2, none⟩)), some (.slice A3 x.p.length c3), some (.pointer (some ⟨w.heap.size, 2, none⟩)), some (.slice A3 x.p.length c3), some (.int .i64 (x.p.length : Nat)), some (.int .i64 (lp.length : Nat)), some (.slice A3 lp.length c3), none, none, none] : List (Option Value)).getD j none) L V ∧ (L 25 = false → Ext w0 W) ∧ (L 25 = true → XoJ ⟨la, ls, lp⟩ w w0.heap.size (w.heap.size + 1) W) ∧ (L 25 = false → L 7 = true → OwnA W w0.heap.size (V 7) la) ∧ (L 25 = false → L 15 = true → OwnS W w0.heap.size (V 15) ls) ∧ (L 25 = false → L 23 = true → OwnP W w0.heap.size (V 23) lp) ∧ (L 25 = false → L 24 = true → RetX w0.heap.size W (V 24) ⟨la, ls, lp⟩)) ?_ ⟨?_, ?_, ?_, ?_, ?_, ?_, ?_, ?_, ?_, ?_, ?_, ?_, ?_, ?_, ?_, ?_, ?_, ?_, ?_, ?_, ?_, ?_, ?_, ?_, ?_, ?_, trivial⟩ ?_
 ·refine ⟨fun j => a0.tmps.getD (([3, 4, 5, 6, 7, 8, 9, 10, 11, 12, 13, 14, 15, 16, 17, 18, 19, 20, 21, 22, 23, 24, 25, 26, 27, 0] : List Nat).getD j 0) undef, ?_, Vals.no _ _ _ (far_none _ _ rfl), fun _ => (Ext.refl _).drew, fun h0 => absurd h0 (by decide), fun h0 h1 => absurd h1 (by decide), fun h0 h1 => absurd h1 (by decide), fun h0 h1 => absurd h1 (by decide), fun h0 h1 => absurd h1 (by decide)⟩
  rw [HFR.out, ha0]
  rfl
 all_goals clear ha0
 ·rintro L A W K hL hC hW ⟨V, rfl, HV, s0, s1, f7, f15, f23, f24⟩ hK
  have H := Lib.hid (show ∀ W', Ext W W' → K (fr (upd V 0 (.pointer (some ⟨w.heap.size, 0, none⟩)))) W' from fun W' he => hK _ _ ⟨_, rfl, HV.us 0 _ rfl, fun h0 => Ext.trans (s0 (mnf h0 rfl)) he, fun h0 => XoJ.ext (s1 (more_ne h0 rfl)) he, fun h0 h1 => OwnA.ext (f7 (mnf h0 rfl) (more_ne h1 rfl)) he, fun h0 h1 => OwnS.ext (f15 (mnf h0 rfl) (more_ne h1 rfl)) he, fun h0 h1 => OwnP.ext (f23 (mnf h0 rfl) (more_ne h1 rfl)) he, fun h0 h1 => RetX.ext (f24 (mnf h0 rfl) (more_ne h1 rfl)) he⟩)
  clear hK hC hW hL HV s0 s1 f7 f15 f23 f24
  rw [HFR.out]
  go_wp2_with fail
  show K _ _; have := H.out _ (Ext.refl _); rw [HFR.out] at this
  exact this
 ·rintro L A W K hL hC hW ⟨V, rfl, HV, s0, s1, f7, f15, f23, f24⟩ hK
  have e0 := HV 0 _ rfl (hW 0 rfl)
  have hB := s0 (hC.no (hC.no (hC.no (hC.no hL 6 _ rfl rfl) 7 _ rfl rfl) 24 _ rfl rfl) 25 _ rfl rfl)
  have H := Lib.hid (show ∀ W', Ext W W' → K (fr (upd V 1 (.slice A1 x.a.length c1))) W' from fun W' he => hK _ _ ⟨_, rfl, HV.us 1 _ rfl, fun h0 => Ext.trans (s0 (mnf h0 rfl)) he, fun h0 => XoJ.ext (s1 (more_ne h0 rfl)) he, fun h0 h1 => OwnA.ext (f7 (mnf h0 rfl) (more_ne h1 rfl)) he, fun h0 h1 => OwnS.ext (f15 (mnf h0 rfl) (more_ne h1 rfl)) he, fun h0 h1 => OwnP.ext (f23 (mnf h0 rfl) (more_ne h1 rfl)) he, fun h0 h1 => RetX.ext (f24 (mnf h0 rfl) (more_ne h1 rfl)) he⟩)
  have HU := Lib.hid (show (upd V 1 (.slice A1 x.a.length c1)) 0 = .pointer (some ⟨w.heap.size, 0, none⟩) from e0)
  clear hK hC hW hL HV s0 s1 f7 f15 f23 f24
  rw [HFR.out, e0]
  clear e0
  have hcl := (Cs.ext HC0.out hB).cell 0 _ rfl
  clear hB
  go_wp2_with fail
  show K _ _; have := H.out _ (Ext.refl _); rw [HFR.out] at this
  obtain u0 := HU.out
  rw [u0] at this
  exact this
 ·rintro L A W K hL hC hW ⟨V, rfl, HV, s0, s1, f7, f15, f23, f24⟩ hK
  have H := Lib.hid (show ∀ W', Ext W W' → K (fr (upd V 2 (.pointer (some ⟨w.heap.size, 0, none⟩)))) W' from fun W' he => hK _ _ ⟨_, rfl, HV.us 2 _ rfl, fun h0 => Ext.trans (s0 (mnf h0 rfl)) he, fun h0 => XoJ.ext (s1 (more_ne h0 rfl)) he, fun h0 h1 => OwnA.ext (f7 (mnf h0 rfl) (more_ne h1 rfl)) he, fun h0 h1 => OwnS.ext (f15 (mnf h0 rfl) (more_ne h1 rfl)) he, fun h0 h1 => OwnP.ext (f23 (mnf h0 rfl) (more_ne h1 rfl)) he, fun h0 h1 => mtf (hC.no (hC.no (hC.no (hC.no (hC.no (hC.no hL 3 _ rfl rfl) 4 _ rfl rfl) 5 _ rfl rfl) 6 _ rfl rfl) 7 _ rfl rfl) 24 _ rfl rfl) (more_ne h1 rfl)⟩)
  clear hK hC hW hL HV s0 s1 f7 f15 f23 f24
  rw [HFR.out]
  go_wp2_with fail
  show K _ _; have := H.out _ (Ext.refl _); rw [HFR.out] at this
  exact this
 ·rintro L A W K hL hC hW ⟨V, rfl, HV, s0, s1, f7, f15, f23, f24⟩ hK
  have e2 := HV 2 _ rfl (hW 2 rfl)
  have hB := s0 (hC.no (hC.no (hC.no (hC.no (hC.no (hC.no hL 4 _ rfl rfl) 5 _ rfl rfl) 6 _ rfl rfl) 7 _ rfl rfl) 24 _ rfl rfl) 25 _ rfl rfl)
  have H := Lib.hid (show ∀ W', Ext W W' → K (fr (upd V 3 (.slice A1 x.a.length c1))) W' from fun W' he => hK _ _ ⟨_, rfl, HV.us 3 _ rfl, fun h0 => Ext.trans (s0 (mnf h0 rfl)) he, fun h0 => XoJ.ext (s1 (more_ne h0 rfl)) he, fun h0 h1 => OwnA.ext (f7 (mnf h0 rfl) (more_ne h1 rfl)) he, fun h0 h1 => OwnS.ext (f15 (mnf h0 rfl) (more_ne h1 rfl)) he, fun h0 h1 => OwnP.ext (f23 (mnf h0 rfl) (more_ne h1 rfl)) he, fun h0 h1 => RetX.ext (f24 (mnf h0 rfl) (more_ne h1 rfl)) he⟩)
  have HU := Lib.hid (show (upd V 3 (.slice A1 x.a.length c1)) 2 = .pointer (some ⟨w.heap.size, 0, none⟩) from e2)
  clear hK hC hW hL HV s0 s1 f7 f15 f23 f24
  rw [HFR.out, e2]
  clear e2
  have hcl := (Cs.ext HC0.out hB).cell 0 _ rfl
  clear hB
  go_wp2_with fail
  show K _ _; have := H.out _ (Ext.refl _); rw [HFR.out] at this
  obtain u2 := HU.out
  rw [u2] at this
  exact this
 ·rintro L A W K hL hC hW ⟨V, rfl, HV, s0, s1, f7, f15, f23, f24⟩ hK
  have e3 := HV 3 _ rfl (hW 3 rfl)
  have H := Lib.hid (show ∀ W', Ext W W' → K (fr (upd V 4 (.int .i64 (x.a.length : Nat)))) W' from fun W' he => hK _ _ ⟨_, rfl, HV.us 4 _ rfl, fun h0 => Ext.trans (s0 (mnf h0 rfl)) he, fun h0 => XoJ.ext (s1 (more_ne h0 rfl)) he, fun h0 h1 => OwnA.ext (f7 (mnf h0 rfl) (more_ne h1 rfl)) he, fun h0 h1 => OwnS.ext (f15 (mnf h0 rfl) (more_ne h1 rfl)) he, fun h0 h1 => OwnP.ext (f23 (mnf h0 rfl) (more_ne h1 rfl)) he, fun h0 h1 => RetX.ext (f24 (mnf h0 rfl) (more_ne h1 rfl)) he⟩)
  have HU := Lib.hid (show (upd V 4 (.int .i64 (x.a.length : Nat))) 3 = .slice A1 x.a.length c1 from e3)
  clear hK hC hW hL HV s0 s1 f7 f15 f23 f24
  rw [HFR.out, e3]
  clear e3
  go_wp2_with fail
  show K _ _; have := H.out _ (Ext.refl _); rw [HFR.out] at this
  obtain u3 := HU.out
  rw [u3] at this
  exact this
 ·rintro L A W K hL hC hW ⟨V, rfl, HV, s0, s1, f7, f15, f23, f24⟩ hK
  have e4 := HV 4 _ rfl (hW 4 rfl)
  have hB := s0 (hC.no (hC.no (hC.no (hC.no hL 6 _ rfl rfl) 7 _ rfl rfl) 24 _ rfl rfl) 25 _ rfl rfl)
  have H := Lib.hid (show ∀ W', Ext W W' → K (fr (upd V 5 (.int .i64 (la.length : Nat)))) W' from fun W' he => hK _ _ ⟨_, rfl, HV.us 5 _ rfl, fun h0 => Ext.trans (s0 (mnf h0 rfl)) he, fun h0 => XoJ.ext (s1 (more_ne h0 rfl)) he, fun h0 h1 => OwnA.ext (f7 (mnf h0 rfl) (more_ne h1 rfl)) he, fun h0 h1 => OwnS.ext (f15 (mnf h0 rfl) (more_ne h1 rfl)) he, fun h0 h1 => OwnP.ext (f23 (mnf h0 rfl) (more_ne h1 rfl)) he, fun h0 h1 => RetX.ext (f24 (mnf h0 rfl) (more_ne h1 rfl)) he⟩)
  have HU := Lib.hid (show (upd V 5 (.int .i64 (la.length : Nat))) 4 = .int .i64 (x.a.length : Nat) from e4)
  clear hK hC hW hL HV s0 s1 f7 f15 f23 f24
  rw [HFR.out, e4]
  clear e4
  have hm := HM1.out.1
  go_wp2_with fail
  show K _ _; have := H.out _ (Ext.refl _); rw [HFR.out] at this
  obtain u4 := HU.out
  rw [u4] at this
  exact this
 ·rintro L A W K hL hC hW ⟨V, rfl, HV, s0, s1, f7, f15, f23, f24⟩ hK
  have e1 := HV 1 _ rfl (hW 1 rfl)
  have e5 := HV 5 _ rfl (hW 5 rfl)
  have hB := s0 (hC.no (hC.no (hC.no hL 7 _ rfl rfl) 24 _ rfl rfl) 25 _ rfl rfl)
  have H := Lib.hid (show ∀ W', Ext W W' → K (fr (upd V 6 (.slice A1 la.length c1))) W' from fun W' he => hK _ _ ⟨_, rfl, HV.us 6 _ rfl, fun h0 => Ext.trans (s0 (mnf h0 rfl)) he, fun h0 => XoJ.ext (s1 (more_ne h0 rfl)) he, fun h0 h1 => OwnA.ext (f7 (mnf h0 rfl) (more_ne h1 rfl)) he, fun h0 h1 => OwnS.ext (f15 (mnf h0 rfl) (more_ne h1 rfl)) he, fun h0 h1 => OwnP.ext (f23 (mnf h0 rfl) (more_ne h1 rfl)) he, fun h0 h1 => RetX.ext (f24 (mnf h0 rfl) (more_ne h1 rfl)) he⟩)
  have HU := Lib.hid (show (upd V 6 (.slice A1 la.length c1)) 1 = .slice A1 x.a.length c1 ∧ (upd V 6 (.slice A1 la.length c1)) 5 = .int .i64 (la.length : Nat) from ⟨e1, e5⟩)
  clear hK hC hW hL HV s0 s1 f7 f15 f23 f24
  rw [HFR.out, e1, e5]
  clear e1 e5
  have hm := HM1.out.2
  go_wp2_with fail
  show K _ _; have := H.out _ (Ext.refl _); rw [HFR.out] at this
  obtain ⟨u1, u5⟩ := HU.out
  rw [u1, u5] at this
  exact this
 ·rintro L A W K hL hC hW ⟨V, rfl, HV, s0, s1, f7, f15, f23, f24⟩ hK
  have e6 := HV 6 _ rfl (hW 6 rfl)
  have hB := s0 (hC.no (hC.no hL 24 _ rfl rfl) 25 _ rfl rfl)
  have H := Lib.hid (show ∀ v W', Ext W W' → (OwnA W' w0.heap.size v la) → K (fr (upd V 7 v)) W' from fun v W' he hp => hK _ _ ⟨_, rfl, HV.un 7 _ rfl, fun h0 => Ext.trans (s0 (mnf h0 rfl)) he, fun h0 => XoJ.ext (s1 (more_ne h0 rfl)) he, fun h0 h1 => hp, fun h0 h1 => OwnS.ext (f15 (mnf h0 rfl) (more_ne h1 rfl)) he, fun h0 h1 => OwnP.ext (f23 (mnf h0 rfl) (more_ne h1 rfl)) he, fun h0 h1 => RetX.ext (f24 (mnf h0 rfl) (more_ne h1 rfl)) he⟩)
  have HU := Lib.hid (show ∀ v, (upd V 7 v) 6 = .slice A1 la.length c1 from fun v => e6)
  clear hK hC hW hL HV s0 s1 f7 f15 f23 f24
  rw [HFR.out, e6]
  clear e6
  have HB := Lib.hid hB
  clear hB
  go_wp2_with fail
  refine (jcloneA_any _ la.length (fA la) _ (HX1.out.rs.ext (HE0.out.trans HB.out)) (fA_one _) HL1.out).mono ?_
  rintro e wx ⟨vx, rfl, ho, he⟩
  have := H.out _ _ he (⟨own_mono ho HB.out.size, HX1.out.oks⟩)
  clear H
  go_wp2_with fail
  show K _ _
  rw [HFR.out] at this
  obtain u6 := HU.out _
  rw [u6] at this
  exact this
 ·rintro L A W K hL hC hW ⟨V, rfl, HV, s0, s1, f7, f15, f23, f24⟩ hK
  have H := Lib.hid (show ∀ W', Ext W W' → K (fr (upd V 8 (.pointer (some ⟨w.heap.size, 1, none⟩)))) W' from fun W' he => hK _ _ ⟨_, rfl, HV.us 8 _ rfl, fun h0 => Ext.trans (s0 (mnf h0 rfl)) he, fun h0 => XoJ.ext (s1 (more_ne h0 rfl)) he, fun h0 h1 => OwnA.ext (f7 (mnf h0 rfl) (more_ne h1 rfl)) he, fun h0 h1 => OwnS.ext (f15 (mnf h0 rfl) (more_ne h1 rfl)) he, fun h0 h1 => OwnP.ext (f23 (mnf h0 rfl) (more_ne h1 rfl)) he, fun h0 h1 => RetX.ext (f24 (mnf h0 rfl) (more_ne h1 rfl)) he⟩)
  clear hK hC hW hL HV s0 s1 f7 f15 f23 f24
  rw [HFR.out]
  go_wp2_with fail
  show K _ _; have := H.out _ (Ext.refl _); rw [HFR.out] at this
  exact this
 ·rintro L A W K hL hC hW ⟨V, rfl, HV, s0, s1, f7, f15, f23, f24⟩ hK
  have e8 := HV 8 _ rfl (hW 8 rfl)
  have hB := s0 (hC.no (hC.no (hC.no (hC.no hL 14 _ rfl rfl) 15 _ rfl rfl) 24 _ rfl rfl) 25 _ rfl rfl)
  have H := Lib.hid (show ∀ W', Ext W W' → K (fr (upd V 9 (.slice A2 x.s.length c2))) W' from fun W' he => hK _ _ ⟨_, rfl, HV.us 9 _ rfl, fun h0 => Ext.trans (s0 (mnf h0 rfl)) he, fun h0 => XoJ.ext (s1 (more_ne h0 rfl)) he, fun h0 h1 => OwnA.ext (f7 (mnf h0 rfl) (more_ne h1 rfl)) he, fun h0 h1 => OwnS.ext (f15 (mnf h0 rfl) (more_ne h1 rfl)) he, fun h0 h1 => OwnP.ext (f23 (mnf h0 rfl) (more_ne h1 rfl)) he, fun h0 h1 => RetX.ext (f24 (mnf h0 rfl) (more_ne h1 rfl)) he⟩)
  have HU := Lib.hid (show (upd V 9 (.slice A2 x.s.length c2)) 8 = .pointer (some ⟨w.heap.size, 1, none⟩) from e8)
  clear hK hC hW hL HV s0 s1 f7 f15 f23 f24
  rw [HFR.out, e8]
  clear e8
  have hcl := (Cs.ext HC0.out hB).cell 1 _ rfl
  clear hB
  go_wp2_with fail
  show K _ _; have := H.out _ (Ext.refl _); rw [HFR.out] at this
  obtain u8 := HU.out
  rw [u8] at this
  exact this
 ·rintro L A W K hL hC hW ⟨V, rfl, HV, s0, s1, f7, f15, f23, f24⟩ hK
  have H := Lib.hid (show ∀ W', Ext W W' → K (fr (upd V 10 (.pointer (some ⟨w.heap.size, 1, none⟩)))) W' from fun W' he => hK _ _ ⟨_, rfl, HV.us 10 _ rfl, fun h0 => Ext.trans (s0 (mnf h0 rfl)) he, fun h0 => XoJ.ext (s1 (more_ne h0 rfl)) he, fun h0 h1 => OwnA.ext (f7 (mnf h0 rfl) (more_ne h1 rfl)) he, fun h0 h1 => OwnS.ext (f15 (mnf h0 rfl) (more_ne h1 rfl)) he, fun h0 h1 => OwnP.ext (f23 (mnf h0 rfl) (more_ne h1 rfl)) he, fun h0 h1 => RetX.ext (f24 (mnf h0 rfl) (more_ne h1 rfl)) he⟩)
  clear hK hC hW hL HV s0 s1 f7 f15 f23 f24
  rw [HFR.out]
  go_wp2_with fail
  show K _ _; have := H.out _ (Ext.refl _); rw [HFR.out] at this
  exact this
 ·rintro L A W K hL hC hW ⟨V, rfl, HV, s0, s1, f7, f15, f23, f24⟩ hK
  have e10 := HV 10 _ rfl (hW 10 rfl)
  have hB := s0 (hC.no (hC.no (hC.no (hC.no (hC.no (hC.no hL 12 _ rfl rfl) 13 _ rfl rfl) 14 _ rfl rfl) 15 _ rfl rfl) 24 _ rfl rfl) 25 _ rfl rfl)
  have H := Lib.hid (show ∀ W', Ext W W' → K (fr (upd V 11 (.slice A2 x.s.length c2))) W' from fun W' he => hK _ _ ⟨_, rfl, HV.us 11 _ rfl, fun h0 => Ext.trans (s0 (mnf h0 rfl)) he, fun h0 => XoJ.ext (s1 (more_ne h0 rfl)) he, fun h0 h1 => OwnA.ext (f7 (mnf h0 rfl) (more_ne h1 rfl)) he, fun h0 h1 => OwnS.ext (f15 (mnf h0 rfl) (more_ne h1 rfl)) he, fun h0 h1 => OwnP.ext (f23 (mnf h0 rfl) (more_ne h1 rfl)) he, fun h0 h1 => RetX.ext (f24 (mnf h0 rfl) (more_ne h1 rfl)) he⟩)
  have HU := Lib.hid (show (upd V 11 (.slice A2 x.s.length c2)) 10 = .pointer (some ⟨w.heap.size, 1, none⟩) from e10)
  clear hK hC hW hL HV s0 s1 f7 f15 f23 f24
  rw [HFR.out, e10]
  clear e10
  have hcl := (Cs.ext HC0.out hB).cell 1 _ rfl
  clear hB
  go_wp2_with fail
  show K _ _; have := H.out _ (Ext.refl _); rw [HFR.out] at this
  obtain u10 := HU.out
  rw [u10] at this
  exact this
 ·rintro L A W K hL hC hW ⟨V, rfl, HV, s0, s1, f7, f15, f23, f24⟩ hK
  have e11 := HV 11 _ rfl (hW 11 rfl)
  have H := Lib.hid (show ∀ W', Ext W W' → K (fr (upd V 12 (.int .i64 (x.s.length : Nat)))) W' from fun W' he => hK _ _ ⟨_, rfl, HV.us 12 _ rfl, fun h0 => Ext.trans (s0 (mnf h0 rfl)) he, fun h0 => XoJ.ext (s1 (more_ne h0 rfl)) he, fun h0 h1 => OwnA.ext (f7 (mnf h0 rfl) (more_ne h1 rfl)) he, fun h0 h1 => OwnS.ext (f15 (mnf h0 rfl) (more_ne h1 rfl)) he, fun h0 h1 => OwnP.ext (f23 (mnf h0 rfl) (more_ne h1 rfl)) he, fun h0 h1 => RetX.ext (f24 (mnf h0 rfl) (more_ne h1 rfl)) he⟩)
  have HU := Lib.hid (show (upd V 12 (.int .i64 (x.s.length : Nat))) 11 = .slice A2 x.s.length c2 from e11)
  clear hK hC hW hL HV s0 s1 f7 f15 f23 f24
  rw [HFR.out, e11]
  clear e11
  go_wp2_with fail
  show K _ _; have := H.out _ (Ext.refl _); rw [HFR.out] at this
  obtain u11 := HU.out
  rw [u11] at this
  exact this
 ·rintro L A W K hL hC hW ⟨V, rfl, HV, s0, s1, f7, f15, f23, f24⟩ hK
  have e12 := HV 12 _ rfl (hW 12 rfl)
  have hB := s0 (hC.no (hC.no (hC.no (hC.no hL 14 _ rfl rfl) 15 _ rfl rfl) 24 _ rfl rfl) 25 _ rfl rfl)
  have H := Lib.hid (show ∀ W', Ext W W' → K (fr (upd V 13 (.int .i64 (ls.length : Nat)))) W' from fun W' he => hK _ _ ⟨_, rfl, HV.us 13 _ rfl, fun h0 => Ext.trans (s0 (mnf h0 rfl)) he, fun h0 => XoJ.ext (s1 (more_ne h0 rfl)) he, fun h0 h1 => OwnA.ext (f7 (mnf h0 rfl) (more_ne h1 rfl)) he, fun h0 h1 => OwnS.ext (f15 (mnf h0 rfl) (more_ne h1 rfl)) he, fun h0 h1 => OwnP.ext (f23 (mnf h0 rfl) (more_ne h1 rfl)) he, fun h0 h1 => RetX.ext (f24 (mnf h0 rfl) (more_ne h1 rfl)) he⟩)
  have HU := Lib.hid (show (upd V 13 (.int .i64 (ls.length : Nat))) 12 = .int .i64 (x.s.length : Nat) from e12)
  clear hK hC hW hL HV s0 s1 f7 f15 f23 f24
  rw [HFR.out, e12]
  clear e12
  have hm := HM2.out.1
  go_wp2_with fail
  show K _ _; have := H.out _ (Ext.refl _); rw [HFR.out] at this
  obtain u12 := HU.out
  rw [u12] at this
  exact this
 ·rintro L A W K hL hC hW ⟨V, rfl, HV, s0, s1, f7, f15, f23, f24⟩ hK
  have e9 := HV 9 _ rfl (hW 9 rfl)
  have e13 := HV 13 _ rfl (hW 13 rfl)
  have hB := s0 (hC.no (hC.no (hC.no hL 15 _ rfl rfl) 24 _ rfl rfl) 25 _ rfl rfl)
  have H := Lib.hid (show ∀ W', Ext W W' → K (fr (upd V 14 (.slice A2 ls.length c2))) W' from fun W' he => hK _ _ ⟨_, rfl, HV.us 14 _ rfl, fun h0 => Ext.trans (s0 (mnf h0 rfl)) he, fun h0 => XoJ.ext (s1 (more_ne h0 rfl)) he, fun h0 h1 => OwnA.ext (f7 (mnf h0 rfl) (more_ne h1 rfl)) he, fun h0 h1 => OwnS.ext (f15 (mnf h0 rfl) (more_ne h1 rfl)) he, fun h0 h1 => OwnP.ext (f23 (mnf h0 rfl) (more_ne h1 rfl)) he, fun h0 h1 => RetX.ext (f24 (mnf h0 rfl) (more_ne h1 rfl)) he⟩)
  have HU := Lib.hid (show (upd V 14 (.slice A2 ls.length c2)) 9 = .slice A2 x.s.length c2 ∧ (upd V 14 (.slice A2 ls.length c2)) 13 = .int .i64 (ls.length : Nat) from ⟨e9, e13⟩)
  clear hK hC hW hL HV s0 s1 f7 f15 f23 f24
  rw [HFR.out, e9, e13]
  clear e9 e13
  have hm := HM2.out.2
  go_wp2_with fail
  show K _ _; have := H.out _ (Ext.refl _); rw [HFR.out] at this
  obtain ⟨u9, u13⟩ := HU.out
  rw [u9, u13] at this
  exact this
 ·rintro L A W K hL hC hW ⟨V, rfl, HV, s0, s1, f7, f15, f23, f24⟩ hK
  have e14 := HV 14 _ rfl (hW 14 rfl)
  have hB := s0 (hC.no (hC.no hL 24 _ rfl rfl) 25 _ rfl rfl)
  have H := Lib.hid (show ∀ v W', Ext W W' → (OwnS W' w0.heap.size v ls) → K (fr (upd V 15 v)) W' from fun v W' he hp => hK _ _ ⟨_, rfl, HV.un 15 _ rfl, fun h0 => Ext.trans (s0 (mnf h0 rfl)) he, fun h0 => XoJ.ext (s1 (more_ne h0 rfl)) he, fun h0 h1 => OwnA.ext (f7 (mnf h0 rfl) (more_ne h1 rfl)) he, fun h0 h1 => hp, fun h0 h1 => OwnP.ext (f23 (mnf h0 rfl) (more_ne h1 rfl)) he, fun h0 h1 => RetX.ext (f24 (mnf h0 rfl) (more_ne h1 rfl)) he⟩)
  have HU := Lib.hid (show ∀ v, (upd V 15 v) 14 = .slice A2 ls.length c2 from fun v => e14)
  clear hK hC hW hL HV s0 s1 f7 f15 f23 f24
  rw [HFR.out, e14]
  clear e14
  have HB := Lib.hid hB
  clear hB
  go_wp2_with fail
  refine (jcloneS_any _ ls.length (fS ls) _ (HX2.out.rs.ext (HE0.out.trans HB.out)) (fS_one _) HL2.out).mono ?_
  rintro e wx ⟨vx, rfl, ho, he⟩
  have := H.out _ _ he (⟨own_mono ho HB.out.size, HX2.out.oks⟩)
  clear H
  go_wp2_with fail
  show K _ _
  rw [HFR.out] at this
  obtain u14 := HU.out _
  rw [u14] at this
  exact this
 ·rintro L A W K hL hC hW ⟨V, rfl, HV, s0, s1, f7, f15, f23, f24⟩ hK
  have H := Lib.hid (show ∀ W', Ext W W' → K (fr (upd V 16 (.pointer (some ⟨w.heap.size, 2, none⟩)))) W' from fun W' he => hK _ _ ⟨_, rfl, HV.us 16 _ rfl, fun h0 => Ext.trans (s0 (mnf h0 rfl)) he, fun h0 => XoJ.ext (s1 (more_ne h0 rfl)) he, fun h0 h1 => OwnA.ext (f7 (mnf h0 rfl) (more_ne h1 rfl)) he, fun h0 h1 => OwnS.ext (f15 (mnf h0 rfl) (more_ne h1 rfl)) he, fun h0 h1 => OwnP.ext (f23 (mnf h0 rfl) (more_ne h1 rfl)) he, fun h0 h1 => RetX.ext (f24 (mnf h0 rfl) (more_ne h1 rfl)) he⟩)
  clear hK hC hW hL HV s0 s1 f7 f15 f23 f24
  rw [HFR.out]
  go_wp2_with fail
  show K _ _; have := H.out _ (Ext.refl _); rw [HFR.out] at this
  exact this
 ·rintro L A W K hL hC hW ⟨V, rfl, HV, s0, s1, f7, f15, f23, f24⟩ hK
  have e16 := HV 16 _ rfl (hW 16 rfl)
  have hB := s0 (hC.no (hC.no (hC.no (hC.no hL 22 _ rfl rfl) 23 _ rfl rfl) 24 _ rfl rfl) 25 _ rfl rfl)
  have H := Lib.hid (show ∀ W', Ext W W' → K (fr (upd V 17 (.slice A3 x.p.length c3))) W' from fun W' he => hK _ _ ⟨_, rfl, HV.us 17 _ rfl, fun h0 => Ext.trans (s0 (mnf h0 rfl)) he, fun h0 => XoJ.ext (s1 (more_ne h0 rfl)) he, fun h0 h1 => OwnA.ext (f7 (mnf h0 rfl) (more_ne h1 rfl)) he, fun h0 h1 => OwnS.ext (f15 (mnf h0 rfl) (more_ne h1 rfl)) he, fun h0 h1 => OwnP.ext (f23 (mnf h0 rfl) (more_ne h1 rfl)) he, fun h0 h1 => RetX.ext (f24 (mnf h0 rfl) (more_ne h1 rfl)) he⟩)
  have HU := Lib.hid (show (upd V 17 (.slice A3 x.p.length c3)) 16 = .pointer (some ⟨w.heap.size, 2, none⟩) from e16)
  clear hK hC hW hL HV s0 s1 f7 f15 f23 f24
  rw [HFR.out, e16]
  clear e16
  have hcl := (Cs.ext HC0.out hB).cell 2 _ rfl
  clear hB
  go_wp2_with fail
  show K _ _; have := H.out _ (Ext.refl _); rw [HFR.out] at this
  obtain u16 := HU.out
  rw [u16] at this
  exact this
 ·rintro L A W K hL hC hW ⟨V, rfl, HV, s0, s1, f7, f15, f23, f24⟩ hK
  have H := Lib.hid (show ∀ W', Ext W W' → K (fr (upd V 18 (.pointer (some ⟨w.heap.size, 2, none⟩)))) W' from fun W' he => hK _ _ ⟨_, rfl, HV.us 18 _ rfl, fun h0 => Ext.trans (s0 (mnf h0 rfl)) he, fun h0 => XoJ.ext (s1 (more_ne h0 rfl)) he, fun h0 h1 => OwnA.ext (f7 (mnf h0 rfl) (more_ne h1 rfl)) he, fun h0 h1 => OwnS.ext (f15 (mnf h0 rfl) (more_ne h1 rfl)) he, fun h0 h1 => OwnP.ext (f23 (mnf h0 rfl) (more_ne h1 rfl)) he, fun h0 h1 => RetX.ext (f24 (mnf h0 rfl) (more_ne h1 rfl)) he⟩)
  clear hK hC hW hL HV s0 s1 f7 f15 f23 f24
  rw [HFR.out]
  go_wp2_with fail
  show K _ _; have := H.out _ (Ext.refl _); rw [HFR.out] at this
  exact this
 ·rintro L A W K hL hC hW ⟨V, rfl, HV, s0, s1, f7, f15, f23, f24⟩ hK
  have e18 := HV 18 _ rfl (hW 18 rfl)
  have hB := s0 (hC.no (hC.no (hC.no (hC.no (hC.no (hC.no hL 20 _ rfl rfl) 21 _ rfl rfl) 22 _ rfl rfl) 23 _ rfl rfl) 24 _ rfl rfl) 25 _ rfl rfl)
  have H := Lib.hid (show ∀ W', Ext W W' → K (fr (upd V 19 (.slice A3 x.p.length c3))) W' from fun W' he => hK _ _ ⟨_, rfl, HV.us 19 _ rfl, fun h0 => Ext.trans (s0 (mnf h0 rfl)) he, fun h0 => XoJ.ext (s1 (more_ne h0 rfl)) he, fun h0 h1 => OwnA.ext (f7 (mnf h0 rfl) (more_ne h1 rfl)) he, fun h0 h1 => OwnS.ext (f15 (mnf h0 rfl) (more_ne h1 rfl)) he, fun h0 h1 => OwnP.ext (f23 (mnf h0 rfl) (more_ne h1 rfl)) he, fun h0 h1 => RetX.ext (f24 (mnf h0 rfl) (more_ne h1 rfl)) he⟩)
  have HU := Lib.hid (show (upd V 19 (.slice A3 x.p.length c3)) 18 = .pointer (some ⟨w.heap.size, 2, none⟩) from e18)
  clear hK hC hW hL HV s0 s1 f7 f15 f23 f24
  rw [HFR.out, e18]
  clear e18
  have hcl := (Cs.ext HC0.out hB).cell 2 _ rfl
  clear hB
  go_wp2_with fail
  show K _ _; have := H.out _ (Ext.refl _); rw [HFR.out] at this
  obtain u18 := HU.out
  rw [u18] at this
  exact this
 ·rintro L A W K hL hC hW ⟨V, rfl, HV, s0, s1, f7, f15, f23, f24⟩ hK
  have e19 := HV 19 _ rfl (hW 19 rfl)
  have H := Lib.hid (show ∀ W', Ext W W' → K (fr (upd V 20 (.int .i64 (x.p.length : Nat)))) W' from fun W' he => hK _ _ ⟨_, rfl, HV.us 20 _ rfl, fun h0 => Ext.trans (s0 (mnf h0 rfl)) he, fun h0 => XoJ.ext (s1 (more_ne h0 rfl)) he, fun h0 h1 => OwnA.ext (f7 (mnf h0 rfl) (more_ne h1 rfl)) he, fun h0 h1 => OwnS.ext (f15 (mnf h0 rfl) (more_ne h1 rfl)) he, fun h0 h1 => OwnP.ext (f23 (mnf h0 rfl) (more_ne h1 rfl)) he, fun h0 h1 => RetX.ext (f24 (mnf h0 rfl) (more_ne h1 rfl)) he⟩)
  have HU := Lib.hid (show (upd V 20 (.int .i64 (x.p.length : Nat))) 19 = .slice A3 x.p.length c3 from e19)
  clear hK hC hW hL HV s0 s1 f7 f15 f23 f24
  rw [HFR.out, e19]
  clear e19
  go_wp2_with fail
  show K _ _; have := H.out _ (Ext.refl _); rw [HFR.out] at this
  obtain u19 := HU.out
  rw [u19] at this
  exact this
 ·rintro L A W K hL hC hW ⟨V, rfl, HV, s0, s1, f7, f15, f23, f24⟩ hK
  have e20 := HV 20 _ rfl (hW 20 rfl)
  have hB := s0 (hC.no (hC.no (hC.no (hC.no hL 22 _ rfl rfl) 23 _ rfl rfl) 24 _ rfl rfl) 25 _ rfl rfl)
  have H := Lib.hid (show ∀ W', Ext W W' → K (fr (upd V 21 (.int .i64 (lp.length : Nat)))) W' from fun W' he => hK _ _ ⟨_, rfl, HV.us 21 _ rfl, fun h0 => Ext.trans (s0 (mnf h0 rfl)) he, fun h0 => XoJ.ext (s1 (more_ne h0 rfl)) he, fun h0 h1 => OwnA.ext (f7 (mnf h0 rfl) (more_ne h1 rfl)) he, fun h0 h1 => OwnS.ext (f15 (mnf h0 rfl) (more_ne h1 rfl)) he, fun h0 h1 => OwnP.ext (f23 (mnf h0 rfl) (more_ne h1 rfl)) he, fun h0 h1 => RetX.ext (f24 (mnf h0 rfl) (more_ne h1 rfl)) he⟩)
  have HU := Lib.hid (show (upd V 21 (.int .i64 (lp.length : Nat))) 20 = .int .i64 (x.p.length : Nat) from e20)
  clear hK hC hW hL HV s0 s1 f7 f15 f23 f24
  rw [HFR.out, e20]
  clear e20
  have hm := HM3.out.1
  go_wp2_with fail
  show K _ _; have := H.out _ (Ext.refl _); rw [HFR.out] at this
  obtain u20 := HU.out
  rw [u20] at this
  exact this
 ·rintro L A W K hL hC hW ⟨V, rfl, HV, s0, s1, f7, f15, f23, f24⟩ hK
  have e17 := HV 17 _ rfl (hW 17 rfl)
  have e21 := HV 21 _ rfl (hW 21 rfl)
  have hB := s0 (hC.no (hC.no (hC.no hL 23 _ rfl rfl) 24 _ rfl rfl) 25 _ rfl rfl)
  have H := Lib.hid (show ∀ W', Ext W W' → K (fr (upd V 22 (.slice A3 lp.length c3))) W' from fun W' he => hK _ _ ⟨_, rfl, HV.us 22 _ rfl, fun h0 => Ext.trans (s0 (mnf h0 rfl)) he, fun h0 => XoJ.ext (s1 (more_ne h0 rfl)) he, fun h0 h1 => OwnA.ext (f7 (mnf h0 rfl) (more_ne h1 rfl)) he, fun h0 h1 => OwnS.ext (f15 (mnf h0 rfl) (more_ne h1 rfl)) he, fun h0 h1 => OwnP.ext (f23 (mnf h0 rfl) (more_ne h1 rfl)) he, fun h0 h1 => RetX.ext (f24 (mnf h0 rfl) (more_ne h1 rfl)) he⟩)
  have HU := Lib.hid (show (upd V 22 (.slice A3 lp.length c3)) 17 = .slice A3 x.p.length c3 ∧ (upd V 22 (.slice A3 lp.length c3)) 21 = .int .i64 (lp.length : Nat) from ⟨e17, e21⟩)
  clear hK hC hW hL HV s0 s1 f7 f15 f23 f24
  rw [HFR.out, e17, e21]
  clear e17 e21
  have hm := HM3.out.2
  go_wp2_with fail
  show K _ _; have := H.out _ (Ext.refl _); rw [HFR.out] at this
  obtain ⟨u17, u21⟩ := HU.out
  rw [u17, u21] at this
  exact this
 ·rintro L A W K hL hC hW ⟨V, rfl, HV, s0, s1, f7, f15, f23, f24⟩ hK
  have e22 := HV 22 _ rfl (hW 22 rfl)
  have hB := s0 (hC.no (hC.no hL 24 _ rfl rfl) 25 _ rfl rfl)
  have H := Lib.hid (show ∀ v W', Ext W W' → (OwnP W' w0.heap.size v lp) → K (fr (upd V 23 v)) W' from fun v W' he hp => hK _ _ ⟨_, rfl, HV.un 23 _ rfl, fun h0 => Ext.trans (s0 (mnf h0 rfl)) he, fun h0 => XoJ.ext (s1 (more_ne h0 rfl)) he, fun h0 h1 => OwnA.ext (f7 (mnf h0 rfl) (more_ne h1 rfl)) he, fun h0 h1 => OwnS.ext (f15 (mnf h0 rfl) (more_ne h1 rfl)) he, fun h0 h1 => hp, fun h0 h1 => RetX.ext (f24 (mnf h0 rfl) (more_ne h1 rfl)) he⟩)
  have HU := Lib.hid (show ∀ v, (upd V 23 v) 22 = .slice A3 lp.length c3 from fun v => e22)
  clear hK hC hW hL HV s0 s1 f7 f15 f23 f24
  rw [HFR.out, e22]
  clear e22
  have HB := Lib.hid hB
  clear hB
  go_wp2_with fail
  refine (jcloneP_any _ lp.length (fP lp) _ (HX3.out.rs.ext (HE0.out.trans HB.out)) (fP_one _) HL3.out).mono ?_
  rintro e wx ⟨vx, rfl, ho, he⟩
  have := H.out _ _ he (⟨own_mono ho HB.out.size, HX3.out.oks⟩)
  clear H
  go_wp2_with fail
  show K _ _
  rw [HFR.out] at this
  obtain u22 := HU.out _
  rw [u22] at this
  exact this
 ·rintro L A W K hL hC hW ⟨V, rfl, HV, s0, s1, f7, f15, f23, f24⟩ hK
  have q7 := f7 (hC.no hL 25 _ rfl rfl) (hW 7 rfl)
  obtain ⟨A7, c7, e7, z7⟩ := q7.shp
  have q15 := f15 (hC.no hL 25 _ rfl rfl) (hW 15 rfl)
  obtain ⟨A15, c15, e15, z15⟩ := q15.shp
  have q23 := f23 (hC.no hL 25 _ rfl rfl) (hW 23 rfl)
  obtain ⟨A23, c23, e23, z23⟩ := q23.shp
  have H := Lib.hid (show ∀ v W', Ext W W' → (RetX w0.heap.size W' v ⟨la, ls, lp⟩) → K (fr (upd V 24 v)) W' from fun v W' he hp => hK _ _ ⟨_, rfl, HV.un 24 _ rfl, fun h0 => Ext.trans (s0 (mnf h0 rfl)) he, fun h0 => XoJ.ext (s1 (more_ne h0 rfl)) he, fun h0 h1 => OwnA.ext (f7 (mnf h0 rfl) (more_ne h1 rfl)) he, fun h0 h1 => OwnS.ext (f15 (mnf h0 rfl) (more_ne h1 rfl)) he, fun h0 h1 => OwnP.ext (f23 (mnf h0 rfl) (more_ne h1 rfl)) he, fun h0 h1 => hp⟩)
  have HU := Lib.hid (show ∀ v, (upd V 24 v) 7 = .slice A7 la.length c7 ∧ (upd V 24 v) 15 = .slice A15 ls.length c15 ∧ (upd V 24 v) 23 = .slice A23 lp.length c23 from fun v => ⟨e7, e15, e23⟩)
  clear hK hC hW hL HV s0 s1 f7 f15 f23 f24
  rw [HFR.out, e7, e15, e23]
  clear e7 e15 e23
  go_wp2_with fail
  show K _ _; have := H.out (.agg #[.slice A7 la.length c7, .slice A15 ls.length c15, .slice A23 lp.length c23]) _ (Ext.refl _) (⟨_, _, _, rfl, z7, z15, z23⟩); rw [HFR.out] at this
  obtain ⟨u7, u15, u23⟩ := HU.out _
  rw [u7, u15, u23] at this
  exact this
 ·rintro L A W K hL hC hW ⟨V, rfl, HV, s0, s1, f7, f15, f23, f24⟩ hK
  have hB := s0 hL
  have q24 := f24 hL (hW 24 rfl)
  obtain ⟨a24, s24, p24, e24, x24, y24, z24⟩ := q24
  have H := Lib.hid (show ∀ W', (XoJ ⟨la, ls, lp⟩ w w0.heap.size (w.heap.size + 1) W') → K (fr (V)) W' from fun W' hA => hK _ _ ⟨V, rfl, HV.st 25 rfl, fun h0 => msf h0, fun h0 => hA, fun h0 h1 => msf h0, fun h0 h1 => msf h0, fun h0 h1 => msf h0, fun h0 h1 => msf h0⟩)
  have HU := Lib.hid (show (V) 24 = .agg #[a24, s24, p24] from e24)
  clear hK hC hW hL HV s0 s1 f7 f15 f23 f24
  rw [HFR.out, e24]
  clear e24
  have HB := Lib.hid hB
  have O1 := Lib.hid x24
  have O2 := Lib.hid y24
  have O3 := Lib.hid z24
  clear hB x24 y24 z24
  go_wp2_with ((with_reducible refine wpList_storeX ?_ ?_ (.tmp 2) (.tmp 27) ?_ (w.heap.size + 1) (.slice none 0 0) (.slice none 0 0) (.slice none 0 0) a24 s24 p24 ?_ ?_ O1.out.one O2.out.one O3.out.one (Cs.ext HR0.out HB.out) ?_); (exact rfl); (exact rfl); (exact rfl); (exact rfl); (exact rfl); intro w3 k3 g3; have K3 := Lib.hid k3; have G3 := Lib.hid g3; clear k3 g3)
  have HA := Lib.hid (show XoJ ⟨la, ls, lp⟩ w w0.heap.size (w.heap.size + 1) w3 from ⟨a24, s24, p24, K3.out, RetX.old ⟨_, _, _, rfl, O1.out, O2.out, O3.out⟩ G3.out HG2.out.2, (HE0.out.trans HB.out).grown G3.out HG2.out.1⟩)
  show K _ _; have := H.out _ HA.out; rw [HFR.out] at this
  obtain u24 := HU.out
  rw [u24] at this
  exact this
 ·rintro L A W hL ⟨V, rfl, HV, s0, s1, f7, f15, f23, f24⟩
  have e0 := HV 0 _ rfl (hL 0 (by simp))
  have e1 := HV 1 _ rfl (hL 1 (by simp))
  have e2 := HV 2 _ rfl (hL 2 (by simp))
  have e3 := HV 3 _ rfl (hL 3 (by simp))
  have e4 := HV 4 _ rfl (hL 4 (by simp))
  have e5 := HV 5 _ rfl (hL 5 (by simp))
  have e6 := HV 6 _ rfl (hL 6 (by simp))
  have e8 := HV 8 _ rfl (hL 8 (by simp))
  have e9 := HV 9 _ rfl (hL 9 (by simp))
  have e10 := HV 10 _ rfl (hL 10 (by simp))
  have e11 := HV 11 _ rfl (hL 11 (by simp))
  have e12 := HV 12 _ rfl (hL 12 (by simp))
  have e13 := HV 13 _ rfl (hL 13 (by simp))
  have e14 := HV 14 _ rfl (hL 14 (by simp))
  have e16 := HV 16 _ rfl (hL 16 (by simp))
  have e17 := HV 17 _ rfl (hL 17 (by simp))
  have e18 := HV 18 _ rfl (hL 18 (by simp))
  have e19 := HV 19 _ rfl (hL 19 (by simp))
  have e20 := HV 20 _ rfl (hL 20 (by simp))
  have e21 := HV 21 _ rfl (hL 21 (by simp))
  have e22 := HV 22 _ rfl (hL 22 (by simp))
  have hA := s1 (hL 25 (by simp))
  rw [HFR.out, e0, e1, e2, e3, e4, e5, e6, e8, e9, e10, e11, e12, e13, e14, e16, e17, e18, e19, e20, e21, e22]
  clear hL HV HFR e0 e1 e2 e3 e4 e5 e6 e8 e9 e10 e11 e12 e13 e14 e16 e17 e18 e19 e20 e21 e22 s0 s1 f7 f15 f23 f24
  obtain ⟨a, s, p, k1, k2, k3⟩ := hA
  have K1 := Lib.hid k1
  have K2 := Lib.hid k2
  have K3 := Lib.hid k3
  clear k1 k2 k3
  go_wp2_with fail
  refine bodyPost_ret (results_axo Tryz.results22 _ _ (w.heap.size + 1) _ _ _ rfl K1.out) rfl ?_
  rw [HCU.out]
  exact ⟨_, rfl, K2.out.low HE0.out.size, K3.out⟩
end Go.Proofs.YtnjpdchmdimaaaaGreat
