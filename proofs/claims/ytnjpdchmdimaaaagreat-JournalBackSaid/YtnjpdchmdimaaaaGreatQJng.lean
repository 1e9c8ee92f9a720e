/- Package journal: worlds and points in memory of their own. -/
import Derived.Test.YtnjpdchmdimaaaaGreatQJnf
namespace Go.Proofs.YtnjpdchmdimaaaaGreat
open Go.ChangeShapes Go.WideShapes Go.ChangeAt Go.RowKit Go.Shelf

def RetWo (lo : Nat) (W : World) (v : Value) (o : Wo) : Prop := ∃ a b c, v = .agg #[a, b, c] ∧ RowO 79 8 AcR No lo W a o.s ∧ OwnH W lo b o.g ∧ OwnN W lo c o.n
theorem RetWo.ext {lo : Nat} {W W' : World} {v : Value} {o : Wo} (h : RetWo lo W v o) (he : Ext W W') : RetWo lo W' v o := by
 obtain ⟨a, b, c, e, h1, h2, h3⟩ := h
 exact ⟨a, b, c, e, h1.ext he, h2.ext he, h3.ext he⟩
theorem RetWo.low {lo lo' : Nat} {W : World} {v : Value} {o : Wo} (h : RetWo lo W v o) (hl : lo' ≤ lo) : RetWo lo' W v o := by
 obtain ⟨a, b, c, e, h1, h2, h3⟩ := h
 exact ⟨a, b, c, e, h1.low hl, h2.mono hl, h3.mono hl⟩
theorem rowO_old {α : Type} {E : TypeId} {s lo g : Nat} {Rd : World → List Value → α → Prop} {W W' : World} {v : Value} {l : List α} (h : RowO E s Rd No lo W v l) (hg : W.grownBy W' (some g)) (hl : g < lo) : RowO E s Rd No lo W' v l :=
 h.old hg (.inl hl) (fun e => by have := (h.lt g e).1; omega)
theorem RetWo.old {lo g : Nat} {W W' : World} {v : Value} {o : Wo} (h : RetWo lo W v o) (hg : W.grownBy W' (some g)) (hl : g < lo) : RetWo lo W' v o := by
 obtain ⟨a, b, c, e, h1, h2, h3⟩ := h
 exact ⟨a, b, c, e, rowO_old h1 hg hl, ⟨own_low h2.1 hg hl, h2.2⟩, ⟨own_low h3.1 hg hl, h3.2⟩⟩
theorem RetX.old {lo g : Nat} {W W' : World} {v : Value} {x : Ax} (h : RetX lo W v x) (hg : W.grownBy W' (some g)) (hl : g < lo) : RetX lo W' v x := by
 obtain ⟨a, b, c, e, h1, h2, h3⟩ := h
 exact ⟨a, b, c, e, ⟨own_low h1.1 hg hl, h1.2⟩, ⟨own_low h2.1 hg hl, h2.2⟩, ⟨own_low h3.1 hg hl, h3.2⟩⟩
theorem rowO_shp {α : Type} {E : TypeId} {s lo : Nat} {Rd : World → List Value → α → Prop} {W : World} {v : Value} {l : List α} (h : RowO E s Rd No lo W v l) : ∃ A c, v = .slice A l.length c := by
 obtain ⟨A, c, e, _⟩ := h.sl
 exact ⟨A, c, e⟩
theorem RetWo.one {lo : Nat} {W : World} {a b c : Value} {o : Wo} (h : RetWo lo W (.agg #[a, b, c]) o) : (#[a, b, c] : Array Value).all (·.oneCell') = true := by
 obtain ⟨a', b', c', e, h1, h2, h3⟩ := h
 obtain ⟨rfl, rfl, rfl⟩ : a = a' ∧ b = b' ∧ c = c' := by simpa using e
 obtain ⟨A1, c1, rfl⟩ := rowO_shp h1
 obtain ⟨A2, c2, rfl, _⟩ := h2.sl
 obtain ⟨A3, c3, rfl, _⟩ := h3.sl
 simp only [List.all_toArray, List.all_cons, List.all_nil, Bool.and_true]
 rfl
theorem RetX.one {lo : Nat} {W : World} {a b c : Value} {x : Ax} (h : RetX lo W (.agg #[a, b, c]) x) : a.oneCell' = true ∧ b.oneCell' = true ∧ c.oneCell' = true := by
 obtain ⟨a', b', c', e, h1, h2, h3⟩ := h
 obtain ⟨rfl, rfl, rfl⟩ : a = a' ∧ b = b' ∧ c = c' := by simpa using e
 exact ⟨h1.one, h2.one, h3.one⟩
theorem RetWo.wor {lo : Nat} {W : World} {a b c : Value} {o : Wo} (h : RetWo lo W (.agg #[a, b, c]) o) : WoR W a b c o := by
 obtain ⟨a', b', c', e, h1, h2, h3⟩ := h
 obtain ⟨rfl, rfl, rfl⟩ : a = a' ∧ b = b' ∧ c = c' := by simpa using e
 exact ⟨h1.sl, h2.hds, h3.nns⟩
theorem RetX.axr {lo : Nat} {W : World} {a b c : Value} {x : Ax} (h : RetX lo W (.agg #[a, b, c]) x) : AxR W a b c x := by
 obtain ⟨a', b', c', e, h1, h2, h3⟩ := h
 obtain ⟨rfl, rfl, rfl⟩ : a = a' ∧ b = b' ∧ c = c' := by simpa using e
 exact ⟨h1.xs, h2.xs, h3.xs⟩
def RetPo (lo : Nat) (W : World) (v : Value) (p : Po) : Prop := ∃ a b c d e f, v = .agg #[a, b, c, d, e, f] ∧ RetWo lo W (.agg #[a, b, c]) p.w ∧ RetX lo W (.agg #[d, e, f]) p.x
theorem RetPo.ext {lo : Nat} {W W' : World} {v : Value} {p : Po} (h : RetPo lo W v p) (he : Ext W W') : RetPo lo W' v p := by
 obtain ⟨a, b, c, d, e, f, q, h1, h2⟩ := h
 exact ⟨a, b, c, d, e, f, q, h1.ext he, h2.ext he⟩
theorem RetPo.low {lo lo' : Nat} {W : World} {v : Value} {p : Po} (h : RetPo lo W v p) (hl : lo' ≤ lo) : RetPo lo' W v p := by
 obtain ⟨a, b, c, d, e, f, q, h1, h2⟩ := h
 exact ⟨a, b, c, d, e, f, q, h1.low hl, h2.low hl⟩
theorem RetPo.old {lo g : Nat} {W W' : World} {v : Value} {p : Po} (h : RetPo lo W v p) (hg : W.grownBy W' (some g)) (hl : g < lo) : RetPo lo W' v p := by
 obtain ⟨a, b, c, d, e, f, q, h1, h2⟩ := h
 exact ⟨a, b, c, d, e, f, q, h1.old hg hl, h2.old hg hl⟩
def XoJ (x : Ax) (w : World) (lo g : Nat) (W : World) : Prop := ∃ a s p, Cs W g 35 #[a, s, p] ∧ RetX lo W (.agg #[a, s, p]) x ∧ Ext w W
theorem XoJ.ext {x : Ax} {w : World} {lo g : Nat} {W W' : World} (h : XoJ x w lo g W) (he : Ext W W') : XoJ x w lo g W' := by
 obtain ⟨a, s, p, h1, h2, h3⟩ := h
 exact ⟨a, s, p, Cs.ext h1 he, h2.ext he, h3.trans he⟩
def PoJ (p : Po) (w : World) (lo g : Nat) (W : World) : Prop := ∃ a b c d e f, Cs W g 37 #[a, b, c, d, e, f] ∧ RetPo lo W (.agg #[a, b, c, d, e, f]) p ∧ Ext w W
theorem PoJ.ext {p : Po} {w : World} {lo g : Nat} {W W' : World} (h : PoJ p w lo g W) (he : Ext W W') : PoJ p w lo g W' := by
 obtain ⟨a, b, c, d, e, f, h1, h2, h3⟩ := h
 exact ⟨a, b, c, d, e, f, Cs.ext h1 he, h2.ext he, h3.trans he⟩
set_option maxRecDepth 100000 in
theorem infoXr : (Tryz.prog.info? 35).map (·.size) = some 3 := by kernel_rfl
set_option maxRecDepth 100000 in
theorem results_axo {fn : Func} {p : Tmp} (h : fn.results = #[.cell p 35]) (tmps : Array Value) (w : World) (g : Nat) (u v z : Value) (hp : tmps.getD p undef = .pointer (some ⟨g, 0, none⟩)) (hg : Cs w g 35 #[u, v, z]) : (results fn tmps).run Tryz.prog w = .ok (.agg #[u, v, z]) w :=
 results_cell_row h tmps w g 35 #[u, v, z] (0, 0) _ hp hg Tryz.underlying35 rfl infoXr
set_option maxRecDepth 100000 in
theorem results_woo {fn : Func} {p : Tmp} (h : fn.results = #[.cell p 30]) (tmps : Array Value) (w : World) (g : Nat) (u v z : Value) (hp : tmps.getD p undef = .pointer (some ⟨g, 0, none⟩)) (hg : Cs w g 30 #[u, v, z]) : (results fn tmps).run Tryz.prog w = .ok (.agg #[u, v, z]) w :=
 results_cell_row h tmps w g 30 #[u, v, z] (0, 0) _ hp hg Tryz.underlying30 rfl infoWo
set_option maxRecDepth 100000 in
theorem results_poo {fn : Func} {q : Tmp} (h : fn.results = #[.cell q 37]) (tmps : Array Value) (w : World) (g : Nat) (a b c d e f : Value) (hp : tmps.getD q undef = .pointer (some ⟨g, 0, none⟩)) (hg : Cs w g 37 #[a, b, c, d, e, f]) : (results fn tmps).run Tryz.prog w = .ok (.agg #[a, b, c, d, e, f]) w :=
 results_cell_row h tmps w g 37 #[a, b, c, d, e, f] (0, 0) _ hp hg Tryz.underlying37 rfl infoPo
set_option maxRecDepth 100000 in
set_option maxHeartbeats 8000000 in
theorem ownAx_any (va vs vp : Value) (x : Ax) (w : World) (hx : AxR w va vs vp x) (h1 : x.a.length ≤ 1000000000) (h2 : x.s.length ≤ 1000000000) (h3 : x.p.length ≤ 1000000000) :
  Calls Tryz.prog 134 #[.agg #[va, vs, vp]] w fun e w' => ∃ v', e = .returned v' ∧ RetX w.heap.size w' v' x ∧ Ext w w' := by
 have HX := Lib.hid hx
 have HL1 := Lib.hid h1
 have HL2 := Lib.hid h2
 have HL3 := Lib.hid h3
 obtain ⟨A1, c1, rfl, _, _⟩ := hx.1.len
 obtain ⟨A2, c2, rfl, _, _⟩ := hx.2.1.len
 obtain ⟨A3, c3, rfl, _, _⟩ := hx.2.2.len
 obtain ⟨w0, hw0⟩ : ∃ w0, (w.alloc (.cells #[.slice A1 x.a.length c1, .slice A2 x.s.length c2, .slice A3 x.p.length c3] 35)).alloc (.cells #[.slice none 0 0, .slice none 0 0, .slice none 0 0] 35) = w0 := ⟨_, rfl⟩
 have HC0 : Hid (Cs w0 w.heap.size 35 #[.slice A1 x.a.length c1, .slice A2 x.s.length c2, .slice A3 x.p.length c3]) := Lib.hid (by rw [← hw0]; exact Cs.alloc (Cs.new _ _ _ _ rfl) _)
 have HR0 : Hid (Cs w0 (w.heap.size + 1) 35 #[.slice none 0 0, .slice none 0 0, .slice none 0 0]) := Lib.hid (by rw [← hw0]; exact Cs.new _ _ _ _ (by simp))
 have HE0 : Hid (Ext w w0) := Lib.hid (by rw [← hw0]; exact ((Ext.refl w).alloc _).alloc _)
 have HG2 : Hid (w.heap.size ≤ w.heap.size + 1 ∧ w.heap.size + 1 < w0.heap.size) := Lib.hid ⟨Nat.le_succ _, HR0.out.lt⟩
 have HW0 := Lib.hid hw0
 clear hx hw0 h1 h2 h3
 go_enter Tryz.func134, Tryz.ntmps134
 go_upto_region 1 with fail
 rw [HW0.out]
 clear HW0
 refine wp_named fun a0 ha0 => ?_
 obtain ⟨fr, hfr⟩ : ∃ fr : (Nat → Value) → Act, ∀ V, fr V = ((((((((((a0.put (some 3) (V 0)).put (some 4) (V 1)).put (some 5) (V 2)).put (some 6) (V 3)).put (some 7) (V 4)).put (some 8) (V 5)).put (some 9) (V 6)).put (some 10) (V 7)).put (some 11) (V 8)).put (some 12) (V 9)) := ⟨_, fun _ => rfl⟩
 rw [ha0] at hfr
 simp only [Act.put, List.setIfInBounds_toArray, List.set_cons_zero, List.set_cons_succ] at hfr
 have HFR := Lib.hid hfr
 clear hfr
 refine wp_region_inv (by kernel_rfl) (by kernel_rfl) (fun L A W => ∃ V : Nat → Value, A = fr V ∧ Vals (fun j => ([some (.pointer (some ⟨w.heap.size, 0, none⟩)), some (.slice A1 x.a.length c1), none, some (.pointer (some ⟨w.heap.size, 1, none⟩)), some (.slice A2 x.s.length c2), none, some (.pointer (some ⟨w.heap.size, 2, none⟩)), some (.slice A3 x.p.length c3), none, none, none] : List (Option Value)).getD j none) L V ∧ (L 10 = false → Ext w0 W) ∧ (L 10 = true → XoJ x w w0.heap.size (w.heap.size + 1) W) ∧ (L 10 = false → L 2 = true → OwnA W w0.heap.size (V 2) x.a) ∧ (L 10 = false → L 5 = true → OwnS W w0.heap.size (V 5) x.s) ∧ (L 10 = false → L 8 = true → OwnP W w0.heap.size (V 8) x.p) ∧ (L 10 = false → L 9 = true → RetX w0.heap.size W (V 9) x)) ?_ ⟨?_, ?_, ?_, ?_, ?_, ?_, ?_, ?_, ?_, ?_, ?_, trivial⟩ ?_
 ·refine ⟨fun j => a0.tmps.getD (([3, 4, 5, 6, 7, 8, 9, 10, 11, 12, 0] : List Nat).getD j 0) undef, ?_, Vals.no _ _ _ (far_none _ _ rfl), fun _ => (Ext.refl _).drew, fun h0 => absurd h0 (by decide), fun h0 h1 => absurd h1 (by decide), fun h0 h1 => absurd h1 (by decide), fun h0 h1 => absurd h1 (by decide), fun h0 h1 => absurd h1 (by decide)⟩
  rw [HFR.out, ha0]
  rfl
 all_goals clear ha0
 ·rintro L A W K hL hC hW ⟨V, rfl, HV, s0, s1, f2, f5, f8, f9⟩ hK
  have H := Lib.hid (show ∀ W', Ext W W' → K (fr (upd V 0 (.pointer (some ⟨w.heap.size, 0, none⟩)))) W' from fun W' he => hK _ _ ⟨_, rfl, HV.us 0 _ rfl, fun h0 => Ext.trans (s0 (mnf h0 rfl)) he, fun h0 => XoJ.ext (s1 (more_ne h0 rfl)) he, fun h0 h1 => OwnA.ext (f2 (mnf h0 rfl) (more_ne h1 rfl)) he, fun h0 h1 => OwnS.ext (f5 (mnf h0 rfl) (more_ne h1 rfl)) he, fun h0 h1 => OwnP.ext (f8 (mnf h0 rfl) (more_ne h1 rfl)) he, fun h0 h1 => RetX.ext (f9 (mnf h0 rfl) (more_ne h1 rfl)) he⟩)
  clear hK hC hW hL HV s0 s1 f2 f5 f8 f9
  rw [HFR.out]
  go_wp2_with fail
  show K _ _; have := H.out _ (Ext.refl _); rw [HFR.out] at this
  exact this
 ·rintro L A W K hL hC hW ⟨V, rfl, HV, s0, s1, f2, f5, f8, f9⟩ hK
  have e0 := HV 0 _ rfl (hW 0 rfl)
  have hB := s0 (hC.no (hC.no (hC.no hL 2 _ rfl rfl) 9 _ rfl rfl) 10 _ rfl rfl)
  have H := Lib.hid (show ∀ W', Ext W W' → K (fr (upd V 1 (.slice A1 x.a.length c1))) W' from fun W' he => hK _ _ ⟨_, rfl, HV.us 1 _ rfl, fun h0 => Ext.trans (s0 (mnf h0 rfl)) he, fun h0 => XoJ.ext (s1 (more_ne h0 rfl)) he, fun h0 h1 => OwnA.ext (f2 (mnf h0 rfl) (more_ne h1 rfl)) he, fun h0 h1 => OwnS.ext (f5 (mnf h0 rfl) (more_ne h1 rfl)) he, fun h0 h1 => OwnP.ext (f8 (mnf h0 rfl) (more_ne h1 rfl)) he, fun h0 h1 => RetX.ext (f9 (mnf h0 rfl) (more_ne h1 rfl)) he⟩)
  have HU := Lib.hid (show (upd V 1 (.slice A1 x.a.length c1)) 0 = .pointer (some ⟨w.heap.size, 0, none⟩) from e0)
  clear hK hC hW hL HV s0 s1 f2 f5 f8 f9
  rw [HFR.out, e0]
  clear e0
  have hcl := (Cs.ext HC0.out hB).cell 0 _ rfl
  clear hB
  go_wp2_with fail
  show K _ _; have := H.out _ (Ext.refl _); rw [HFR.out] at this
  obtain u0 := HU.out
  rw [u0] at this
  exact this
 ·rintro L A W K hL hC hW ⟨V, rfl, HV, s0, s1, f2, f5, f8, f9⟩ hK
  have e1 := HV 1 _ rfl (hW 1 rfl)
  have hB := s0 (hC.no (hC.no hL 9 _ rfl rfl) 10 _ rfl rfl)
  have H := Lib.hid (show ∀ v W', Ext W W' → (OwnA W' w0.heap.size v x.a) → K (fr (upd V 2 v)) W' from fun v W' he hp => hK _ _ ⟨_, rfl, HV.un 2 _ rfl, fun h0 => Ext.trans (s0 (mnf h0 rfl)) he, fun h0 => XoJ.ext (s1 (more_ne h0 rfl)) he, fun h0 h1 => hp, fun h0 h1 => OwnS.ext (f5 (mnf h0 rfl) (more_ne h1 rfl)) he, fun h0 h1 => OwnP.ext (f8 (mnf h0 rfl) (more_ne h1 rfl)) he, fun h0 h1 => RetX.ext (f9 (mnf h0 rfl) (more_ne h1 rfl)) he⟩)
  have HU := Lib.hid (show ∀ v, (upd V 2 v) 1 = .slice A1 x.a.length c1 from fun v => e1)
  clear hK hC hW hL HV s0 s1 f2 f5 f8 f9
  rw [HFR.out, e1]
  clear e1
  have HB := Lib.hid hB
  clear hB
  go_wp2_with fail
  refine (jownA_any _ x.a _ (HX.out.1.ext (HE0.out.trans HB.out)) HL1.out).mono ?_
  rintro e wx ⟨vx, rfl, ho, he⟩
  have := H.out _ _ he (ho.mono HB.out.size)
  clear H
  go_wp2_with fail
  show K _ _
  rw [HFR.out] at this
  obtain u1 := HU.out _
  rw [u1] at this
  exact this
 ·rintro L A W K hL hC hW ⟨V, rfl, HV, s0, s1, f2, f5, f8, f9⟩ hK
  have H := Lib.hid (show ∀ W', Ext W W' → K (fr (upd V 3 (.pointer (some ⟨w.heap.size, 1, none⟩)))) W' from fun W' he => hK _ _ ⟨_, rfl, HV.us 3 _ rfl, fun h0 => Ext.trans (s0 (mnf h0 rfl)) he, fun h0 => XoJ.ext (s1 (more_ne h0 rfl)) he, fun h0 h1 => OwnA.ext (f2 (mnf h0 rfl) (more_ne h1 rfl)) he, fun h0 h1 => OwnS.ext (f5 (mnf h0 rfl) (more_ne h1 rfl)) he, fun h0 h1 => OwnP.ext (f8 (mnf h0 rfl) (more_ne h1 rfl)) he, fun h0 h1 => RetX.ext (f9 (mnf h0 rfl) (more_ne h1 rfl)) he⟩)
  clear hK hC hW hL HV s0 s1 f2 f5 f8 f9
  rw [HFR.out]
  go_wp2_with fail
  show K _ _; have := H.out _ (Ext.refl _); rw [HFR.out] at this
  exact this
 ·rintro L A W K hL hC hW ⟨V, rfl, HV, s0, s1, f2, f5, f8, f9⟩ hK
  have e3 := HV 3 _ rfl (hW 3 rfl)
  have hB := s0 (hC.no (hC.no (hC.no hL 5 _ rfl rfl) 9 _ rfl rfl) 10 _ rfl rfl)
  have H := Lib.hid (show ∀ W', Ext W W' → K (fr (upd V 4 (.slice A2 x.s.length c2))) W' from fun W' he => hK _ _ ⟨_, rfl, HV.us 4 _ rfl, fun h0 => Ext.trans (s0 (mnf h0 rfl)) he, fun h0 => XoJ.ext (s1 (more_ne h0 rfl)) he, fun h0 h1 => OwnA.ext (f2 (mnf h0 rfl) (more_ne h1 rfl)) he, fun h0 h1 => OwnS.ext (f5 (mnf h0 rfl) (more_ne h1 rfl)) he, fun h0 h1 => OwnP.ext (f8 (mnf h0 rfl) (more_ne h1 rfl)) he, fun h0 h1 => RetX.ext (f9 (mnf h0 rfl) (more_ne h1 rfl)) he⟩)
  have HU := Lib.hid (show (upd V 4 (.slice A2 x.s.length c2)) 3 = .pointer (some ⟨w.heap.size, 1, none⟩) from e3)
  clear hK hC hW hL HV s0 s1 f2 f5 f8 f9
  rw [HFR.out, e3]
  clear e3
  have hcl := (Cs.ext HC0.out hB).cell 1 _ rfl
  clear hB
  go_wp2_with fail
  show K _ _; have := H.out _ (Ext.refl _); rw [HFR.out] at this
  obtain u3 := HU.out
  rw [u3] at this
  exact this
 ·rintro L A W K hL hC hW ⟨V, rfl, HV, s0, s1, f2, f5, f8, f9⟩ hK
  have e4 := HV 4 _ rfl (hW 4 rfl)
  have hB := s0 (hC.no (hC.no hL 9 _ rfl rfl) 10 _ rfl rfl)
  have H := Lib.hid (show ∀ v W', Ext W W' → (OwnS W' w0.heap.size v x.s) → K (fr (upd V 5 v)) W' from fun v W' he hp => hK _ _ ⟨_, rfl, HV.un 5 _ rfl, fun h0 => Ext.trans (s0 (mnf h0 rfl)) he, fun h0 => XoJ.ext (s1 (more_ne h0 rfl)) he, fun h0 h1 => OwnA.ext (f2 (mnf h0 rfl) (more_ne h1 rfl)) he, fun h0 h1 => hp, fun h0 h1 => OwnP.ext (f8 (mnf h0 rfl) (more_ne h1 rfl)) he, fun h0 h1 => RetX.ext (f9 (mnf h0 rfl) (more_ne h1 rfl)) he⟩)
  have HU := Lib.hid (show ∀ v, (upd V 5 v) 4 = .slice A2 x.s.length c2 from fun v => e4)
  clear hK hC hW hL HV s0 s1 f2 f5 f8 f9
  rw [HFR.out, e4]
  clear e4
  have HB := Lib.hid hB
  clear hB
  go_wp2_with fail
  refine (jownS_any _ x.s _ (HX.out.2.1.ext (HE0.out.trans HB.out)) HL2.out).mono ?_
  rintro e wx ⟨vx, rfl, ho, he⟩
  have := H.out _ _ he (ho.mono HB.out.size)
  clear H
  go_wp2_with fail
  show K _ _
  rw [HFR.out] at this
  obtain u4 := HU.out _
  rw [u4] at this
  exact this
 ·rintro L A W K hL hC hW ⟨V, rfl, HV, s0, s1, f2, f5, f8, f9⟩ hK
  have H := Lib.hid (show ∀ W', Ext W W' → K (fr (upd V 6 (.pointer (some ⟨w.heap.size, 2, none⟩)))) W' from fun W' he => hK _ _ ⟨_, rfl, HV.us 6 _ rfl, fun h0 => Ext.trans (s0 (mnf h0 rfl)) he, fun h0 => XoJ.ext (s1 (more_ne h0 rfl)) he, fun h0 h1 => OwnA.ext (f2 (mnf h0 rfl) (more_ne h1 rfl)) he, fun h0 h1 => OwnS.ext (f5 (mnf h0 rfl) (more_ne h1 rfl)) he, fun h0 h1 => OwnP.ext (f8 (mnf h0 rfl) (more_ne h1 rfl)) he, fun h0 h1 => RetX.ext (f9 (mnf h0 rfl) (more_ne h1 rfl)) he⟩)
  clear hK hC hW hL HV s0 s1 f2 f5 f8 f9
  rw [HFR.out]
  go_wp2_with fail
  show K _ _; have := H.out _ (Ext.refl _); rw [HFR.out] at this
  exact this
 ·rintro L A W K hL hC hW ⟨V, rfl, HV, s0, s1, f2, f5, f8, f9⟩ hK
  have e6 := HV 6 _ rfl (hW 6 rfl)
  have hB := s0 (hC.no (hC.no (hC.no hL 8 _ rfl rfl) 9 _ rfl rfl) 10 _ rfl rfl)
  have H := Lib.hid (show ∀ W', Ext W W' → K (fr (upd V 7 (.slice A3 x.p.length c3))) W' from fun W' he => hK _ _ ⟨_, rfl, HV.us 7 _ rfl, fun h0 => Ext.trans (s0 (mnf h0 rfl)) he, fun h0 => XoJ.ext (s1 (more_ne h0 rfl)) he, fun h0 h1 => OwnA.ext (f2 (mnf h0 rfl) (more_ne h1 rfl)) he, fun h0 h1 => OwnS.ext (f5 (mnf h0 rfl) (more_ne h1 rfl)) he, fun h0 h1 => OwnP.ext (f8 (mnf h0 rfl) (more_ne h1 rfl)) he, fun h0 h1 => RetX.ext (f9 (mnf h0 rfl) (more_ne h1 rfl)) he⟩)
  have HU := Lib.hid (show (upd V 7 (.slice A3 x.p.length c3)) 6 = .pointer (some ⟨w.heap.size, 2, none⟩) from e6)
  clear hK hC hW hL HV s0 s1 f2 f5 f8 f9
  rw [HFR.out, e6]
  clear e6
  have hcl := (Cs.ext HC0.out hB).cell 2 _ rfl
  clear hB
  go_wp2_with fail
  show K _ _; have := H.out _ (Ext.refl _); rw [HFR.out] at this
  obtain u6 := HU.out
  rw [u6] at this
  exact this
 ·rintro L A W K hL hC hW ⟨V, rfl, HV, s0, s1, f2, f5, f8, f9⟩ hK
  have e7 := HV 7 _ rfl (hW 7 rfl)
  have hB := s0 (hC.no (hC.no hL 9 _ rfl rfl) 10 _ rfl rfl)
  have H := Lib.hid (show ∀ v W', Ext W W' → (OwnP W' w0.heap.size v x.p) → K (fr (upd V 8 v)) W' from fun v W' he hp => hK _ _ ⟨_, rfl, HV.un 8 _ rfl, fun h0 => Ext.trans (s0 (mnf h0 rfl)) he, fun h0 => XoJ.ext (s1 (more_ne h0 rfl)) he, fun h0 h1 => OwnA.ext (f2 (mnf h0 rfl) (more_ne h1 rfl)) he, fun h0 h1 => OwnS.ext (f5 (mnf h0 rfl) (more_ne h1 rfl)) he, fun h0 h1 => hp, fun h0 h1 => RetX.ext (f9 (mnf h0 rfl) (more_ne h1 rfl)) he⟩)
  have HU := Lib.hid (show ∀ v, (upd V 8 v) 7 = .slice A3 x.p.length c3 from fun v => e7)
  clear hK hC hW hL HV s0 s1 f2 f5 f8 f9
  rw [HFR.out, e7]
  clear e7
  have HB := Lib.hid hB
  clear hB
  go_wp2_with fail
  refine (jownP_any _ x.p _ (HX.out.2.2.ext (HE0.out.trans HB.out)) HL3.out).mono ?_
  rintro e wx ⟨vx, rfl, ho, he⟩
  have := H.out _ _ he (ho.mono HB.out.size)
  clear H
  go_wp2_with fail
  show K _ _
  rw [HFR.out] at this
  obtain u7 := HU.out _
  rw [u7] at this
  exact this
 ·rintro L A W K hL hC hW ⟨V, rfl, HV, s0, s1, f2, f5, f8, f9⟩ hK
  have q2 := f2 (hC.no hL 10 _ rfl rfl) (hW 2 rfl)
  obtain ⟨A2, c2, e2, z2⟩ := q2.shp
  have q5 := f5 (hC.no hL 10 _ rfl rfl) (hW 5 rfl)
  obtain ⟨A5, c5, e5, z5⟩ := q5.shp
  have q8 := f8 (hC.no hL 10 _ rfl rfl) (hW 8 rfl)
  obtain ⟨A8, c8, e8, z8⟩ := q8.shp
  have H := Lib.hid (show ∀ v W', Ext W W' → (RetX w0.heap.size W' v x) → K (fr (upd V 9 v)) W' from fun v W' he hp => hK _ _ ⟨_, rfl, HV.un 9 _ rfl, fun h0 => Ext.trans (s0 (mnf h0 rfl)) he, fun h0 => XoJ.ext (s1 (more_ne h0 rfl)) he, fun h0 h1 => OwnA.ext (f2 (mnf h0 rfl) (more_ne h1 rfl)) he, fun h0 h1 => OwnS.ext (f5 (mnf h0 rfl) (more_ne h1 rfl)) he, fun h0 h1 => OwnP.ext (f8 (mnf h0 rfl) (more_ne h1 rfl)) he, fun h0 h1 => hp⟩)
  have HU := Lib.hid (show ∀ v, (upd V 9 v) 2 = .slice A2 x.a.length c2 ∧ (upd V 9 v) 5 = .slice A5 x.s.length c5 ∧ (upd V 9 v) 8 = .slice A8 x.p.length c8 from fun v => ⟨e2, e5, e8⟩)
  clear hK hC hW hL HV s0 s1 f2 f5 f8 f9
  rw [HFR.out, e2, e5, e8]
  clear e2 e5 e8
  go_wp2_with fail
  show K _ _; have := H.out (.agg #[.slice A2 x.a.length c2, .slice A5 x.s.length c5, .slice A8 x.p.length c8]) _ (Ext.refl _) (⟨_, _, _, rfl, z2, z5, z8⟩); rw [HFR.out] at this
  obtain ⟨u2, u5, u8⟩ := HU.out _
  rw [u2, u5, u8] at this
  exact this
 ·rintro L A W K hL hC hW ⟨V, rfl, HV, s0, s1, f2, f5, f8, f9⟩ hK
  have hB := s0 hL
  have q9 := f9 hL (hW 9 rfl)
  obtain ⟨a9, s9, p9, e9, x9, y9, z9⟩ := q9
  have H := Lib.hid (show ∀ W', (XoJ x w w0.heap.size (w.heap.size + 1) W') → K (fr (V)) W' from fun W' hA => hK _ _ ⟨V, rfl, HV.st 10 rfl, fun h0 => msf h0, fun h0 => hA, fun h0 h1 => msf h0, fun h0 h1 => msf h0, fun h0 h1 => msf h0, fun h0 h1 => msf h0⟩)
  have HU := Lib.hid (show (V) 9 = .agg #[a9, s9, p9] from e9)
  clear hK hC hW hL HV s0 s1 f2 f5 f8 f9
  rw [HFR.out, e9]
  clear e9
  have HB := Lib.hid hB
  have O1 := Lib.hid x9
  have O2 := Lib.hid y9
  have O3 := Lib.hid z9
  clear hB x9 y9 z9
  go_wp2_with ((with_reducible refine wpList_storeX ?_ ?_ (.tmp 2) (.tmp 12) ?_ (w.heap.size + 1) (.slice none 0 0) (.slice none 0 0) (.slice none 0 0) a9 s9 p9 ?_ ?_ O1.out.one O2.out.one O3.out.one (Cs.ext HR0.out HB.out) ?_); (exact rfl); (exact rfl); (exact rfl); (exact rfl); (exact rfl); intro w3 k3 g3; have K3 := Lib.hid k3; have G3 := Lib.hid g3; clear k3 g3)
  have HA := Lib.hid (show XoJ x w w0.heap.size (w.heap.size + 1) w3 from ⟨a9, s9, p9, K3.out, RetX.old ⟨_, _, _, rfl, O1.out, O2.out, O3.out⟩ G3.out HG2.out.2, (HE0.out.trans HB.out).grown G3.out HG2.out.1⟩)
  show K _ _; have := H.out _ HA.out; rw [HFR.out] at this
  obtain u9 := HU.out
  rw [u9] at this
  exact this
 ·rintro L A W hL ⟨V, rfl, HV, s0, s1, f2, f5, f8, f9⟩
  have e0 := HV 0 _ rfl (hL 0 (by simp))
  have e1 := HV 1 _ rfl (hL 1 (by simp))
  have e3 := HV 3 _ rfl (hL 3 (by simp))
  have e4 := HV 4 _ rfl (hL 4 (by simp))
  have e6 := HV 6 _ rfl (hL 6 (by simp))
  have e7 := HV 7 _ rfl (hL 7 (by simp))
  have hA := s1 (hL 10 (by simp))
  rw [HFR.out, e0, e1, e3, e4, e6, e7]
  clear hL HV HFR e0 e1 e3 e4 e6 e7 s0 s1 f2 f5 f8 f9
  obtain ⟨a, s, p, k1, k2, k3⟩ := hA
  have K1 := Lib.hid k1
  have K2 := Lib.hid k2
  have K3 := Lib.hid k3
  clear k1 k2 k3
  go_wp2_with fail
  refine bodyPost_ret (results_axo Tryz.results134 _ _ (w.heap.size + 1) _ _ _ rfl K1.out) rfl ?_
  exact ⟨_, rfl, K2.out.low HE0.out.size, K3.out⟩
set_option maxRecDepth 100000 in
theorem infoLAc : (Tryz.prog.info? 22).map (·.size) = some 1 := by kernel_rfl
set_option maxRecDepth 100000 in
theorem infoLHd : (Tryz.prog.info? 25).map (·.size) = some 1 := by kernel_rfl
set_option maxRecDepth 100000 in
theorem infoLNn : (Tryz.prog.info? 28).map (·.size) = some 1 := by kernel_rfl
def SzO (o : Wo) : Prop := o.s.length ≤ 1000000000 ∧ (∀ a ∈ o.s, a.code.length ≤ 1000000000 ∧ a.store.length ≤ 1000000000) ∧ o.g.length ≤ 1000000000 ∧ o.n.length ≤ 1000000000
def SzX (x : Ax) : Prop := x.a.length ≤ 1000000000 ∧ x.s.length ≤ 1000000000 ∧ x.p.length ≤ 1000000000
set_option maxRecDepth 100000 in
set_option maxHeartbeats 8000000 in
theorem ownWo_any (va vs vp : Value) (o : Wo) (w : World) (hx : WoR w va vs vp o) (hz : SzO o) :
  Calls Tryz.prog 133 #[.agg #[va, vs, vp]] w fun e w' => ∃ v', e = .returned v' ∧ RetWo w.heap.size w' v' o ∧ Ext w w' := by
 have HX := Lib.hid hx
 have HZ := Lib.hid hz
 obtain ⟨A1, c1, rfl, _, _⟩ := hx.1.len
 obtain ⟨A2, c2, rfl, _, _⟩ := hx.2.1.len
 obtain ⟨A3, c3, rfl, _, _⟩ := hx.2.2.len
 obtain ⟨w0, hw0⟩ : ∃ w0, (w.alloc (.cells #[.slice A1 o.s.length c1, .slice A2 o.g.length c2, .slice A3 o.n.length c3] 30)).alloc (.cells #[.slice none 0 0, .slice none 0 0, .slice none 0 0] 30) = w0 := ⟨_, rfl⟩
 have HC0 : Hid (Cs w0 w.heap.size 30 #[.slice A1 o.s.length c1, .slice A2 o.g.length c2, .slice A3 o.n.length c3]) := Lib.hid (by rw [← hw0]; exact Cs.alloc (Cs.new _ _ _ _ rfl) _)
 have HR0 : Hid (Cs w0 (w.heap.size + 1) 30 #[.slice none 0 0, .slice none 0 0, .slice none 0 0]) := Lib.hid (by rw [← hw0]; exact Cs.new _ _ _ _ (by simp))
 have HE0 : Hid (Ext w w0) := Lib.hid (by rw [← hw0]; exact ((Ext.refl w).alloc _).alloc _)
 have HG2 : Hid (w.heap.size < w0.heap.size ∧ w.heap.size + 1 < w0.heap.size) := Lib.hid ⟨HC0.out.lt, HR0.out.lt⟩
 have HW0 := Lib.hid hw0
 clear hx hw0 hz
 go_enter Tryz.func133, Tryz.ntmps133
 go_upto_region 1 with fail
 rw [HW0.out]
 clear HW0
 have hc := HC0.out.cell 0 _ rfl
 go_wp2_with fail
 clear hc
 refine (eachAc_any _ o.s _ (HX.out.1.ext HE0.out) HZ.out.1 HZ.out.2.1).mono ?_
 rintro e w1 ⟨v1, rfl, ho, he⟩
 obtain ⟨B1, d1, rfl⟩ := rowO_shp ho
 have HO := Lib.hid ho
 have HE1 := Lib.hid he
 clear ho he
 go_upto_region 2 with ((with_reducible refine wpList_store_one ?_ ?_ 22 (.tmp 8) (.tmp 6) ?_ w.heap.size 0 30 #[.slice A1 o.s.length c1, .slice A2 o.g.length c2, .slice A3 o.n.length c3] (.slice B1 o.s.length d1) rfl ?_ ?_ (Cs.ext HC0.out HE1.out) infoLAc (of_decide_eq_true rfl) rfl ?_); (exact rfl); (exact rfl); (exact rfl); (exact rfl); (exact rfl); intro w2 k2 g2; have K2 : Hid (Cs w2 w.heap.size 30 #[.slice B1 o.s.length d1, .slice A2 o.g.length c2, .slice A3 o.n.length c3]) := Lib.hid k2; have G2 := Lib.hid g2; clear k2 g2)
 have HO2 := Lib.hid (rowO_old HO.out G2.out HG2.out.1)
 have HE2 : Hid (Ext w w2) := Lib.hid ((HE0.out.trans HE1.out).grown G2.out (Nat.le_refl _))
 have HR2 := Lib.hid (Cs.kept (Cs.ext HR0.out HE1.out) G2.out (fun e => absurd (Option.some.inj e) (by omega)))
 have HS2 := Lib.hid (show w0.heap.size ≤ w2.heap.size from Nat.le_trans HE1.out.size G2.out.size)
 clear HO G2 HE1 HR0 HC0
 have hc := K2.out.cell 1 _ rfl
 go_wp2_with fail
 clear hc
 refine (jownH_any _ o.g _ (HX.out.2.1.ext HE2.out) HZ.out.2.2.1).mono ?_
 rintro e w3 ⟨v3, rfl, ho, he⟩
 obtain ⟨B2, d2, rfl, _⟩ := ho.sl
 have HO := Lib.hid ho
 have HE3 := Lib.hid he
 clear ho he
 go_upto_region 3 with ((with_reducible refine wpList_store_one ?_ ?_ 25 (.tmp 14) (.tmp 12) ?_ w.heap.size 1 30 #[.slice B1 o.s.length d1, .slice A2 o.g.length c2, .slice A3 o.n.length c3] (.slice B2 o.g.length d2) rfl ?_ ?_ (Cs.ext K2.out HE3.out) infoLHd (of_decide_eq_true rfl) rfl ?_); (exact rfl); (exact rfl); (exact rfl); (exact rfl); (exact rfl); intro w4 k4 g4; have K4 : Hid (Cs w4 w.heap.size 30 #[.slice B1 o.s.length d1, .slice B2 o.g.length d2, .slice A3 o.n.length c3]) := Lib.hid k4; have G4 := Lib.hid g4; clear k4 g4)
 have HO4 := Lib.hid (rowO_old (HO2.out.ext HE3.out) G4.out HG2.out.1)
 have HH4 : Hid (OwnH w4 w0.heap.size (.slice B2 o.g.length d2) o.g) := Lib.hid (by have h := HO.out.mono HS2.out; exact ⟨own_low h.1 G4.out HG2.out.1, h.2⟩)
 have HE4 : Hid (Ext w w4) := Lib.hid ((HE2.out.trans HE3.out).grown G4.out (Nat.le_refl _))
 have HR4 := Lib.hid (Cs.kept (Cs.ext HR2.out HE3.out) G4.out (fun e => absurd (Option.some.inj e) (by omega)))
 have HS4 := Lib.hid (show w0.heap.size ≤ w4.heap.size from Nat.le_trans HS2.out (Nat.le_trans HE3.out.size G4.out.size))
 clear HO HO2 G4 HE2 HE3 HR2 HS2 K2
 have hc := K4.out.cell 2 _ rfl
 go_wp2_with fail
 clear hc
 refine (jownN_any _ o.n _ (HX.out.2.2.ext HE4.out) HZ.out.2.2.2).mono ?_
 rintro e w5 ⟨v5, rfl, ho, he⟩
 obtain ⟨B3, d3, rfl, _⟩ := ho.sl
 have HO := Lib.hid ho
 have HE5 := Lib.hid he
 clear ho he
 go_upto_region 4 with ((with_reducible refine wpList_store_one ?_ ?_ 28 (.tmp 18) (.tmp 17) ?_ w.heap.size 2 30 #[.slice B1 o.s.length d1, .slice B2 o.g.length d2, .slice A3 o.n.length c3] (.slice B3 o.n.length d3) rfl ?_ ?_ (Cs.ext K4.out HE5.out) infoLNn (of_decide_eq_true rfl) rfl ?_); (exact rfl); (exact rfl); (exact rfl); (exact rfl); (exact rfl); intro w6 k6 g6; have K6 : Hid (Cs w6 w.heap.size 30 #[.slice B1 o.s.length d1, .slice B2 o.g.length d2, .slice B3 o.n.length d3]) := Lib.hid k6; have G6 := Lib.hid g6; clear k6 g6)
 have HN6 : Hid (OwnN w6 w0.heap.size (.slice B3 o.n.length d3) o.n) := Lib.hid (by have h := HO.out.mono HS4.out; exact ⟨own_low h.1 G6.out HG2.out.1, h.2⟩)
 have HA6 : Hid (RetWo w0.heap.size w6 (.agg #[.slice B1 o.s.length d1, .slice B2 o.g.length d2, .slice B3 o.n.length d3]) o) := Lib.hid ⟨_, _, _, rfl, rowO_old (HO4.out.ext HE5.out) G6.out HG2.out.1, (by have h := HH4.out.ext HE5.out; exact ⟨own_low h.1 G6.out HG2.out.1, h.2⟩), HN6.out⟩
 have HE6 : Hid (Ext w w6) := Lib.hid ((HE4.out.trans HE5.out).grown G6.out (Nat.le_refl _))
 have HR6 := Lib.hid (Cs.kept (Cs.ext HR4.out HE5.out) G6.out (fun e => absurd (Option.some.inj e) (by omega)))
 clear HO HO4 HH4 HN6 G6 HE4 HE5 HR4 HS4 K4
 have HRG := Lib.hid (Cs.rg K6.out)
 go_wp2_with (first
  | ((with_reducible refine wpList_loadWo ?_ (.tmp 1) ?_ w.heap.size 0 (.slice B1 o.s.length d1) (.slice B2 o.g.length d2) (.slice B3 o.n.length d3) ?_ HRG.out ?_); (exact rfl); (exact rfl); (exact rfl))
  | ((with_reducible refine wpList_storeWo ?_ ?_ (.tmp 2) (.tmp 19) ?_ (w.heap.size + 1) (.slice none 0 0) (.slice none 0 0) (.slice none 0 0) (.slice B1 o.s.length d1) (.slice B2 o.g.length d2) (.slice B3 o.n.length d3) ?_ ?_ HA6.out.one HR6.out ?_); (exact rfl); (exact rfl); (exact rfl); (exact rfl); (exact rfl); intro w7 k7 g7; have K7 := Lib.hid k7; have G7 := Lib.hid g7; clear k7 g7))
 refine bodyPost_ret (results_woo Tryz.results133 _ _ (w.heap.size + 1) _ _ _ rfl K7.out) rfl ?_
 exact ⟨_, rfl, (HA6.out.old G7.out HG2.out.2).low HE0.out.size, HE6.out.grown G7.out (Nat.le_succ _)⟩
set_option maxRecDepth 100000 in
theorem built_po (a b c d e f : Value) : Tryz.prog.built 37 [(0, .agg #[a, b, c]), (1, .agg #[d, e, f])] = some #[a, b, c, d, e, f] := by kernel_rfl
set_option maxRecDepth 100000 in
theorem wpList_build_po {ops : Array Oper} {rest : List Oper} {o : Oper} {a0 : Act} {w : World} {Q : Exit → Act → World → Prop} (hg : o.guard = none) (x y : Operand) (ho : o.op = .build 37 #[(0, x), (1, y)]) (a b c d e f : Value) (hx : a0.eval x = .agg #[a, b, c]) (hy : a0.eval y = .agg #[d, e, f])
  (h : wpList Tryz.prog ops Q rest (a0.put o.dst (.agg #[a, b, c, d, e, f])) w) : wpList Tryz.prog ops Q (o :: rest) a0 w := by
 refine wpList_build hg 37 #[(0, x), (1, y)] ho ?_ ?_
 ·simp only [List.map_toArray, List.map_cons, List.map_nil, hx, hy, built_po]; rfl
 ·simp only [List.map_toArray, List.map_cons, List.map_nil, hx, hy, built_po, Option.getD_some]; exact h
theorem retWo_shp {lo : Nat} {W : World} {v : Value} {o : Wo} (h : RetWo lo W v o) : ∃ a b c, v = .agg #[a, b, c] ∧ RetWo lo W (.agg #[a, b, c]) o := by
 obtain ⟨a, b, c, e, h⟩ := h
 exact ⟨a, b, c, e, _, _, _, rfl, h⟩
theorem retX_shp {lo : Nat} {W : World} {v : Value} {x : Ax} (h : RetX lo W v x) : ∃ a b c, v = .agg #[a, b, c] ∧ RetX lo W (.agg #[a, b, c]) x := by
 obtain ⟨a, b, c, e, h⟩ := h
 exact ⟨a, b, c, e, _, _, _, rfl, h⟩
set_option maxRecDepth 100000 in
set_option maxHeartbeats 8000000 in
theorem ownPo_any (xu xv xz xa xs xq : Value) (p : Po) (w : World) (hx : WoR w xu xv xz p.w ∧ AxR w xa xs xq p.x) (hz : SzO p.w ∧ SzX p.x) :
  Calls Tryz.prog 132 #[.agg #[xu, xv, xz, xa, xs, xq]] w fun e w' => ∃ v', e = .returned v' ∧ RetPo w.heap.size w' v' p ∧ Ext w w' := by
 have HX := Lib.hid hx
 have HZ := Lib.hid hz
 have HON : Hid ((#[xu, xv, xz, xa, xs, xq] : Array Value).all (·.oneCell') = true) := Lib.hid (by
  obtain ⟨y1, y2, y3⟩ := axr_one hx.2
  have y4 := acs_one hx.1.1
  have y5 := hds_one hx.1.2.1
  have y6 := nns_one hx.1.2.2
  simp [y1, y2, y3, y4, y5, y6])
 obtain ⟨w0, hw0⟩ : ∃ w0, (w.alloc (.cells #[xu, xv, xz, xa, xs, xq] 37)).alloc (.cells #[.slice none 0 0, .slice none 0 0, .slice none 0 0, .slice none 0 0, .slice none 0 0, .slice none 0 0] 37) = w0 := ⟨_, rfl⟩
 have HC0 : Hid (Cs w0 w.heap.size 37 #[xu, xv, xz, xa, xs, xq]) := Lib.hid (by rw [← hw0]; exact Cs.alloc (Cs.new _ _ _ _ rfl) _)
 have HR0 : Hid (Cs w0 (w.heap.size + 1) 37 #[.slice none 0 0, .slice none 0 0, .slice none 0 0, .slice none 0 0, .slice none 0 0, .slice none 0 0]) := Lib.hid (by rw [← hw0]; exact Cs.new _ _ _ _ (by simp))
 have HE0 : Hid (Ext w w0) := Lib.hid (by rw [← hw0]; exact ((Ext.refl w).alloc _).alloc _)
 have HG2 : Hid (w.heap.size ≤ w.heap.size + 1 ∧ w.heap.size + 1 < w0.heap.size) := Lib.hid ⟨Nat.le_succ _, HR0.out.lt⟩
 have HW0 := Lib.hid hw0
 have HO1 := HON.out
 clear hx hw0 hz
 go_enter Tryz.func132, Tryz.ntmps132
 go_upto_region 1 with fail
 rw [HW0.out]
 clear HW0 HO1
 refine wp_named fun a0 ha0 => ?_
 obtain ⟨fr, hfr⟩ : ∃ fr : (Nat → Value) → Act, ∀ V, fr V = (((((((a0.put (some 3) (V 0)).put (some 4) (V 1)).put (some 5) (V 2)).put (some 6) (V 3)).put (some 7) (V 4)).put (some 8) (V 5)).put (some 9) (V 6)) := ⟨_, fun _ => rfl⟩
 rw [ha0] at hfr
 simp only [Act.put, List.setIfInBounds_toArray, List.set_cons_zero, List.set_cons_succ] at hfr
 have HFR := Lib.hid hfr
 clear hfr
 refine wp_region_inv (by kernel_rfl) (by kernel_rfl) (fun L A W => ∃ V : Nat → Value, A = fr V ∧ Vals (fun j => ([some (.pointer (some ⟨w.heap.size, 0, none⟩)), some (.agg #[xu, xv, xz]), none, some (.pointer (some ⟨w.heap.size, 3, none⟩)), some (.agg #[xa, xs, xq]), none, none, none] : List (Option Value)).getD j none) L V ∧ (L 7 = false → Ext w0 W) ∧ (L 7 = true → PoJ p w w0.heap.size (w.heap.size + 1) W) ∧ (L 7 = false → L 2 = true → RetWo w0.heap.size W (V 2) p.w) ∧ (L 7 = false → L 5 = true → RetX w0.heap.size W (V 5) p.x) ∧ (L 7 = false → L 6 = true → RetPo w0.heap.size W (V 6) p)) ?_ ⟨?_, ?_, ?_, ?_, ?_, ?_, ?_, ?_, trivial⟩ ?_
 ·refine ⟨fun j => a0.tmps.getD (([3, 4, 5, 6, 7, 8, 9, 0] : List Nat).getD j 0) undef, ?_, Vals.no _ _ _ (far_none _ _ rfl), fun _ => (Ext.refl _).drew, fun h0 => absurd h0 (by decide), fun h0 h1 => absurd h1 (by decide), fun h0 h1 => absurd h1 (by decide), fun h0 h1 => absurd h1 (by decide)⟩
  rw [HFR.out, ha0]
  rfl
 all_goals clear ha0
 ·rintro L A W K hL hC hW ⟨V, rfl, HV, s0, s1, f2, f5, f6⟩ hK
  have H := Lib.hid (show ∀ W', Ext W W' → K (fr (upd V 0 (.pointer (some ⟨w.heap.size, 0, none⟩)))) W' from fun W' he => hK _ _ ⟨_, rfl, HV.us 0 _ rfl, fun h0 => Ext.trans (s0 (mnf h0 rfl)) he, fun h0 => PoJ.ext (s1 (more_ne h0 rfl)) he, fun h0 h1 => RetWo.ext (f2 (mnf h0 rfl) (more_ne h1 rfl)) he, fun h0 h1 => RetX.ext (f5 (mnf h0 rfl) (more_ne h1 rfl)) he, fun h0 h1 => RetPo.ext (f6 (mnf h0 rfl) (more_ne h1 rfl)) he⟩)
  clear hK hC hW hL HV s0 s1 f2 f5 f6
  rw [HFR.out]
  go_wp2_with fail
  show K _ _; have := H.out _ (Ext.refl _); rw [HFR.out] at this
  exact this
 ·rintro L A W K hL hC hW ⟨V, rfl, HV, s0, s1, f2, f5, f6⟩ hK
  have e0 := HV 0 _ rfl (hW 0 rfl)
  have hB := s0 (hC.no (hC.no (hC.no hL 2 _ rfl rfl) 6 _ rfl rfl) 7 _ rfl rfl)
  have H := Lib.hid (show ∀ W', Ext W W' → K (fr (upd V 1 (.agg #[xu, xv, xz]))) W' from fun W' he => hK _ _ ⟨_, rfl, HV.us 1 _ rfl, fun h0 => Ext.trans (s0 (mnf h0 rfl)) he, fun h0 => PoJ.ext (s1 (more_ne h0 rfl)) he, fun h0 h1 => RetWo.ext (f2 (mnf h0 rfl) (more_ne h1 rfl)) he, fun h0 h1 => RetX.ext (f5 (mnf h0 rfl) (more_ne h1 rfl)) he, fun h0 h1 => RetPo.ext (f6 (mnf h0 rfl) (more_ne h1 rfl)) he⟩)
  have HU := Lib.hid (show (upd V 1 (.agg #[xu, xv, xz])) 0 = .pointer (some ⟨w.heap.size, 0, none⟩) from e0)
  clear hK hC hW hL HV s0 s1 f2 f5 f6
  rw [HFR.out, e0]
  clear e0
  have HRG := Lib.hid (rg_part (cs := [xu, xv, xz, xa, xs, xq]) (ds := [xu, xv, xz]) 0 (Cs.rg (Cs.ext HC0.out hB)) (fun j y hy => by rcases j with _ | _ | _ | j; all_goals first | exact hy | (simp at hy)))
  clear hB
  refine wpList_loadWo rfl (.tmp 3) rfl w.heap.size 0 xu xv xz rfl HRG.out ?_
  show K _ _; have := H.out _ (Ext.refl _); rw [HFR.out] at this
  obtain u0 := HU.out
  rw [u0] at this
  exact this
 ·rintro L A W K hL hC hW ⟨V, rfl, HV, s0, s1, f2, f5, f6⟩ hK
  have e1 := HV 1 _ rfl (hW 1 rfl)
  have hB := s0 (hC.no (hC.no hL 6 _ rfl rfl) 7 _ rfl rfl)
  have H := Lib.hid (show ∀ v W', Ext W W' → (RetWo w0.heap.size W' v p.w) → K (fr (upd V 2 v)) W' from fun v W' he hp => hK _ _ ⟨_, rfl, HV.un 2 _ rfl, fun h0 => Ext.trans (s0 (mnf h0 rfl)) he, fun h0 => PoJ.ext (s1 (more_ne h0 rfl)) he, fun h0 h1 => hp, fun h0 h1 => RetX.ext (f5 (mnf h0 rfl) (more_ne h1 rfl)) he, fun h0 h1 => RetPo.ext (f6 (mnf h0 rfl) (more_ne h1 rfl)) he⟩)
  have HU := Lib.hid (show ∀ v, (upd V 2 v) 1 = .agg #[xu, xv, xz] from fun v => e1)
  clear hK hC hW hL HV s0 s1 f2 f5 f6
  rw [HFR.out, e1]
  clear e1
  have HB := Lib.hid hB
  clear hB
  go_wp2_with fail
  refine (ownWo_any _ _ _ p.w _ (HX.out.1.ext (HE0.out.trans HB.out)) HZ.out.1).mono ?_
  rintro e wx ⟨vx, rfl, ho, he⟩
  have := H.out _ _ he (ho.low HB.out.size)
  clear H
  go_wp2_with fail
  show K _ _
  rw [HFR.out] at this
  obtain u1 := HU.out _
  rw [u1] at this
  exact this
 ·rintro L A W K hL hC hW ⟨V, rfl, HV, s0, s1, f2, f5, f6⟩ hK
  have H := Lib.hid (show ∀ W', Ext W W' → K (fr (upd V 3 (.pointer (some ⟨w.heap.size, 3, none⟩)))) W' from fun W' he => hK _ _ ⟨_, rfl, HV.us 3 _ rfl, fun h0 => Ext.trans (s0 (mnf h0 rfl)) he, fun h0 => PoJ.ext (s1 (more_ne h0 rfl)) he, fun h0 h1 => RetWo.ext (f2 (mnf h0 rfl) (more_ne h1 rfl)) he, fun h0 h1 => RetX.ext (f5 (mnf h0 rfl) (more_ne h1 rfl)) he, fun h0 h1 => RetPo.ext (f6 (mnf h0 rfl) (more_ne h1 rfl)) he⟩)
  clear hK hC hW hL HV s0 s1 f2 f5 f6
  rw [HFR.out]
  go_wp2_with fail
  show K _ _; have := H.out _ (Ext.refl _); rw [HFR.out] at this
  exact this
 ·rintro L A W K hL hC hW ⟨V, rfl, HV, s0, s1, f2, f5, f6⟩ hK
  have e3 := HV 3 _ rfl (hW 3 rfl)
  have hB := s0 (hC.no (hC.no (hC.no hL 5 _ rfl rfl) 6 _ rfl rfl) 7 _ rfl rfl)
  have H := Lib.hid (show ∀ W', Ext W W' → K (fr (upd V 4 (.agg #[xa, xs, xq]))) W' from fun W' he => hK _ _ ⟨_, rfl, HV.us 4 _ rfl, fun h0 => Ext.trans (s0 (mnf h0 rfl)) he, fun h0 => PoJ.ext (s1 (more_ne h0 rfl)) he, fun h0 h1 => RetWo.ext (f2 (mnf h0 rfl) (more_ne h1 rfl)) he, fun h0 h1 => RetX.ext (f5 (mnf h0 rfl) (more_ne h1 rfl)) he, fun h0 h1 => RetPo.ext (f6 (mnf h0 rfl) (more_ne h1 rfl)) he⟩)
  have HU := Lib.hid (show (upd V 4 (.agg #[xa, xs, xq])) 3 = .pointer (some ⟨w.heap.size, 3, none⟩) from e3)
  clear hK hC hW hL HV s0 s1 f2 f5 f6
  rw [HFR.out, e3]
  clear e3
  have HRG := Lib.hid (rg_part (cs := [xu, xv, xz, xa, xs, xq]) (ds := [xa, xs, xq]) 3 (Cs.rg (Cs.ext HC0.out hB)) (fun j y hy => by rcases j with _ | _ | _ | j; all_goals first | exact hy | (simp at hy)))
  clear hB
  refine wpList_loadXk rfl (.tmp 6) rfl w.heap.size 3 xa xs xq rfl HRG.out ?_
  show K _ _; have := H.out _ (Ext.refl _); rw [HFR.out] at this
  obtain u3 := HU.out
  rw [u3] at this
  exact this
 ·rintro L A W K hL hC hW ⟨V, rfl, HV, s0, s1, f2, f5, f6⟩ hK
  have e4 := HV 4 _ rfl (hW 4 rfl)
  have hB := s0 (hC.no (hC.no hL 6 _ rfl rfl) 7 _ rfl rfl)
  have H := Lib.hid (show ∀ v W', Ext W W' → (RetX w0.heap.size W' v p.x) → K (fr (upd V 5 v)) W' from fun v W' he hp => hK _ _ ⟨_, rfl, HV.un 5 _ rfl, fun h0 => Ext.trans (s0 (mnf h0 rfl)) he, fun h0 => PoJ.ext (s1 (more_ne h0 rfl)) he, fun h0 h1 => RetWo.ext (f2 (mnf h0 rfl) (more_ne h1 rfl)) he, fun h0 h1 => hp, fun h0 h1 => RetPo.ext (f6 (mnf h0 rfl) (more_ne h1 rfl)) he⟩)
  have HU := Lib.hid (show ∀ v, (upd V 5 v) 4 = .agg #[xa, xs, xq] from fun v => e4)
  clear hK hC hW hL HV s0 s1 f2 f5 f6
  rw [HFR.out, e4]
  clear e4
  have HB := Lib.hid hB
  clear hB
  go_wp2_with fail
  refine (ownAx_any _ _ _ p.x _ (HX.out.2.ext (HE0.out.trans HB.out)) HZ.out.2.1 HZ.out.2.2.1 HZ.out.2.2.2).mono ?_
  rintro e wx ⟨vx, rfl, ho, he⟩
  have := H.out _ _ he (ho.low HB.out.size)
  clear H
  go_wp2_with fail
  show K _ _
  rw [HFR.out] at this
  obtain u4 := HU.out _
  rw [u4] at this
  exact this
 ·rintro L A W K hL hC hW ⟨V, rfl, HV, s0, s1, f2, f5, f6⟩ hK
  have hB := s0 (hC.no hL 7 _ rfl rfl)
  have q2 := f2 (hC.no hL 7 _ rfl rfl) (hW 2 rfl)
  obtain ⟨a2, s2, p2, e2, z2⟩ := retWo_shp q2
  have q5 := f5 (hC.no hL 7 _ rfl rfl) (hW 5 rfl)
  obtain ⟨a5, s5, p5, e5, z5⟩ := retX_shp q5
  have H := Lib.hid (show ∀ v W', Ext W W' → (RetPo w0.heap.size W' v p) → K (fr (upd V 6 v)) W' from fun v W' he hp => hK _ _ ⟨_, rfl, HV.un 6 _ rfl, fun h0 => Ext.trans (s0 (mnf h0 rfl)) he, fun h0 => PoJ.ext (s1 (more_ne h0 rfl)) he, fun h0 h1 => RetWo.ext (f2 (mnf h0 rfl) (more_ne h1 rfl)) he, fun h0 h1 => RetX.ext (f5 (mnf h0 rfl) (more_ne h1 rfl)) he, fun h0 h1 => hp⟩)
  have HU := Lib.hid (show ∀ v, (upd V 6 v) 2 = .agg #[a2, s2, p2] ∧ (upd V 6 v) 5 = .agg #[a5, s5, p5] from fun v => ⟨e2, e5⟩)
  clear hK hC hW hL HV s0 s1 f2 f5 f6
  rw [HFR.out, e2, e5]
  clear e2 e5
  refine wpList_build_po rfl (.tmp 5) (.tmp 8) rfl a2 s2 p2 a5 s5 p5 rfl rfl ?_
  show K _ _; have := H.out (.agg #[a2, s2, p2, a5, s5, p5]) _ (Ext.refl _) (⟨_, _, _, _, _, _, rfl, z2, z5⟩); rw [HFR.out] at this
  obtain ⟨u2, u5⟩ := HU.out _
  rw [u2, u5] at this
  exact this
 ·rintro L A W K hL hC hW ⟨V, rfl, HV, s0, s1, f2, f5, f6⟩ hK
  have hB := s0 hL
  have q6 := f6 hL (hW 6 rfl)
  obtain ⟨a6, b6, c6, d6, m6, n6, e6, x6, y6⟩ := q6
  have H := Lib.hid (show ∀ W', (PoJ p w w0.heap.size (w.heap.size + 1) W') → K (fr (V)) W' from fun W' hA => hK _ _ ⟨V, rfl, HV.st 7 rfl, fun h0 => msf h0, fun h0 => hA, fun h0 h1 => msf h0, fun h0 h1 => msf h0, fun h0 h1 => msf h0⟩)
  have HU := Lib.hid (show (V) 6 = .agg #[a6, b6, c6, d6, m6, n6] from e6)
  clear hK hC hW hL HV s0 s1 f2 f5 f6
  rw [HFR.out, e6]
  clear e6
  have HB := Lib.hid hB
  have O1 := Lib.hid x6
  have O2 := Lib.hid y6
  clear hB x6 y6
  have HON := Lib.hid (show (#[a6, b6, c6, d6, m6, n6] : Array Value).all (·.oneCell') = true by have h1 := O1.out.one; have h2 := O2.out.one; simp only [List.all_toArray, List.all_cons, List.all_nil, Bool.and_true, Bool.and_eq_true] at h1 ⊢; exact ⟨h1.1, h1.2.1, h1.2.2, h2.1, h2.2.1, h2.2.2⟩)
  go_wp2_with ((with_reducible refine wpList_storePo ?_ ?_ (.tmp 2) (.tmp 9) ?_ (w.heap.size + 1) (.slice none 0 0) (.slice none 0 0) (.slice none 0 0) (.slice none 0 0) (.slice none 0 0) (.slice none 0 0) a6 b6 c6 d6 m6 n6 ?_ ?_ HON.out (Cs.ext HR0.out HB.out) ?_); (exact rfl); (exact rfl); (exact rfl); (exact rfl); (exact rfl); intro w3 k3 g3; have K3 := Lib.hid k3; have G3 := Lib.hid g3; clear k3 g3)
  have HA := Lib.hid (show PoJ p w w0.heap.size (w.heap.size + 1) w3 from ⟨a6, b6, c6, d6, m6, n6, K3.out, RetPo.old ⟨_, _, _, _, _, _, rfl, O1.out, O2.out⟩ G3.out HG2.out.2, (HE0.out.trans HB.out).grown G3.out HG2.out.1⟩)
  show K _ _; have := H.out _ HA.out; rw [HFR.out] at this
  obtain u6 := HU.out
  rw [u6] at this
  exact this
 ·rintro L A W hL ⟨V, rfl, HV, s0, s1, f2, f5, f6⟩
  have e0 := HV 0 _ rfl (hL 0 (by simp))
  have e1 := HV 1 _ rfl (hL 1 (by simp))
  have e3 := HV 3 _ rfl (hL 3 (by simp))
  have e4 := HV 4 _ rfl (hL 4 (by simp))
  have hA := s1 (hL 7 (by simp))
  rw [HFR.out, e0, e1, e3, e4]
  clear hL HV HFR e0 e1 e3 e4 s0 s1 f2 f5 f6
  obtain ⟨k0, k1, k2, k3, k4, k5, k6, k7, k8⟩ := hA
  have K6 := Lib.hid k6
  have K7 := Lib.hid k7
  have K8 := Lib.hid k8
  clear k6 k7 k8
  go_wp2_with fail
  refine bodyPost_ret (results_poo Tryz.results132 _ _ (w.heap.size + 1) _ _ _ _ _ _ rfl K6.out) rfl ?_
  exact ⟨_, rfl, K7.out.low HE0.out.size, K8.out⟩
end Go.Proofs.YtnjpdchmdimaaaaGreat
