/- Package state: placed. -/
import Derived.Test.YtiojfpdjnblkhaaQSti
import Derived.Test.YtiojfpdjnblkhaaQInn
import Derived.Test.YtiojfpdjnblkhaaQInw
namespace Go.Proofs.Ytiojfpdjnblkhaa
open Go.ChangeShapes Go.WideShapes Go.ChangeAt Go.RowKit Go.Shelf
attribute [local go_sem] Oper.semAt_some

theorem own_uniq {W : World} {base s n : Nat} {e : TypeId} {v : Value} {cs ds : List Value} (h : W.ownsRow base e s v n cs) (k : W.ownsRow base e s v n ds) : cs = ds := by
 obtain ⟨h1, h2⟩ := h
 obtain ⟨k1, k2⟩ := k
 rcases h2 with ⟨rfl, hn⟩ | ⟨g, cap, cur, rfl, _, hg, _, _, _, ht⟩
 ·subst hn
  exact (List.eq_nil_of_length_eq_zero (by rw [h1]; simp)).trans (List.eq_nil_of_length_eq_zero (by rw [k1]; simp)).symm
 ·rcases k2 with ⟨e, _⟩ | ⟨g', cap', cur', e, _, hg', _, _, _, ht'⟩
  ·cases e
  ·injection e with e1 e2 e3
   injection e1 with e1
   injection e1 with e1
   subst e1
   rw [hg] at hg'
   cases hg'
   rw [← ht, ← ht']
theorem RwA.shape {lo : Nat} {W : World} {vb va : Value} {l : List Ac} (h : RwA lo W vb va l) : ∃ A c, vb = .slice A l.length c := by
 obtain ⟨cs, h⟩ := h.own
 obtain ⟨_, A, c, e, _⟩ := Rs.of_own h
 exact ⟨A, c, e⟩
theorem RwA.low {lo lo' : Nat} {W : World} {vb va : Value} {l : List Ac} (h : RwA lo W vb va l) (hl : lo' ≤ lo) : RwA lo' W vb va l := by
 obtain ⟨t, h1, h2, h3, h4⟩ := h
 exact ⟨t, h1, own_mono h2 hl, h3, fun x hx => ⟨(h4 x hx).1, (h4 x hx).2.1.low hl, (h4 x hx).2.2⟩⟩
theorem RwA.join {lo : Nat} {W W' : World} {vb va v' : Value} {lb la : List Ac} (hb : RwA lo W vb va lb) (ha : RwA lo W va vb la) (hg : W.grownBy W' vb.ownBlock) (hk : v'.ownBlock = vb.ownBlock ∨ v'.ownBlock = some W.heap.size)
  (ho : ∀ cs ds, W.ownsRow lo 37 8 vb lb.length cs → W.ownsRow lo 37 8 va la.length ds → W'.ownsRow lo 37 8 v' (lb.length + la.length) (cs ++ ds)) : RwA lo W' v' (.slice none 0 0) (lb ++ la) := by
 obtain ⟨t, h1, h2, h3, h4⟩ := hb
 obtain ⟨s, k1, k2, k3, k4⟩ := ha
 refine ⟨t ++ s, by simp [h1, k1], ?_, (fun g _ h => by simp [Value.ownBlock] at h), fun x hx => ?_⟩
 ·rw [rowT_app, List.length_append]
  exact ho _ _ h2 k2
 ·have hall : x.1.ok ∧ AcO lo W x.1 x.2.1 x.2.2 ∧ ∀ g, x.2.1.ownBlock = some g ∨ x.2.2.ownBlock = some g → vb.ownBlock ≠ some g := by
   rcases List.mem_append.1 hx with h | h
   ·exact ⟨(h4 x h).1, (h4 x h).2.1, fun g hg => ((h4 x h).2.2 g hg).1⟩
   ·exact ⟨(k4 x h).1, (k4 x h).2.1, fun g hg => ((k4 x h).2.2 g hg).2⟩
  refine ⟨hall.1, hall.2.1.kept hg (fun g e => ⟨fun e' => hall.2.2 g (.inl e') e, fun e' => hall.2.2 g (.inr e') e⟩), fun g hg' => ⟨fun e => ?_, by simp [Value.ownBlock]⟩⟩
  rcases hk with hk | hk
  ·exact hall.2.2 g hg' (by rw [← hk]; exact e)
  ·rw [hk] at e
   injection e with e
   have := (hall.2.1.lt g hg').2
   omega

theorem RwA.other {lo : Nat} {W W' : World} {vb va va' : Value} {l : List Ac} (h : RwA lo W vb va l) (hg : W.grownBy W' va.ownBlock) (hk : va'.ownBlock = va.ownBlock ∨ va'.ownBlock = some W.heap.size) : RwA lo W' vb va' l := by
 obtain ⟨t', k1, k2, k3, k4⟩ := h
 have hm : ∀ (g : Nat), va'.ownBlock = some g → va.ownBlock = some g ∨ g = W.heap.size := fun g e => by
  rcases hk with hk | hk
  ·exact .inl (by rw [← hk]; exact e)
  ·rw [hk] at e; injection e with e; exact .inr e.symm
 have hlt : ∀ (s n : Nat) (e : TypeId) (v : Value) (cs : List Value), W.ownsRow lo e s v n cs → ∀ g, v.ownBlock = some g → g < W.heap.size := fun s n e v cs h g hg => (h.lt g hg).2
 refine ⟨t', k1, ?_, fun g e e' => ?_, fun x hx => ⟨(k4 x hx).1, ?_, fun g hg' => ⟨((k4 x hx).2.2 g hg').1, fun e => ?_⟩⟩⟩
 ·refine k2.kept hg ?_
  cases hb : vb.ownBlock with
  | none => exact .inl rfl
  | some g => exact .inr (fun e => k3 g hb e.symm)
 ·rcases hm g e' with h | h
  ·exact k3 g e h
  ·have := hlt _ _ _ _ _ k2 g e; omega
 ·exact (k4 x hx).2.1.kept hg (fun g e => ⟨fun e' => ((k4 x hx).2.2 g (.inl e')).2 e, fun e' => ((k4 x hx).2.2 g (.inr e')).2 e⟩)
 ·rcases hm g e with h | h
  ·exact ((k4 x hx).2.2 g hg').2 h
  ·have := ((k4 x hx).2.1.lt g hg').2; omega
def ltL (x : Ac) (l : List Ac) : List Ac := l.filter fun p => decide (p.addr < x.addr)
def gtL (x : Ac) (l : List Ac) : List Ac := l.filter fun p => decide (x.addr < p.addr)
def plL (l : List Ac) (x : Ac) : List Ac := (ltL x l ++ if x.emptyB then [] else [x]) ++ gtL x l
def PlO (g2 g3 g4 : Nat) (sv : Value) (x : Ac) (ux vx : Value) (W : World) : Prop := Cs W g2 24 #[sv] ∧ Ab W g3 x ux vx ∧ Cs W g4 24 #[.slice none 0 0]
theorem PlO.ext {g2 g3 g4 : Nat} {sv : Value} {x : Ac} {ux vx : Value} {W W' : World} (h : PlO g2 g3 g4 sv x ux vx W) (he : Ext W W') : PlO g2 g3 g4 sv x ux vx W' := ⟨Cs.ext h.1 he, h.2.1.ext he, Cs.ext h.2.2 he⟩
theorem PlO.kept {g2 g3 g4 lo : Nat} {sv : Value} {x : Ac} {ux vx : Value} {W W' : World} {row : Option Nat} (h : PlO g2 g3 g4 sv x ux vx W) (hg : W.grownBy W' row) (hr : ∀ g, row = some g → lo ≤ g) (ho : g2 < lo ∧ g3 < lo ∧ g4 < lo) : PlO g2 g3 g4 sv x ux vx W' :=
 ⟨Cs.kept h.1 hg (fun e => by have := hr g2 (by first | exact e | exact e.symm); omega), Cs.kept h.2.1 hg (fun e => by have := hr g3 (by first | exact e | exact e.symm); omega), Cs.kept h.2.2 hg (fun e => by have := hr g4 (by first | exact e | exact e.symm); omega)⟩
def Trk (w W0 W : World) : Prop := KeepsOthers W0 W ∧ Below w.heap.size W0 W ∧ Ext w W
theorem Trk.ext {w W0 W W' : World} (h : Trk w W0 W) (he : Ext W W') : Trk w W0 W' := ⟨h.1.trans (keeps_ext he), h.2.1.trans (he.mono h.2.2.size), h.2.2.trans he⟩
theorem Trk.set {w W0 W : World} (h : Trk w W0 W) (g i : Nat) (v : Value) (hg : w.heap.size ≤ g) : Trk w W0 (W.setCell ⟨g, i, none⟩ v) := ⟨h.1.trans (KeepsOthers.setCell _ _ _), h.2.1.setCell (p := ⟨g, i, none⟩) hg _, h.2.2.grown (grown_set _ _ _ _) hg⟩
theorem Trk.own {w W0 W W' : World} {lo s n : Nat} {e : TypeId} {v : Value} {cs : List Value} (h : Trk w W0 W) (ho : W.ownsRow lo e s v n cs) (hlo : w.heap.size ≤ lo) (hg : W.grownBy W' v.ownBlock) : Trk w W0 W' :=
 ⟨h.1.trans (keeps_own ho hg), h.2.1.grown hg h.2.2.size (fun k e => Nat.le_trans hlo (ho.lt k e).1), Below.grown h.2.2 hg h.2.2.size (fun k e => Nat.le_trans hlo (ho.lt k e).1)⟩
structure PlG (w : World) (lo g2 g3 g4 gT gU : Nat) : Prop where
 a : w.heap.size ≤ g2 ∧ w.heap.size ≤ g3 ∧ w.heap.size ≤ g4 ∧ w.heap.size ≤ gT ∧ w.heap.size ≤ gU
 b : g2 < lo ∧ g3 < lo ∧ g4 < lo ∧ gT < lo ∧ gU < lo
 c : gT ≠ g2 ∧ gT ≠ g3 ∧ gT ≠ g4 ∧ gT ≠ gU
def PlS (lo g2 g3 g4 gT gU : Nat) (sv : Value) (x : Ac) (ux vx vT0 vT vU : Value) (lT lU : List Ac) (w W0 W : World) : Prop :=
 PlO g2 g3 g4 sv x ux vx W ∧ Cs W gT 22 #[vT0] ∧ Cs W gU 22 #[vU] ∧ RwA lo W vT vU lT ∧ RwA lo W vU vT lU ∧ Trk w W0 W
theorem PlS.ext {lo g2 g3 g4 gT gU : Nat} {sv : Value} {x : Ac} {ux vx vT0 vT vU : Value} {lT lU : List Ac} {w W0 W W' : World} (h : PlS lo g2 g3 g4 gT gU sv x ux vx vT0 vT vU lT lU w W0 W) (he : Ext W W') : PlS lo g2 g3 g4 gT gU sv x ux vx vT0 vT vU lT lU w W0 W' :=
 ⟨h.1.ext he, Cs.ext h.2.1 he, Cs.ext h.2.2.1 he, h.2.2.2.1.ext he, h.2.2.2.2.1.ext he, h.2.2.2.2.2.ext he⟩
theorem PlS.append {lo g2 g3 g4 gT gU : Nat} {sv : Value} {x : Ac} {ux vx vT0 vT vU v' : Value} {lT lU : List Ac} {w W0 W W' : World} (h : PlS lo g2 g3 g4 gT gU sv x ux vx vT0 vT vU lT lU w W0 W) (hG : PlG w lo g2 g3 g4 gT gU)
  {p : Ac} {u v : Value} (hp : p.ok) (ha : AcO lo W p u v) (hd : ∀ g, u.ownBlock = some g ∨ v.ownBlock = some g → vT.ownBlock ≠ some g ∧ vU.ownBlock ≠ some g)
  (hg : W.grownBy W' vT.ownBlock) (hb : v'.ownBlock = vT.ownBlock ∨ v'.ownBlock = some W.heap.size) {cs : List Value} (hcs : W.ownsRow lo 37 8 vT lT.length cs) (ho : W'.ownsRow lo 37 8 v' (lT.length + 1) (cs ++ (acc p u v).toList)) :
  PlS lo g2 g3 g4 gT gU sv x ux vx vT0 v' vU (lT ++ [p]) lU w W0 W' := by
 have hr : ∀ g, vT.ownBlock = some g → lo ≤ g := fun g e => (hcs.lt g e).1
 refine ⟨h.1.kept hg hr ⟨hG.b.1, hG.b.2.1, hG.b.2.2.1⟩, Cs.kept h.2.1 hg (fun e => by have := hr gT (by first | exact e | exact e.symm); have := hG.b; omega), Cs.kept h.2.2.1 hg (fun e => by have := hr gU (by first | exact e | exact e.symm); have := hG.b; omega),
  h.2.2.2.1.add hp ha hd hg hb (fun g e => (h.2.2.2.2.1.lt g e).2) (fun cs' h' => by rw [own_uniq h' hcs]; exact ho), h.2.2.2.2.1.other hg hb, h.2.2.2.2.2.own hcs (by have := hG.a; have := hG.b; omega) hg⟩
theorem PlS.store {lo g2 g3 g4 gT gU : Nat} {sv : Value} {x : Ac} {ux vx vT0 vT vU : Value} {lT lU : List Ac} {w W0 W : World} (h : PlS lo g2 g3 g4 gT gU sv x ux vx vT0 vT vU lT lU w W0 W) (hG : PlG w lo g2 g3 g4 gT gU) :
  PlS lo g2 g3 g4 gT gU sv x ux vx vT vT vU lT lU w W0 (W.setCell ⟨gT, 0, none⟩ vT) := by
 obtain ⟨c1, c2, c3, c4⟩ := hG.c
 refine ⟨⟨Cs.kept h.1.1 (grown_set _ _ _ _) (some_ne (by omega)), Cs.kept h.1.2.1 (grown_set _ _ _ _) (some_ne (by omega)), Cs.kept h.1.2.2 (grown_set _ _ _ _) (some_ne (by omega))⟩, by simpa using Cs.set h.2.1 0 vT, Cs.kept h.2.2.1 (grown_set _ _ _ _) (some_ne (by omega)),
  h.2.2.2.1.kept (grown_set _ _ _ _) (fun g e => .inl (by cases e; exact hG.b.2.2.2.1)), h.2.2.2.2.1.kept (grown_set _ _ _ _) (fun g e => .inl (by cases e; exact hG.b.2.2.2.1)), h.2.2.2.2.2.set _ _ _ hG.a.2.2.2.1⟩
def PlC (lo : Nat) (vT vU : Value) (p : Ac) (W : World) (val : Value) : Prop := ∃ u v, val = .agg (acc p u v) ∧ AcO lo W p u v ∧ ∀ g, u.ownBlock = some g ∨ v.ownBlock = some g → vT.ownBlock ≠ some g ∧ vU.ownBlock ≠ some g
def PlD (lo : Nat) (vT vU : Value) (p : Ac) (W : World) (val : Value) : Prop := ∃ g u v, val = .slice (some ⟨g, 0, none⟩) 1 1 ∧ Cs W g 37 (acc p u v) ∧ AcO lo W p u v ∧ ∀ g, u.ownBlock = some g ∨ v.ownBlock = some g → vT.ownBlock ≠ some g ∧ vU.ownBlock ≠ some g
theorem PlC.ext {lo : Nat} {vT vU : Value} {p : Ac} {W W' : World} {val : Value} (h : PlC lo vT vU p W val) (he : Ext W W') : PlC lo vT vU p W' val := by
 obtain ⟨u, v, h1, h2, h3⟩ := h
 exact ⟨u, v, h1, h2.ext he, h3⟩
theorem PlD.ext {lo : Nat} {vT vU : Value} {p : Ac} {W W' : World} {val : Value} (h : PlD lo vT vU p W val) (he : Ext W W') : PlD lo vT vU p W' val := by
 obtain ⟨g, u, v, h1, h2, h3, h4⟩ := h
 exact ⟨g, u, v, h1, Cs.ext h2 he, h3.ext he, h4⟩
theorem PlC.new {lo g2 g3 g4 gT gU : Nat} {sv : Value} {x : Ac} {ux vx vT0 vT vU : Value} {lT lU : List Ac} {w W0 W W' : World} (h : PlS lo g2 g3 g4 gT gU sv x ux vx vT0 vT vU lT lU w W0 W) {p : Ac} {u v : Value} (hlo : lo ≤ W.heap.size) (ho : AcO W.heap.size W' p u v) : PlC lo vT vU p W' (.agg (acc p u v)) :=
 ⟨u, v, rfl, ho.low hlo, fun g hg => ⟨fun e => by have := (h.2.2.2.1.lt g e).2; have := (ho.lt g hg).1; omega, fun e => by have := (h.2.2.2.2.1.lt g e).2; have := (ho.lt g hg).1; omega⟩⟩
theorem PlD.new {lo : Nat} {vT vU : Value} {p : Ac} {W : World} {u v : Value} (h : AcO lo W p u v ∧ ∀ g, u.ownBlock = some g ∨ v.ownBlock = some g → vT.ownBlock ≠ some g ∧ vU.ownBlock ≠ some g) : PlD lo vT vU p (W.alloc (.cells (acc p u v) 37)) (.slice (some ⟨W.heap.size, 0, none⟩) 1 1) :=
 ⟨_, u, v, rfl, Cs.new _ _ _ _ rfl, h.1.ext ((Ext.refl _).alloc _), h.2⟩
def SlN (n : Nat) (_ : World) (val : Value) : Prop := ∃ A c, val = .slice A n c
theorem SlN.ext {n : Nat} {W W' : World} {val : Value} (h : SlN n W val) (_ : Ext W W') : SlN n W' val := h
theorem SlN.of {W : World} {base s n : Nat} {e : TypeId} {v : Value} {cs : List Value} (h : W.ownsRow base e s v n cs) : SlN n W v := by
 obtain ⟨_, A, c, e, _⟩ := Rs.of_own h
 exact ⟨A, c, e⟩
theorem rs_one {W : World} {g : Nat} {p : Ac} {u v : Value} (h : Cs W g 37 (acc p u v)) : Rs W 8 (.slice (some ⟨g, 0, none⟩) 1 1) 1 (acc p u v).toList := ⟨rfl, _, _, rfl, Nat.le_refl _, by unfold maxLen; omega, fun _ => ⟨g, 0, rfl, fun i z hz => by
 rw [Nat.zero_add]
 exact Cs.cell h i z (by rwa [Array.getElem?_toList] at hz)⟩⟩
theorem RwA.own1 {lo : Nat} {W : World} {vb va : Value} {l : List Ac} (h : RwA lo W vb va l) : ∃ cs, W.ownsRow lo 37 8 vb l.length cs ∧ ∀ u ∈ cs, u.oneCell' = true := by
 obtain ⟨t, _, h2, _, h4⟩ := h
 refine ⟨_, h2, fun u hu => ?_⟩
 obtain ⟨cs, hc, hu⟩ := List.mem_flatten.1 hu
 obtain ⟨x, hx, rfl⟩ := List.mem_map.1 hc
 exact acc_ones (h4 x hx).2.1 u hu
set_option maxRecDepth 100000 in
theorem stinfo : (Try.prog.info? 24).map (·.size) = some 1 := by kernel_rfl
theorem PlS.loW {lo g2 g3 g4 gT gU : Nat} {sv : Value} {x : Ac} {ux vx vT0 vT vU : Value} {lT lU : List Ac} {w W0 W : World} (h : PlS lo g2 g3 g4 gT gU sv x ux vx vT0 vT vU lT lU w W0 W) (hl : lo ≤ W0.heap.size := by assumption) : lo ≤ W.heap.size := Nat.le_trans hl h.2.2.2.2.2.1.size
theorem PlSA.ext {lo g2 g3 g4 gT gU B : Nat} {sv : Value} {x p : Ac} {ux vx vT0 vT vU u v : Value} {lT lU : List Ac} {w W0 W W' : World} (h : PlS lo g2 g3 g4 gT gU sv x ux vx vT0 vT vU lT lU w W0 W ∧ Ab W B p u v) (he : Ext W W') : PlS lo g2 g3 g4 gT gU sv x ux vx vT0 vT vU lT lU w W0 W' ∧ Ab W' B p u v := ⟨h.1.ext he, h.2.ext he⟩
theorem PlSE.ext {lo g2 g3 g4 gT gU : Nat} {sv : Value} {x : Ac} {ux vx vU : Value} {lT lU : List Ac} {w W0 W W' : World} (h : ∃ vT', PlS lo g2 g3 g4 gT gU sv x ux vx vT' vT' vU lT lU w W0 W) (he : Ext W W') : ∃ vT', PlS lo g2 g3 g4 gT gU sv x ux vx vT' vT' vU lT lU w W0 W' := by
 obtain ⟨vT', h⟩ := h
 exact ⟨vT', h.ext he⟩

def PlI (lo g2 g3 g4 g5 g6 : Nat) (sv : Value) (x : Ac) (ux vx : Value) (ys : List Ac) (W : World) : Prop :=
 ∃ vb va, PlO g2 g3 g4 sv x ux vx W ∧ Cs W g5 22 #[vb] ∧ Cs W g6 22 #[va] ∧ RwA lo W vb va (ltL x ys) ∧ RwA lo W va vb (gtL x ys)
theorem PlI.row {lo g2 g3 g4 g5 g6 B : Nat} {sv : Value} {x : Ac} {ux vx : Value} : OwnFrom B (PlI lo g2 g3 g4 g5 g6 sv x ux vx) := fun ys X Y row hs hg hr => by
 obtain ⟨vb, va, h1, h2, h3, h4, h5⟩ := hs
 exact ⟨vb, va, ⟨row_cs h1.1 hg hr, row_cs h1.2.1 hg hr, row_cs h1.2.2 hg hr⟩, row_cs h2 hg hr, row_cs h3 hg hr, h4.kept hg (fun g e => .inr (.inr (hr g e).2)), h5.kept hg (fun g e => .inr (.inr (hr g e).2))⟩
set_option maxRecDepth 100000 in
set_option maxHeartbeats 4000000 in
theorem placed_any (sv : Value) (l : List Ac) (x : Ac) (ux vx : Value) (w : World) (hs : Acs w sv l) (hx : x.ok) (hux : Bs w ux x.code) (hvx : Pks w vx x.store) (hl : l.length ≤ 100000)
  (hsz : ∀ q ∈ l, q.code.length ≤ 1000000000 ∧ q.store.length ≤ 1000000000) (hxz : x.code.length ≤ 1000000000 ∧ x.store.length ≤ 1000000000) :
  Calls Try.prog 121 #[.agg #[sv], .agg (acc x ux vx)] w fun e w' => ∃ v', e = .returned (.agg #[v']) ∧ RwA w.heap.size w' v' (.slice none 0 0) (plL l x) ∧ Ext w w' := by
 have HS := Lib.hid hs
 have HUX := Lib.hid hux
 have HVX := Lib.hid hvx
 have HSZ := Lib.hid hsz
 obtain ⟨A0, c0, rfl, h1, h2⟩ := hs.len
 obtain ⟨w0, hw0⟩ : ∃ w0, ((((w.alloc (.cells #[.slice A0 l.length c0] 24)).alloc (.cells (acc x ux vx) 37)).alloc (.cells #[.slice none 0 0] 24)).alloc (.cells #[.slice none 0 0] 22)).alloc (.cells #[.slice none 0 0] 22) = w0 := ⟨_, rfl⟩
 have HJ0 : Hid (PlI (w.heap.size + 1 + 1 + 1 + 1 + 1) w.heap.size (w.heap.size + 1) (w.heap.size + 1 + 1) (w.heap.size + 1 + 1 + 1) (w.heap.size + 1 + 1 + 1 + 1) (.slice A0 l.length c0) x ux vx [] w0) := by
  rw [← hw0]
  exact Lib.hid ⟨.slice none 0 0, .slice none 0 0, ⟨Cs.alloc (Cs.alloc (Cs.alloc (Cs.alloc (Cs.new _ _ _ _ rfl) _) _) _) _, Cs.alloc (Cs.alloc (Cs.alloc (Cs.new _ _ _ _ (by simp)) _) _) _, Cs.alloc (Cs.alloc (Cs.new _ _ _ _ (by simp)) _) _⟩, Cs.alloc (Cs.new _ _ _ _ (by simp)) _, Cs.new _ _ _ _ (by simp), RwA.nil _ _ _, RwA.nil _ _ _⟩
 have HE0 : Hid (Ext w w0) := by rw [← hw0]; exact Lib.hid (((((Ext.refl w).alloc _).alloc _).alloc _).alloc _ |>.alloc _)
 have HZ0 : Hid (w0.heap.size = w.heap.size + 1 + 1 + 1 + 1 + 1) := by rw [← hw0]; exact Lib.hid (by simp)
 have HW0 := Lib.hid hw0
 clear hs hw0 hux hvx hsz
 obtain ⟨cx, hcx⟩ : ∃ cx, acc x ux vx = cx := ⟨_, rfl⟩
 have HCX := Lib.hid hcx
 rw [hcx] at HW0
 rw [hcx]
 clear hcx
 refine (callsIn_wide (n := 9)).1 ?_
 refine callsIn_of_wp_marks Try.func121 rfl trivial ?_ rfl
 simp only [Try.ntmps121, List.size_toArray, List.length_cons, List.length_nil, Nat.reduceAdd, Nat.reduceSub, Array.replicate_succ, Array.replicate_zero, List.push_toArray, List.append_toArray, List.nil_append, List.cons_append]
 gi_wp2_with fail
 rw [HW0.out]
 refine ⟨trivial, ?_⟩
 have HG : Hid (w.heap.size < w.heap.size + 1 ∧ w.heap.size + 1 < w.heap.size + 1 + 1 ∧ w.heap.size + 1 + 1 < w.heap.size + 1 + 1 + 1 ∧ w.heap.size + 1 + 1 + 1 < w.heap.size + 1 + 1 + 1 + 1 ∧ w.heap.size + 1 + 1 + 1 + 1 < w.heap.size + 1 + 1 + 1 + 1 + 1 ∧ w.heap.size + 1 + 1 + 1 + 1 + 1 ≤ w0.heap.size) := Lib.hid (by have := HZ0.out; omega)
 clear HW0 HCX HZ0
 generalize w.heap.size + 1 + 1 + 1 + 1 + 1 = lo at *
 generalize w.heap.size + 1 + 1 + 1 + 1 = g6 at *
 generalize w.heap.size + 1 + 1 + 1 = g5 at *
 generalize w.heap.size + 1 + 1 = g4 at *
 generalize w.heap.size + 1 = g3 at *
 have HG56 : Hid (PlG w lo w.heap.size g3 g4 g5 g6) := Lib.hid (by obtain ⟨a1, a2, a3, a4, a5, _⟩ := HG.out; exact ⟨by omega, by omega, by omega⟩)
 have HG65 : Hid (PlG w lo w.heap.size g3 g4 g6 g5) := Lib.hid (by obtain ⟨a1, a2, a3, a4, a5, _⟩ := HG.out; exact ⟨by omega, by omega, by omega⟩)
 refine (callsIn_wide.2 (accounts_any _ rfl _)).mono ?_
 rintro e w1 ⟨rfl, hc, hz, he⟩
 have HJ1 : Hid (PlI lo w.heap.size g3 g4 g5 g6 (.slice A0 l.length c0) x ux vx [] w1) := by
  obtain ⟨vb, va, k1, k2, k3, k4, k5⟩ := HJ0.out
  exact Lib.hid ⟨vb, va, k1.ext he, Cs.ext k2 he, Cs.ext k3 he, k4.ext he, k5.ext he⟩
 have HE1 := Lib.hid (HE0.out.trans he)
 have HG1 := Lib.hid (show lo < w1.heap.size ∧ w.heap.size < lo by have := HG.out; rw [hz]; omega)
 clear HJ0 HE0 hz he
 gi_wp2_with fail
 refine range_acs A0 c0 w0.heap.size l HS.out HE1.out hc rfl
  (fun ys W => PlI lo w.heap.size g3 g4 g5 g6 (.slice A0 l.length c0) x ux vx ys W)
  (fun _ _ _ => False) PlI.row (fun _ _ _ _ _ h _ _ => h) HJ1.out 7 ?assign ?body ?done ?stop
 case assign =>
  intro lp p u v W K hu hv hK
  have HK := Lib.hid hK
  clear hK
  gi_wp2_with (first
   | ((with_reducible refine wpListIn_store_ac ?_ ?_ (.tmp 7) (.tmp 10) ?_ W.heap.size az0 p u v ?_ ?_ ?_ ?_ ?_ ?_ ?_); (exact rfl); (exact rfl); (exact rfl); (exact hu); (exact hv); (exact rfl); (exact rfl); (exact Cs.new _ _ _ _ rfl); (exact rfl); intro w4 k4 g4; have K4 := Lib.hid (HK.out _ k4 (((Ext.refl W).alloc _).grown g4 (Nat.le_refl _))); clear k4 g4)
   | fail)
  exact K4.out
 case body =>
  rintro lp ys p pu pv B W0 hB hp hok hu hv hlen ⟨vb, va, hO, h5, h6, hb, ha⟩ hE hA
  simp only [List.setIfInBounds_toArray, List.set_cons_zero, List.set_cons_succ]
  have c1 := hA.addr
  have c2 := hO.2.1.addr
  have HJ := Lib.hid (show PlO w.heap.size g3 g4 (.slice A0 l.length c0) x ux vx W0 ∧ Cs W0 g5 22 #[vb] ∧ Cs W0 g6 22 #[va] ∧ RwA lo W0 vb va (ltL x ys) ∧ RwA lo W0 va vb (gtL x ys) from ⟨hO, h5, h6, hb, ha⟩)
  have HT := Lib.hid (show Trk w W0 W0 from ⟨KeepsOthers.refl _, Below.refl _ _, hE⟩)
  have HA := Lib.hid hA
  have HCP := Lib.hid (fun W (h : Ext w W) => copied_any p pu pv W (hu.ext h) (hv.ext h) (HSZ.out p hp).1 (HSZ.out p hp).2)
  have HLB := Lib.hid (show (ltL x ys).length + 1 ≤ 1099511627776 by have := List.length_filter_le (fun p => decide (p.addr < x.addr)) ys; unfold ltL; omega)
  have HLA := Lib.hid (show (gtL x ys).length + 1 ≤ 1099511627776 by have := List.length_filter_le (fun p => decide (x.addr < p.addr)) ys; unfold gtL; omega)
  have HBW := Lib.hid (show lo ≤ W0.heap.size by have := HG1.out; have := Cs.lt hA; omega)
  clear hO h5 h6 hb ha hE hA hu hv hp hlen hc HJ1
  by_cases e1 : p.addr < x.addr
  ·have d1 : decide ((p.addr : Int) < (x.addr : Int)) = true := decide_eq_true (by omega)
   have d2 : decide (p.addr < x.addr) = true := decide_eq_true e1
   have HLT := Lib.hid (show ltL x (ys ++ [p]) = ltL x ys ++ [p] by simp [ltL, e1])
   have HGT := Lib.hid (show gtL x (ys ++ [p]) = gtL x ys by simp [gtL]; omega)
   clear e1
   generalize gtL x ys = la at *
   generalize ltL x ys = lb at *
   obtain ⟨AT, cT, rfl⟩ := HJ.out.2.2.2.1.shape
   have HS0 := Lib.hid (show PlS lo w.heap.size g3 g4 g5 g6 (.slice A0 l.length c0) x ux vx (.slice AT lb.length cT) (.slice AT lb.length cT) va lb la w W0 W0 ∧ Ab W0 B p pu pv from ⟨⟨HJ.out.1, HJ.out.2.1, HJ.out.2.2.1, HJ.out.2.2.2.1, HJ.out.2.2.2.2, HT.out⟩, HA.out⟩)
   clear HJ HT HA
   gi_wp2_with fail
   refine wpIn_named fun a0 ha0 => ?_
   obtain ⟨fr, hfr⟩ : ∃ fr : (Nat → Value) → Act, ∀ V, fr V = (((((a0.put (some 17) (V 0)).put (some 18) (V 1)).put (some 19) (V 2)).put (some 20) (V 3)).put (some 21) (V 4)) := ⟨_, fun _ => rfl⟩
   rw [ha0] at hfr
   simp only [Act.put, List.setIfInBounds_toArray, List.set_cons_zero, List.set_cons_succ] at hfr
   have HFR := Lib.hid hfr
   clear hfr
   refine wpIn_region_inv (by kernel_rfl) (by kernel_rfl) (fun L A W => ∃ V : Nat → Value, A = fr V ∧ Vals (fun j => ([some (.slice AT lb.length cT), some (.agg (acc p pu pv)), none, none, none, none] : List (Option Value)).getD j none) L V ∧ (L 4 = false → PlS lo w.heap.size g3 g4 g5 g6 (.slice A0 l.length c0) x ux vx (.slice AT lb.length cT) (.slice AT lb.length cT) va lb la w W0 W ∧ Ab W B p pu pv) ∧ (L 4 = true → L 5 = false → PlS lo w.heap.size g3 g4 g5 g6 (.slice A0 l.length c0) x ux vx (.slice AT lb.length cT) (V 4) va (lb ++ [p]) la w W0 W) ∧ (L 5 = true → ∃ vT', PlS lo w.heap.size g3 g4 g5 g6 (.slice A0 l.length c0) x ux vx vT' vT' va (lb ++ [p]) la w W0 W) ∧ (L 4 = false → L 2 = true → PlC lo (.slice AT lb.length cT) va p W (V 2)) ∧ (L 4 = false → L 3 = true → PlD lo (.slice AT lb.length cT) va p W (V 3)) ∧ (L 5 = false → L 4 = true → SlN (lb.length + 1) W (V 4))) ?_ ⟨?_, ?_, ?_, ?_, ?_, ?_, trivial⟩ ?_
   ·refine ⟨fun j => a0.tmps.getD (([17, 18, 19, 20, 21, 0] : List Nat).getD j 0) undef, ?_, Vals.no _ _ _ (far_none _ _ rfl), fun _ => ⟨HS0.out.1.ext (Ext.refl _).drew, HS0.out.2.ext (Ext.refl _).drew⟩, fun h0 h1 => absurd h0 (by decide), fun h0 => absurd h0 (by decide), fun h0 h1 => absurd h1 (by decide), fun h0 h1 => absurd h1 (by decide), fun h0 h1 => absurd h1 (by decide)⟩
    rw [HFR.out, ha0]
    rfl
   all_goals clear ha0
   ·rintro L A W K hL hC hW ⟨V, rfl, HV, s0, s1, s2, f2, f3, f4⟩ hK
    have hB := s0 (hC.no hL 4 _ rfl rfl)
    have H := Lib.hid (show ∀ W', Ext W W' → K (fr (upd V 0 (.slice AT lb.length cT))) W' from fun W' he => hK _ _ ⟨_, rfl, HV.us 0 _ rfl, fun h0 => PlSA.ext (s0 (mnf h0 rfl)) he, fun h0 h1 => PlS.ext (s1 (more_ne h0 rfl) (mnf h1 rfl)) he, fun h0 => PlSE.ext (s2 (more_ne h0 rfl)) he, fun h0 h1 => PlC.ext (f2 (mnf h0 rfl) (more_ne h1 rfl)) he, fun h0 h1 => PlD.ext (f3 (mnf h0 rfl) (more_ne h1 rfl)) he, fun h0 h1 => SlN.ext (f4 (mnf h0 rfl) (more_ne h1 rfl)) he⟩)
    clear hK hC hW hL HV s0 s1 s2 f2 f3 f4
    rw [HFR.out]
    have hcl : W.cell? ⟨g5, 0, none⟩ = some (.slice AT lb.length cT) := hB.1.2.1.cell 0 _ rfl
    clear hB
    gi_wp2_with fail
    show K _ _; have := H.out _ (Ext.refl _); rw [HFR.out] at this
    exact this
   ·rintro L A W K hL hC hW ⟨V, rfl, HV, s0, s1, s2, f2, f3, f4⟩ hK
    have hB := s0 (hC.no (hC.no (hC.no hL 2 _ rfl rfl) 3 _ rfl rfl) 4 _ rfl rfl)
    have H := Lib.hid (show ∀ W', Ext W W' → K (fr (upd V 1 (.agg (acc p pu pv)))) W' from fun W' he => hK _ _ ⟨_, rfl, HV.us 1 _ rfl, fun h0 => PlSA.ext (s0 (mnf h0 rfl)) he, fun h0 h1 => PlS.ext (s1 (more_ne h0 rfl) (mnf h1 rfl)) he, fun h0 => PlSE.ext (s2 (more_ne h0 rfl)) he, fun h0 h1 => PlC.ext (f2 (mnf h0 rfl) (more_ne h1 rfl)) he, fun h0 h1 => PlD.ext (f3 (mnf h0 rfl) (more_ne h1 rfl)) he, fun h0 h1 => SlN.ext (f4 (mnf h0 rfl) (more_ne h1 rfl)) he⟩)
    clear hK hC hW hL HV s0 s1 s2 f2 f3 f4
    rw [HFR.out]
    have HWD := Lib.hid hB.2.range
    clear hB
    refine wpListIn_load_ac rfl (.tmp 7) rfl B 0 p pu pv rfl HWD.out ?_
    show K _ _; have := H.out _ (Ext.refl _); rw [HFR.out] at this
    exact this
   ·rintro L A W K hL hC hW ⟨V, rfl, HV, s0, s1, s2, f2, f3, f4⟩ hK
    have e1 := HV 1 _ rfl (hW 1 rfl)
    have hB := s0 (hC.no (hC.no hL 3 _ rfl rfl) 4 _ rfl rfl)
    have H := Lib.hid (show ∀ v W', Ext W W' → (PlC lo (.slice AT lb.length cT) va p W' v) → K (fr (upd V 2 v)) W' from fun v W' he hp => hK _ _ ⟨_, rfl, HV.un 2 _ rfl, fun h0 => PlSA.ext (s0 (mnf h0 rfl)) he, fun h0 h1 => PlS.ext (s1 (more_ne h0 rfl) (mnf h1 rfl)) he, fun h0 => PlSE.ext (s2 (more_ne h0 rfl)) he, fun h0 h1 => hp, fun h0 h1 => PlD.ext (f3 (mnf h0 rfl) (more_ne h1 rfl)) he, fun h0 h1 => SlN.ext (f4 (mnf h0 rfl) (more_ne h1 rfl)) he⟩)
    have HU := Lib.hid (show ∀ v, (upd V 2 v) 1 = .agg (acc p pu pv) from fun v => e1)
    clear hK hC hW hL HV s0 s1 s2 f2 f3 f4
    rw [HFR.out, e1]
    clear e1
    have HB := Lib.hid hB
    clear hB
    gi_wp2_with fail
    refine ⟨trivial, ?_⟩
    refine (CallsIn.inRound _ (callsIn_wide.2 (HCP.out _ HB.out.1.2.2.2.2.2.2.2))).mono ?_
    rintro e wx ⟨u', v', rfl, ho, he⟩
    have := H.out _ _ he (PlC.new HB.out.1 (HB.out.1.loW HBW.out) ho)
    clear H
    gi_wp2_with fail
    show K _ _
    rw [HFR.out] at this
    obtain u1 := HU.out _
    rw [u1] at this
    exact this
   ·rintro L A W K hL hC hW ⟨V, rfl, HV, s0, s1, s2, f2, f3, f4⟩ hK
    have hB := s0 (hC.no hL 4 _ rfl rfl)
    have q2 := f2 (hC.no hL 4 _ rfl rfl) (hW 2 rfl)
    obtain ⟨u2, v2, e2, z2⟩ := q2
    have H := Lib.hid (show ∀ v W', Ext W W' → (PlD lo (.slice AT lb.length cT) va p W' v) → K (fr (upd V 3 v)) W' from fun v W' he hp => hK _ _ ⟨_, rfl, HV.un 3 _ rfl, fun h0 => PlSA.ext (s0 (mnf h0 rfl)) he, fun h0 h1 => PlS.ext (s1 (more_ne h0 rfl) (mnf h1 rfl)) he, fun h0 => PlSE.ext (s2 (more_ne h0 rfl)) he, fun h0 h1 => PlC.ext (f2 (mnf h0 rfl) (more_ne h1 rfl)) he, fun h0 h1 => hp, fun h0 h1 => SlN.ext (f4 (mnf h0 rfl) (more_ne h1 rfl)) he⟩)
    have HU := Lib.hid (show ∀ v, (upd V 3 v) 2 = .agg (acc p u2 v2) from fun v => e2)
    clear hK hC hW hL HV s0 s1 s2 f2 f3 f4
    rw [HFR.out, e2]
    clear e2
    clear hB
    refine wpListIn_build_one rfl (.tmp 19) 22 37 rfl Try.underlying22 _ 8 96 acinfo3 (by decide) (by decide) (acc p u2 v2) rfl rfl ?_
    show K _ _; have := H.out (.slice (some ⟨W.heap.size, 0, none⟩) 1 1) _ ((Ext.refl W).alloc (.cells (acc p u2 v2) 37)) (PlD.new z2); rw [HFR.out] at this
    obtain u2 := HU.out _
    rw [u2] at this
    exact this
   ·rintro L A W K hL hC hW ⟨V, rfl, HV, s0, s1, s2, f2, f3, f4⟩ hK
    have e0 := HV 0 _ rfl (hW 0 rfl)
    have hB := s0 hL
    have q3 := f3 hL (hW 3 rfl)
    obtain ⟨g3', u3, v3, e3, k3, z3⟩ := q3
    have H := Lib.hid (show ∀ v W', (PlS lo w.heap.size g3 g4 g5 g6 (.slice A0 l.length c0) x ux vx (.slice AT lb.length cT) v va (lb ++ [p]) la w W0 W') → (SlN (lb.length + 1) W' v) → K (fr (upd V 4 v)) W' from fun v W' hA hp => hK _ _ ⟨_, rfl, HV.un 4 _ rfl, fun h0 => msf h0, fun h0 h1 => hA, fun h0 => mtf (hC.no hL 5 _ rfl rfl) (more_ne h0 rfl), fun h0 h1 => msf h0, fun h0 h1 => msf h0, fun h0 h1 => hp⟩)
    have HU := Lib.hid (show ∀ v, (upd V 4 v) 0 = .slice AT lb.length cT ∧ (upd V 4 v) 3 = .slice (some ⟨g3', 0, none⟩) 1 1 from fun v => ⟨e0, e3⟩)
    clear hK hC hW hL HV s0 s1 s2 f2 f3 f4
    rw [HFR.out, e0, e3]
    clear e0 e3
    have HB := Lib.hid hB
    have K3 := Lib.hid k3
    have Z3 := Lib.hid z3
    clear hB k3 z3
    obtain ⟨cs, hcs⟩ := HB.out.1.2.2.2.1.own
    have HCS := Lib.hid hcs
    clear hcs
    refine wpListIn_append_row rfl (.tmp 17) (.tmp 20) 22 rfl lo 37 Try.underlying22 _ 8 96 acinfo3 rfl (by decide) (.slice AT lb.length cT) lb.length cs rfl HCS.out (.slice (some ⟨g3', 0, none⟩) 1 1) 1 (acc p u3 v3).toList rfl (rs_one K3.out) (acc_ones Z3.out.1) HLB.out (by decide) (HB.out.1.loW HBW.out) ?_
    intro v5 w5 o5 g5' b5
    have HA := Lib.hid (HB.out.1.append HG56.out hok Z3.out.1 Z3.out.2 g5' b5 HCS.out o5)
    have HP : Hid (SlN (lb.length + 1) w5 v5) := Lib.hid (SlN.of o5)
    clear o5 g5' b5
    show K _ _; have := H.out _ _ HA.out HP.out; rw [HFR.out] at this
    obtain ⟨u0, u3⟩ := HU.out _
    rw [u0, u3] at this
    exact this
   ·rintro L A W K hL hC hW ⟨V, rfl, HV, s0, s1, s2, f2, f3, f4⟩ hK
    have hB := s1 (hW 4 rfl) hL
    have q4 := f4 hL (hW 4 rfl)
    obtain ⟨A4, c4, e4⟩ := q4
    have H := Lib.hid (show ∀ W', (∃ vT', PlS lo w.heap.size g3 g4 g5 g6 (.slice A0 l.length c0) x ux vx vT' vT' va (lb ++ [p]) la w W0 W') → K (fr (V)) W' from fun W' hA => hK _ _ ⟨V, rfl, HV.st 5 rfl, fun h0 => mtf (mnf h0 rfl) (hW 4 rfl), fun h0 h1 => msf h1, fun h0 => hA, fun h0 h1 => mtf (mnf h0 rfl) (hW 4 rfl), fun h0 h1 => mtf (mnf h0 rfl) (hW 4 rfl), fun h0 h1 => msf h0⟩)
    have HU := Lib.hid (show (V) 4 = .slice A4 (lb.length + 1) c4 from e4)
    clear hK hC hW hL HV s0 s1 s2 f2 f3 f4
    rw [HFR.out, e4]
    clear e4
    have HB := Lib.hid hB
    have hc : W.cell? ⟨g5, 0, none⟩ = some (.slice AT lb.length cT) := hB.2.1.cell 0 _ rfl
    have hf : W.frozen? ⟨g5, 0, none⟩ = false := hB.2.1.frozen 0
    clear hB
    gi_wp2_with fail
    have HA : Hid (∃ vT', PlS lo w.heap.size g3 g4 g5 g6 (.slice A0 l.length c0) x ux vx vT' vT' va (lb ++ [p]) la w W0 (W.setCell ⟨g5, 0, none⟩ (.slice A4 (lb.length + 1) c4))) := Lib.hid ⟨_, by have h := HB.out; rw [HU.out] at h; exact h.store HG56.out⟩
    show K _ _; have := H.out _ HA.out; rw [HFR.out] at this
    obtain u4 := HU.out
    rw [u4] at this
    exact this
   ·rintro L A W hL ⟨V, rfl, HV, s0, s1, s2, f2, f3, f4⟩
    have e0 := HV 0 _ rfl (hL 0 (by simp))
    have e1 := HV 1 _ rfl (hL 1 (by simp))
    have hA := s2 (hL 5 (by simp))
    rw [HFR.out, e0, e1]
    clear hL HV HFR e0 e1 s0 s1 s2 f2 f3 f4
    obtain ⟨vT', hA⟩ := hA
    have HA := Lib.hid hA
    clear hA
    gi_wp2_with fail
    exact ⟨HA.out.2.2.2.2.2.1.from _, HA.out.2.2.2.2.2.2.1, vT', va, HA.out.1, HA.out.2.1, HA.out.2.2.1, by rw [HLT.out]; exact HA.out.2.2.2.1, by rw [HGT.out]; exact HA.out.2.2.2.2.1⟩
  ·have d1 : decide ((p.addr : Int) < (x.addr : Int)) = false := decide_eq_false (by omega)
   have d2 : decide (p.addr < x.addr) = false := decide_eq_false e1
   by_cases e2 : x.addr < p.addr
   ·have d3 : decide ((x.addr : Int) < (p.addr : Int)) = true := decide_eq_true (by omega)
    have d4 : decide (x.addr < p.addr) = true := decide_eq_true e2
    have HLT := Lib.hid (show ltL x (ys ++ [p]) = ltL x ys by simp [ltL]; omega)
    have HGT := Lib.hid (show gtL x (ys ++ [p]) = gtL x ys ++ [p] by simp [gtL, e2])
    clear e1 e2
    generalize gtL x ys = la at *
    generalize ltL x ys = lb at *
    obtain ⟨AT, cT, rfl⟩ := HJ.out.2.2.2.2.shape
    have HS0 := Lib.hid (show PlS lo w.heap.size g3 g4 g6 g5 (.slice A0 l.length c0) x ux vx (.slice AT la.length cT) (.slice AT la.length cT) vb la lb w W0 W0 ∧ Ab W0 B p pu pv from ⟨⟨HJ.out.1, HJ.out.2.2.1, HJ.out.2.1, HJ.out.2.2.2.2, HJ.out.2.2.2.1, HT.out⟩, HA.out⟩)
    clear HJ HT HA
    gi_wp2_with fail
    refine wpIn_named fun a0 ha0 => ?_
    obtain ⟨fr, hfr⟩ : ∃ fr : (Nat → Value) → Act, ∀ V, fr V = (((((a0.put (some 28) (V 0)).put (some 29) (V 1)).put (some 30) (V 2)).put (some 31) (V 3)).put (some 32) (V 4)) := ⟨_, fun _ => rfl⟩
    rw [ha0] at hfr
    simp only [Act.put, List.setIfInBounds_toArray, List.set_cons_zero, List.set_cons_succ] at hfr
    have HFR := Lib.hid hfr
    clear hfr
    refine wpIn_region_inv (by kernel_rfl) (by kernel_rfl) (fun L A W => ∃ V : Nat → Value, A = fr V ∧ Vals (fun j => ([some (.slice AT la.length cT), some (.agg (acc p pu pv)), none, none, none, none] : List (Option Value)).getD j none) L V ∧ (L 4 = false → PlS lo w.heap.size g3 g4 g6 g5 (.slice A0 l.length c0) x ux vx (.slice AT la.length cT) (.slice AT la.length cT) vb la lb w W0 W ∧ Ab W B p pu pv) ∧ (L 4 = true → L 5 = false → PlS lo w.heap.size g3 g4 g6 g5 (.slice A0 l.length c0) x ux vx (.slice AT la.length cT) (V 4) vb (la ++ [p]) lb w W0 W) ∧ (L 5 = true → ∃ vT', PlS lo w.heap.size g3 g4 g6 g5 (.slice A0 l.length c0) x ux vx vT' vT' vb (la ++ [p]) lb w W0 W) ∧ (L 4 = false → L 2 = true → PlC lo (.slice AT la.length cT) vb p W (V 2)) ∧ (L 4 = false → L 3 = true → PlD lo (.slice AT la.length cT) vb p W (V 3)) ∧ (L 5 = false → L 4 = true → SlN (la.length + 1) W (V 4))) ?_ ⟨?_, ?_, ?_, ?_, ?_, ?_, trivial⟩ ?_
    ·refine ⟨fun j => a0.tmps.getD (([28, 29, 30, 31, 32, 0] : List Nat).getD j 0) undef, ?_, Vals.no _ _ _ (far_none _ _ rfl), fun _ => ⟨HS0.out.1.ext (Ext.refl _).drew, HS0.out.2.ext (Ext.refl _).drew⟩, fun h0 h1 => absurd h0 (by decide), fun h0 => absurd h0 (by decide), fun h0 h1 => absurd h1 (by decide), fun h0 h1 => absurd h1 (by decide), fun h0 h1 => absurd h1 (by decide)⟩
     rw [HFR.out, ha0]
     rfl
    all_goals clear ha0
    ·rintro L A W K hL hC hW ⟨V, rfl, HV, s0, s1, s2, f2, f3, f4⟩ hK
     have hB := s0 (hC.no hL 4 _ rfl rfl)
     have H := Lib.hid (show ∀ W', Ext W W' → K (fr (upd V 0 (.slice AT la.length cT))) W' from fun W' he => hK _ _ ⟨_, rfl, HV.us 0 _ rfl, fun h0 => PlSA.ext (s0 (mnf h0 rfl)) he, fun h0 h1 => PlS.ext (s1 (more_ne h0 rfl) (mnf h1 rfl)) he, fun h0 => PlSE.ext (s2 (more_ne h0 rfl)) he, fun h0 h1 => PlC.ext (f2 (mnf h0 rfl) (more_ne h1 rfl)) he, fun h0 h1 => PlD.ext (f3 (mnf h0 rfl) (more_ne h1 rfl)) he, fun h0 h1 => SlN.ext (f4 (mnf h0 rfl) (more_ne h1 rfl)) he⟩)
     clear hK hC hW hL HV s0 s1 s2 f2 f3 f4
     rw [HFR.out]
     have hcl : W.cell? ⟨g6, 0, none⟩ = some (.slice AT la.length cT) := hB.1.2.1.cell 0 _ rfl
     clear hB
     gi_wp2_with fail
     show K _ _; have := H.out _ (Ext.refl _); rw [HFR.out] at this
     exact this
    ·rintro L A W K hL hC hW ⟨V, rfl, HV, s0, s1, s2, f2, f3, f4⟩ hK
     have hB := s0 (hC.no (hC.no (hC.no hL 2 _ rfl rfl) 3 _ rfl rfl) 4 _ rfl rfl)
     have H := Lib.hid (show ∀ W', Ext W W' → K (fr (upd V 1 (.agg (acc p pu pv)))) W' from fun W' he => hK _ _ ⟨_, rfl, HV.us 1 _ rfl, fun h0 => PlSA.ext (s0 (mnf h0 rfl)) he, fun h0 h1 => PlS.ext (s1 (more_ne h0 rfl) (mnf h1 rfl)) he, fun h0 => PlSE.ext (s2 (more_ne h0 rfl)) he, fun h0 h1 => PlC.ext (f2 (mnf h0 rfl) (more_ne h1 rfl)) he, fun h0 h1 => PlD.ext (f3 (mnf h0 rfl) (more_ne h1 rfl)) he, fun h0 h1 => SlN.ext (f4 (mnf h0 rfl) (more_ne h1 rfl)) he⟩)
     clear hK hC hW hL HV s0 s1 s2 f2 f3 f4
     rw [HFR.out]
     have HWD := Lib.hid hB.2.range
     clear hB
     refine wpListIn_load_ac rfl (.tmp 7) rfl B 0 p pu pv rfl HWD.out ?_
     show K _ _; have := H.out _ (Ext.refl _); rw [HFR.out] at this
     exact this
    ·rintro L A W K hL hC hW ⟨V, rfl, HV, s0, s1, s2, f2, f3, f4⟩ hK
     have e1 := HV 1 _ rfl (hW 1 rfl)
     have hB := s0 (hC.no (hC.no hL 3 _ rfl rfl) 4 _ rfl rfl)
     have H := Lib.hid (show ∀ v W', Ext W W' → (PlC lo (.slice AT la.length cT) vb p W' v) → K (fr (upd V 2 v)) W' from fun v W' he hp => hK _ _ ⟨_, rfl, HV.un 2 _ rfl, fun h0 => PlSA.ext (s0 (mnf h0 rfl)) he, fun h0 h1 => PlS.ext (s1 (more_ne h0 rfl) (mnf h1 rfl)) he, fun h0 => PlSE.ext (s2 (more_ne h0 rfl)) he, fun h0 h1 => hp, fun h0 h1 => PlD.ext (f3 (mnf h0 rfl) (more_ne h1 rfl)) he, fun h0 h1 => SlN.ext (f4 (mnf h0 rfl) (more_ne h1 rfl)) he⟩)
     have HU := Lib.hid (show ∀ v, (upd V 2 v) 1 = .agg (acc p pu pv) from fun v => e1)
     clear hK hC hW hL HV s0 s1 s2 f2 f3 f4
     rw [HFR.out, e1]
     clear e1
     have HB := Lib.hid hB
     clear hB
     gi_wp2_with fail
     refine ⟨trivial, ?_⟩
     refine (CallsIn.inRound _ (callsIn_wide.2 (HCP.out _ HB.out.1.2.2.2.2.2.2.2))).mono ?_
     rintro e wx ⟨u', v', rfl, ho, he⟩
     have := H.out _ _ he (PlC.new HB.out.1 (HB.out.1.loW HBW.out) ho)
     clear H
     gi_wp2_with fail
     show K _ _
     rw [HFR.out] at this
     obtain u1 := HU.out _
     rw [u1] at this
     exact this
    ·rintro L A W K hL hC hW ⟨V, rfl, HV, s0, s1, s2, f2, f3, f4⟩ hK
     have hB := s0 (hC.no hL 4 _ rfl rfl)
     have q2 := f2 (hC.no hL 4 _ rfl rfl) (hW 2 rfl)
     obtain ⟨u2, v2, e2, z2⟩ := q2
     have H := Lib.hid (show ∀ v W', Ext W W' → (PlD lo (.slice AT la.length cT) vb p W' v) → K (fr (upd V 3 v)) W' from fun v W' he hp => hK _ _ ⟨_, rfl, HV.un 3 _ rfl, fun h0 => PlSA.ext (s0 (mnf h0 rfl)) he, fun h0 h1 => PlS.ext (s1 (more_ne h0 rfl) (mnf h1 rfl)) he, fun h0 => PlSE.ext (s2 (more_ne h0 rfl)) he, fun h0 h1 => PlC.ext (f2 (mnf h0 rfl) (more_ne h1 rfl)) he, fun h0 h1 => hp, fun h0 h1 => SlN.ext (f4 (mnf h0 rfl) (more_ne h1 rfl)) he⟩)
     have HU := Lib.hid (show ∀ v, (upd V 3 v) 2 = .agg (acc p u2 v2) from fun v => e2)
     clear hK hC hW hL HV s0 s1 s2 f2 f3 f4
     rw [HFR.out, e2]
     clear e2
     clear hB
     refine wpListIn_build_one rfl (.tmp 30) 22 37 rfl Try.underlying22 _ 8 96 acinfo3 (by decide) (by decide) (acc p u2 v2) rfl rfl ?_
     show K _ _; have := H.out (.slice (some ⟨W.heap.size, 0, none⟩) 1 1) _ ((Ext.refl W).alloc (.cells (acc p u2 v2) 37)) (PlD.new z2); rw [HFR.out] at this
     obtain u2 := HU.out _
     rw [u2] at this
     exact this
    ·rintro L A W K hL hC hW ⟨V, rfl, HV, s0, s1, s2, f2, f3, f4⟩ hK
     have e0 := HV 0 _ rfl (hW 0 rfl)
     have hB := s0 hL
     have q3 := f3 hL (hW 3 rfl)
     obtain ⟨g3', u3, v3, e3, k3, z3⟩ := q3
     have H := Lib.hid (show ∀ v W', (PlS lo w.heap.size g3 g4 g6 g5 (.slice A0 l.length c0) x ux vx (.slice AT la.length cT) v vb (la ++ [p]) lb w W0 W') → (SlN (la.length + 1) W' v) → K (fr (upd V 4 v)) W' from fun v W' hA hp => hK _ _ ⟨_, rfl, HV.un 4 _ rfl, fun h0 => msf h0, fun h0 h1 => hA, fun h0 => mtf (hC.no hL 5 _ rfl rfl) (more_ne h0 rfl), fun h0 h1 => msf h0, fun h0 h1 => msf h0, fun h0 h1 => hp⟩)
     have HU := Lib.hid (show ∀ v, (upd V 4 v) 0 = .slice AT la.length cT ∧ (upd V 4 v) 3 = .slice (some ⟨g3', 0, none⟩) 1 1 from fun v => ⟨e0, e3⟩)
     clear hK hC hW hL HV s0 s1 s2 f2 f3 f4
     rw [HFR.out, e0, e3]
     clear e0 e3
     have HB := Lib.hid hB
     have K3 := Lib.hid k3
     have Z3 := Lib.hid z3
     clear hB k3 z3
     obtain ⟨cs, hcs⟩ := HB.out.1.2.2.2.1.own
     have HCS := Lib.hid hcs
     clear hcs
     refine wpListIn_append_row rfl (.tmp 28) (.tmp 31) 22 rfl lo 37 Try.underlying22 _ 8 96 acinfo3 rfl (by decide) (.slice AT la.length cT) la.length cs rfl HCS.out (.slice (some ⟨g3', 0, none⟩) 1 1) 1 (acc p u3 v3).toList rfl (rs_one K3.out) (acc_ones Z3.out.1) HLA.out (by decide) (HB.out.1.loW HBW.out) ?_
     intro v5 w5 o5 g5' b5
     have HA := Lib.hid (HB.out.1.append HG65.out hok Z3.out.1 Z3.out.2 g5' b5 HCS.out o5)
     have HP : Hid (SlN (la.length + 1) w5 v5) := Lib.hid (SlN.of o5)
     clear o5 g5' b5
     show K _ _; have := H.out _ _ HA.out HP.out; rw [HFR.out] at this
     obtain ⟨u0, u3⟩ := HU.out _
     rw [u0, u3] at this
     exact this
    ·rintro L A W K hL hC hW ⟨V, rfl, HV, s0, s1, s2, f2, f3, f4⟩ hK
     have hB := s1 (hW 4 rfl) hL
     have q4 := f4 hL (hW 4 rfl)
     obtain ⟨A4, c4, e4⟩ := q4
     have H := Lib.hid (show ∀ W', (∃ vT', PlS lo w.heap.size g3 g4 g6 g5 (.slice A0 l.length c0) x ux vx vT' vT' vb (la ++ [p]) lb w W0 W') → K (fr (V)) W' from fun W' hA => hK _ _ ⟨V, rfl, HV.st 5 rfl, fun h0 => mtf (mnf h0 rfl) (hW 4 rfl), fun h0 h1 => msf h1, fun h0 => hA, fun h0 h1 => mtf (mnf h0 rfl) (hW 4 rfl), fun h0 h1 => mtf (mnf h0 rfl) (hW 4 rfl), fun h0 h1 => msf h0⟩)
     have HU := Lib.hid (show (V) 4 = .slice A4 (la.length + 1) c4 from e4)
     clear hK hC hW hL HV s0 s1 s2 f2 f3 f4
     rw [HFR.out, e4]
     clear e4
     have HB := Lib.hid hB
     have hc : W.cell? ⟨g6, 0, none⟩ = some (.slice AT la.length cT) := hB.2.1.cell 0 _ rfl
     have hf : W.frozen? ⟨g6, 0, none⟩ = false := hB.2.1.frozen 0
     clear hB
     gi_wp2_with fail
     have HA : Hid (∃ vT', PlS lo w.heap.size g3 g4 g6 g5 (.slice A0 l.length c0) x ux vx vT' vT' vb (la ++ [p]) lb w W0 (W.setCell ⟨g6, 0, none⟩ (.slice A4 (la.length + 1) c4))) := Lib.hid ⟨_, by have h := HB.out; rw [HU.out] at h; exact h.store HG65.out⟩
     show K _ _; have := H.out _ HA.out; rw [HFR.out] at this
     obtain u4 := HU.out
     rw [u4] at this
     exact this
    ·rintro L A W hL ⟨V, rfl, HV, s0, s1, s2, f2, f3, f4⟩
     have e0 := HV 0 _ rfl (hL 0 (by simp))
     have e1 := HV 1 _ rfl (hL 1 (by simp))
     have hA := s2 (hL 5 (by simp))
     rw [HFR.out, e0, e1]
     clear hL HV HFR e0 e1 s0 s1 s2 f2 f3 f4
     obtain ⟨vT', hA⟩ := hA
     have HA := Lib.hid hA
     clear hA
     gi_wp2_with fail
     exact ⟨HA.out.2.2.2.2.2.1.from _, HA.out.2.2.2.2.2.2.1, vb, vT', HA.out.1, HA.out.2.2.1, HA.out.2.1, by rw [HLT.out]; exact HA.out.2.2.2.2.1, by rw [HGT.out]; exact HA.out.2.2.2.1⟩
   ·have d3 : decide ((x.addr : Int) < (p.addr : Int)) = false := decide_eq_false (by omega)
    have d4 : decide (x.addr < p.addr) = false := decide_eq_false e2
    have HLT := Lib.hid (show ltL x (ys ++ [p]) = ltL x ys by simp [ltL]; omega)
    have HGT := Lib.hid (show gtL x (ys ++ [p]) = gtL x ys by simp [gtL]; omega)
    gi_wp2_with fail
    exact ⟨(KeepsOthers.refl _).from _, Below.refl _ _, vb, va, HJ.out.1, HJ.out.2.1, HJ.out.2.2.1, by rw [HLT.out]; exact HJ.out.2.2.2.1, by rw [HGT.out]; exact HJ.out.2.2.2.2⟩
 case done =>
  rintro D W hD ⟨vb, va, hO, h5, h6, hb, ha⟩ hE hK
  have HXB := Lib.hid hO.2.1
  have HJ := Lib.hid (show PlO w.heap.size g3 g4 (.slice A0 l.length c0) x ux vx W ∧ Cs W g5 22 #[vb] ∧ Cs W g6 22 #[va] ∧ RwA lo W vb va (ltL x l) ∧ RwA lo W va vb (gtL x l) from ⟨hO, h5, h6, hb, ha⟩)
  have HE := Lib.hid hE
  have HK := Lib.hid hK
  have HLB := Lib.hid (show (ltL x l).length + 1 ≤ 1099511627776 by have := List.length_filter_le (fun p => decide (p.addr < x.addr)) l; unfold ltL; omega)
  have HLL := Lib.hid (show (ltL x l).length + 1 + (gtL x l).length ≤ 1099511627776 by have := List.length_filter_le (fun p => decide (p.addr < x.addr)) l; have := List.length_filter_le (fun p => decide (x.addr < p.addr)) l; unfold ltL gtL; omega)
  have HDL := Lib.hid (show lo < D ∧ g4 < D by have := HG.out; have := HG1.out; omega)
  have HPL : Hid (plL l x = (ltL x l ++ if x.emptyB then [] else [x]) ++ gtL x l) := Lib.hid rfl
  clear hO h5 h6 hb ha hE hK hc HJ1
  gi_wp2_with (first
   | ((with_reducible refine wpListIn_load_ac ?_ (.tmp 3) ?_ g3 0 x ux vx ?_ ?_ ?_); (exact rfl); (exact rfl); (exact rfl); (exact HXB.out.range))
   | fail)
  refine ⟨trivial, ?_⟩
  refine (callsIn_wide.2 (empty_any x ux vx _ hx (HUX.out.ext HE.out) (HVX.out.ext HE.out))).mono ?_
  rintro e W0 ⟨rfl, he⟩
  have HJ2 := Lib.hid (show PlO w.heap.size g3 g4 (.slice A0 l.length c0) x ux vx W0 ∧ Cs W0 g5 22 #[vb] ∧ Cs W0 g6 22 #[va] ∧ RwA lo W0 vb va (ltL x l) ∧ RwA lo W0 va vb (gtL x l) from ⟨HJ.out.1.ext he, Cs.ext HJ.out.2.1 he, Cs.ext HJ.out.2.2.1 he, HJ.out.2.2.2.1.ext he, HJ.out.2.2.2.2.ext he⟩)
  have HE2 := Lib.hid (HE.out.trans he)
  have HK2 := Lib.hid (Ext.block he HK.out)
  have HBW := Lib.hid (show lo ≤ W0.heap.size by have := (Array.getElem?_eq_some_iff.1 HK2.out).1; have := HDL.out; omega)
  clear he HJ HE HK HXB
  generalize gtL x l = la at *
  generalize ltL x l = lb at *
  cases hxe : x.emptyB with
  | true =>
   rw [hxe] at HPL
   have HPL2 := Lib.hid (show plL l x = lb ++ la by rw [HPL.out]; simp)
   obtain ⟨AT, cT, rfl⟩ := HJ2.out.2.2.2.1.shape
   obtain ⟨AU, cU, rfl⟩ := HJ2.out.2.2.2.2.shape
   have HF := Lib.hid (And.intro HJ2.out (And.intro HE2.out HK2.out))
   have HLL2 := Lib.hid (show lb.length + la.length ≤ 1099511627776 by have := HLL.out; omega)
   clear HPL HLL HJ2 HE2 HK2 hxe
   have HBN := Lib.hid HF.out.1.2.2.2.1.own1
   have HAN := Lib.hid HF.out.1.2.2.2.2.own1
   obtain ⟨csb, hcsb⟩ : ∃ cs, W0.ownsRow lo 37 8 (.slice AT lb.length cT) lb.length cs ∧ ∀ u ∈ cs, u.oneCell' = true := HBN.out
   obtain ⟨csa, hcsa⟩ : ∃ cs, W0.ownsRow lo 37 8 (.slice AU la.length cU) la.length cs ∧ ∀ u ∈ cs, u.oneCell' = true := HAN.out
   have HCB := Lib.hid hcsb
   have HCA := Lib.hid hcsa
   have c5 : W0.cell? ⟨g5, 0, none⟩ = some (.slice AT lb.length cT) := HF.out.1.2.1.cell 0 _ rfl
   have c6 : W0.cell? ⟨g6, 0, none⟩ = some (.slice AU la.length cU) := HF.out.1.2.2.1.cell 0 _ rfl
   clear hcsb hcsa HBN HAN
   gi_wp2_with (first
    | ((with_reducible refine wpListIn_append_row ?_ (.tmp 41) (.tmp 42) 22 ?_ lo 37 Try.underlying22 _ 8 96 acinfo3 rfl (by decide) (.slice AT lb.length cT) lb.length csb ?_ HCB.out.1 (.slice AU la.length cU) la.length csa ?_ (Rs.of_own HCA.out.1) HCA.out.2 HLL2.out (by decide) HBW.out ?_); (exact rfl); (exact rfl); (exact rfl); (exact rfl); intro v5 w5 o5 g5' b5; have HR5 := Lib.hid (HF.out.1.2.2.2.1.join HF.out.1.2.2.2.2 g5' b5 (fun cs ds h h' => by rw [own_uniq h HCB.out.1, own_uniq h' HCA.out.1]; exact o5)); obtain ⟨A5, c5', e5⟩ := HR5.out.shape; obtain ⟨n5, hn5⟩ : ∃ n5, (lb ++ la).length = n5 := ⟨_, rfl⟩; rw [hn5] at e5; subst e5; clear hn5; have HO5 := Lib.hid (HF.out.1.1.kept g5' (fun g e => (HCB.out.1.lt g e).1) ⟨HG56.out.b.1, HG56.out.b.2.1, HG56.out.b.2.2.1⟩); have HE5 := Lib.hid (Below.grown HF.out.2.1 g5' HF.out.2.1.size (fun k e => Nat.le_trans (by have := HG1.out; omega) (HCB.out.1.lt k e).1)); have HK5 := Lib.hid ((keeps_own HCB.out.1 g5').same D _ HF.out.2.2 rfl); have c4 : w5.cell? ⟨g4, 0, none⟩ = some (.slice none 0 0) := HO5.out.2.2.cell 0 _ rfl; have f4 : w5.frozen? ⟨g4, 0, none⟩ = false := HO5.out.2.2.frozen 0; clear o5 g5' b5)
    | fail)
   try rw [Exit.noGoto_ret]
   have hK' := (KeepsOthers.setCell w5 ⟨g4, 0, none⟩ (.slice A5 n5 c5')).same D _ HK5.out rfl
   refine ⟨by simp, .inl ⟨_, _, rfl, run_takeDeferred hK', ?_⟩⟩
   have hp := grownBy_putObj' (w5.setCell ⟨g4, 0, none⟩ (.slice A5 n5 c5')) D (.deferred none)
   refine ⟨_, results_cell_row Try.results121 _ _ g4 24 #[.slice A5 n5 c5'] (0, 0) _ rfl (Cs.kept (by simpa using Cs.set HO5.out.2.2 0 (.slice A5 n5 c5')) hp (some_ne (by have := HDL.out; omega))) Try.underlying24 rfl stinfo, _, rfl, ?_, ?_⟩
   ·rw [HPL2.out]
    exact ((HR5.out.kept (grown_set w5 g4 0 (.slice A5 n5 c5')) (fun g e => .inl (by cases e; have := HG.out; omega))).kept hp (fun g e => .inr (.inr ⟨_, by cases e; exact hK', rfl⟩))).low (by have := HG1.out; omega)
   ·exact (Ext.grown HE5.out (grown_set w5 g4 0 (.slice A5 n5 c5')) (by have := HG.out; omega)).grown hp (by have := HDL.out; have := HG1.out; omega)
  | false =>
   rw [hxe] at HPL
   have HPL2 := Lib.hid (show plL l x = (lb ++ [x]) ++ la by rw [HPL.out]; simp)
   obtain ⟨AT, cT, rfl⟩ := HJ2.out.2.2.2.1.shape
   have HCX := Lib.hid (fun W (h : Ext w W) => copied_any x ux vx W (HUX.out.ext h) (HVX.out.ext h) hxz.1 hxz.2)
   have HS0 := Lib.hid (show PlS lo w.heap.size g3 g4 g5 g6 (.slice A0 l.length c0) x ux vx (.slice AT lb.length cT) (.slice AT lb.length cT) va lb la w W0 W0 ∧ Ab W0 g3 x ux vx from ⟨⟨HJ2.out.1, HJ2.out.2.1, HJ2.out.2.2.1, HJ2.out.2.2.2.1, HJ2.out.2.2.2.2, KeepsOthers.refl _, Below.refl _ _, HE2.out⟩, HJ2.out.1.2.1⟩)
   clear HPL HJ2 HE2 hxe
   gi_wp2_with fail
   refine wpIn_named fun a0 ha0 => ?_
   obtain ⟨fr, hfr⟩ : ∃ fr : (Nat → Value) → Act, ∀ V, fr V = (((((a0.put (some 36) (V 0)).put (some 37) (V 1)).put (some 38) (V 2)).put (some 39) (V 3)).put (some 40) (V 4)) := ⟨_, fun _ => rfl⟩
   rw [ha0] at hfr
   simp only [Act.put, List.setIfInBounds_toArray, List.set_cons_zero, List.set_cons_succ] at hfr
   have HFR := Lib.hid hfr
   clear hfr
   refine wpIn_region_inv (by kernel_rfl) (by kernel_rfl) (fun L A W => ∃ V : Nat → Value, A = fr V ∧ Vals (fun j => ([some (.slice AT lb.length cT), some (.agg (acc x ux vx)), none, none, none, none] : List (Option Value)).getD j none) L V ∧ (L 4 = false → PlS lo w.heap.size g3 g4 g5 g6 (.slice A0 l.length c0) x ux vx (.slice AT lb.length cT) (.slice AT lb.length cT) va lb la w W0 W ∧ Ab W g3 x ux vx) ∧ (L 4 = true → L 5 = false → PlS lo w.heap.size g3 g4 g5 g6 (.slice A0 l.length c0) x ux vx (.slice AT lb.length cT) (V 4) va (lb ++ [x]) la w W0 W) ∧ (L 5 = true → ∃ vT', PlS lo w.heap.size g3 g4 g5 g6 (.slice A0 l.length c0) x ux vx vT' vT' va (lb ++ [x]) la w W0 W) ∧ (L 4 = false → L 2 = true → PlC lo (.slice AT lb.length cT) va x W (V 2)) ∧ (L 4 = false → L 3 = true → PlD lo (.slice AT lb.length cT) va x W (V 3)) ∧ (L 5 = false → L 4 = true → SlN (lb.length + 1) W (V 4))) ?_ ⟨?_, ?_, ?_, ?_, ?_, ?_, trivial⟩ ?_
   ·refine ⟨fun j => a0.tmps.getD (([36, 37, 38, 39, 40, 0] : List Nat).getD j 0) undef, ?_, Vals.no _ _ _ (far_none _ _ rfl), fun _ => ⟨HS0.out.1.ext (Ext.refl _).drew, HS0.out.2.ext (Ext.refl _).drew⟩, fun h0 h1 => absurd h0 (by decide), fun h0 => absurd h0 (by decide), fun h0 h1 => absurd h1 (by decide), fun h0 h1 => absurd h1 (by decide), fun h0 h1 => absurd h1 (by decide)⟩
    rw [HFR.out, ha0]
    rfl
   all_goals clear ha0
   ·rintro L A W K hL hC hW ⟨V, rfl, HV, s0, s1, s2, f2, f3, f4⟩ hK
    have hB := s0 (hC.no hL 4 _ rfl rfl)
    have H := Lib.hid (show ∀ W', Ext W W' → K (fr (upd V 0 (.slice AT lb.length cT))) W' from fun W' he => hK _ _ ⟨_, rfl, HV.us 0 _ rfl, fun h0 => PlSA.ext (s0 (mnf h0 rfl)) he, fun h0 h1 => PlS.ext (s1 (more_ne h0 rfl) (mnf h1 rfl)) he, fun h0 => PlSE.ext (s2 (more_ne h0 rfl)) he, fun h0 h1 => PlC.ext (f2 (mnf h0 rfl) (more_ne h1 rfl)) he, fun h0 h1 => PlD.ext (f3 (mnf h0 rfl) (more_ne h1 rfl)) he, fun h0 h1 => SlN.ext (f4 (mnf h0 rfl) (more_ne h1 rfl)) he⟩)
    clear hK hC hW hL HV s0 s1 s2 f2 f3 f4
    rw [HFR.out]
    have hcl : W.cell? ⟨g5, 0, none⟩ = some (.slice AT lb.length cT) := hB.1.2.1.cell 0 _ rfl
    clear hB
    gi_wp2_with fail
    show K _ _; have := H.out _ (Ext.refl _); rw [HFR.out] at this
    exact this
   ·rintro L A W K hL hC hW ⟨V, rfl, HV, s0, s1, s2, f2, f3, f4⟩ hK
    have hB := s0 (hC.no (hC.no (hC.no hL 2 _ rfl rfl) 3 _ rfl rfl) 4 _ rfl rfl)
    have H := Lib.hid (show ∀ W', Ext W W' → K (fr (upd V 1 (.agg (acc x ux vx)))) W' from fun W' he => hK _ _ ⟨_, rfl, HV.us 1 _ rfl, fun h0 => PlSA.ext (s0 (mnf h0 rfl)) he, fun h0 h1 => PlS.ext (s1 (more_ne h0 rfl) (mnf h1 rfl)) he, fun h0 => PlSE.ext (s2 (more_ne h0 rfl)) he, fun h0 h1 => PlC.ext (f2 (mnf h0 rfl) (more_ne h1 rfl)) he, fun h0 h1 => PlD.ext (f3 (mnf h0 rfl) (more_ne h1 rfl)) he, fun h0 h1 => SlN.ext (f4 (mnf h0 rfl) (more_ne h1 rfl)) he⟩)
    clear hK hC hW hL HV s0 s1 s2 f2 f3 f4
    rw [HFR.out]
    have HWD := Lib.hid hB.2.range
    clear hB
    refine wpListIn_load_ac rfl (.tmp 3) rfl g3 0 x ux vx rfl HWD.out ?_
    show K _ _; have := H.out _ (Ext.refl _); rw [HFR.out] at this
    exact this
   ·rintro L A W K hL hC hW ⟨V, rfl, HV, s0, s1, s2, f2, f3, f4⟩ hK
    have e1 := HV 1 _ rfl (hW 1 rfl)
    have hB := s0 (hC.no (hC.no hL 3 _ rfl rfl) 4 _ rfl rfl)
    have H := Lib.hid (show ∀ v W', Ext W W' → (PlC lo (.slice AT lb.length cT) va x W' v) → K (fr (upd V 2 v)) W' from fun v W' he hp => hK _ _ ⟨_, rfl, HV.un 2 _ rfl, fun h0 => PlSA.ext (s0 (mnf h0 rfl)) he, fun h0 h1 => PlS.ext (s1 (more_ne h0 rfl) (mnf h1 rfl)) he, fun h0 => PlSE.ext (s2 (more_ne h0 rfl)) he, fun h0 h1 => hp, fun h0 h1 => PlD.ext (f3 (mnf h0 rfl) (more_ne h1 rfl)) he, fun h0 h1 => SlN.ext (f4 (mnf h0 rfl) (more_ne h1 rfl)) he⟩)
    have HU := Lib.hid (show ∀ v, (upd V 2 v) 1 = .agg (acc x ux vx) from fun v => e1)
    clear hK hC hW hL HV s0 s1 s2 f2 f3 f4
    rw [HFR.out, e1]
    clear e1
    have HB := Lib.hid hB
    clear hB
    gi_wp2_with fail
    refine ⟨trivial, ?_⟩
    refine (callsIn_wide.2 (HCX.out _ HB.out.1.2.2.2.2.2.2.2)).mono ?_
    rintro e wx ⟨u', v', rfl, ho, he⟩
    have := H.out _ _ he (PlC.new HB.out.1 (HB.out.1.loW HBW.out) ho)
    clear H
    gi_wp2_with fail
    show K _ _
    rw [HFR.out] at this
    obtain u1 := HU.out _
    rw [u1] at this
    exact this
   ·rintro L A W K hL hC hW ⟨V, rfl, HV, s0, s1, s2, f2, f3, f4⟩ hK
    have hB := s0 (hC.no hL 4 _ rfl rfl)
    have q2 := f2 (hC.no hL 4 _ rfl rfl) (hW 2 rfl)
    obtain ⟨u2, v2, e2, z2⟩ := q2
    have H := Lib.hid (show ∀ v W', Ext W W' → (PlD lo (.slice AT lb.length cT) va x W' v) → K (fr (upd V 3 v)) W' from fun v W' he hp => hK _ _ ⟨_, rfl, HV.un 3 _ rfl, fun h0 => PlSA.ext (s0 (mnf h0 rfl)) he, fun h0 h1 => PlS.ext (s1 (more_ne h0 rfl) (mnf h1 rfl)) he, fun h0 => PlSE.ext (s2 (more_ne h0 rfl)) he, fun h0 h1 => PlC.ext (f2 (mnf h0 rfl) (more_ne h1 rfl)) he, fun h0 h1 => hp, fun h0 h1 => SlN.ext (f4 (mnf h0 rfl) (more_ne h1 rfl)) he⟩)
    have HU := Lib.hid (show ∀ v, (upd V 3 v) 2 = .agg (acc x u2 v2) from fun v => e2)
    clear hK hC hW hL HV s0 s1 s2 f2 f3 f4
    rw [HFR.out, e2]
    clear e2
    clear hB
    refine wpListIn_build_one rfl (.tmp 38) 22 37 rfl Try.underlying22 _ 8 96 acinfo3 (by decide) (by decide) (acc x u2 v2) rfl rfl ?_
    show K _ _; have := H.out (.slice (some ⟨W.heap.size, 0, none⟩) 1 1) _ ((Ext.refl W).alloc (.cells (acc x u2 v2) 37)) (PlD.new z2); rw [HFR.out] at this
    obtain u2 := HU.out _
    rw [u2] at this
    exact this
   ·rintro L A W K hL hC hW ⟨V, rfl, HV, s0, s1, s2, f2, f3, f4⟩ hK
    have e0 := HV 0 _ rfl (hW 0 rfl)
    have hB := s0 hL
    have q3 := f3 hL (hW 3 rfl)
    obtain ⟨g3', u3, v3, e3, k3, z3⟩ := q3
    have H := Lib.hid (show ∀ v W', (PlS lo w.heap.size g3 g4 g5 g6 (.slice A0 l.length c0) x ux vx (.slice AT lb.length cT) v va (lb ++ [x]) la w W0 W') → (SlN (lb.length + 1) W' v) → K (fr (upd V 4 v)) W' from fun v W' hA hp => hK _ _ ⟨_, rfl, HV.un 4 _ rfl, fun h0 => msf h0, fun h0 h1 => hA, fun h0 => mtf (hC.no hL 5 _ rfl rfl) (more_ne h0 rfl), fun h0 h1 => msf h0, fun h0 h1 => msf h0, fun h0 h1 => hp⟩)
    have HU := Lib.hid (show ∀ v, (upd V 4 v) 0 = .slice AT lb.length cT ∧ (upd V 4 v) 3 = .slice (some ⟨g3', 0, none⟩) 1 1 from fun v => ⟨e0, e3⟩)
    clear hK hC hW hL HV s0 s1 s2 f2 f3 f4
    rw [HFR.out, e0, e3]
    clear e0 e3
    have HB := Lib.hid hB
    have K3 := Lib.hid k3
    have Z3 := Lib.hid z3
    clear hB k3 z3
    obtain ⟨cs, hcs⟩ := HB.out.1.2.2.2.1.own
    have HCS := Lib.hid hcs
    clear hcs
    refine wpListIn_append_row rfl (.tmp 36) (.tmp 39) 22 rfl lo 37 Try.underlying22 _ 8 96 acinfo3 rfl (by decide) (.slice AT lb.length cT) lb.length cs rfl HCS.out (.slice (some ⟨g3', 0, none⟩) 1 1) 1 (acc x u3 v3).toList rfl (rs_one K3.out) (acc_ones Z3.out.1) HLB.out (by decide) (HB.out.1.loW HBW.out) ?_
    intro v5 w5 o5 g5' b5
    have HA := Lib.hid (HB.out.1.append HG56.out hx Z3.out.1 Z3.out.2 g5' b5 HCS.out o5)
    have HP : Hid (SlN (lb.length + 1) w5 v5) := Lib.hid (SlN.of o5)
    clear o5 g5' b5
    show K _ _; have := H.out _ _ HA.out HP.out; rw [HFR.out] at this
    obtain ⟨u0, u3⟩ := HU.out _
    rw [u0, u3] at this
    exact this
   ·rintro L A W K hL hC hW ⟨V, rfl, HV, s0, s1, s2, f2, f3, f4⟩ hK
    have hB := s1 (hW 4 rfl) hL
    have q4 := f4 hL (hW 4 rfl)
    obtain ⟨A4, c4, e4⟩ := q4
    have H := Lib.hid (show ∀ W', (∃ vT', PlS lo w.heap.size g3 g4 g5 g6 (.slice A0 l.length c0) x ux vx vT' vT' va (lb ++ [x]) la w W0 W') → K (fr (V)) W' from fun W' hA => hK _ _ ⟨V, rfl, HV.st 5 rfl, fun h0 => mtf (mnf h0 rfl) (hW 4 rfl), fun h0 h1 => msf h1, fun h0 => hA, fun h0 h1 => mtf (mnf h0 rfl) (hW 4 rfl), fun h0 h1 => mtf (mnf h0 rfl) (hW 4 rfl), fun h0 h1 => msf h0⟩)
    have HU := Lib.hid (show (V) 4 = .slice A4 (lb.length + 1) c4 from e4)
    clear hK hC hW hL HV s0 s1 s2 f2 f3 f4
    rw [HFR.out, e4]
    clear e4
    have HB := Lib.hid hB
    have hc : W.cell? ⟨g5, 0, none⟩ = some (.slice AT lb.length cT) := hB.2.1.cell 0 _ rfl
    have hf : W.frozen? ⟨g5, 0, none⟩ = false := hB.2.1.frozen 0
    clear hB
    gi_wp2_with fail
    have HA : Hid (∃ vT', PlS lo w.heap.size g3 g4 g5 g6 (.slice A0 l.length c0) x ux vx vT' vT' va (lb ++ [x]) la w W0 (W.setCell ⟨g5, 0, none⟩ (.slice A4 (lb.length + 1) c4))) := Lib.hid ⟨_, by have h := HB.out; rw [HU.out] at h; exact h.store HG56.out⟩
    show K _ _; have := H.out _ HA.out; rw [HFR.out] at this
    obtain u4 := HU.out
    rw [u4] at this
    exact this
   ·rintro L A W hL ⟨V, rfl, HV, s0, s1, s2, f2, f3, f4⟩
    have e0 := HV 0 _ rfl (hL 0 (by simp))
    have e1 := HV 1 _ rfl (hL 1 (by simp))
    have hA := s2 (hL 5 (by simp))
    rw [HFR.out, e0, e1]
    clear hL HV HFR e0 e1 s0 s1 s2 f2 f3 f4
    obtain ⟨vT', hA⟩ := hA
    obtain ⟨AT2, cT2, rfl⟩ := hA.2.2.2.1.shape
    obtain ⟨AU, cU, rfl⟩ := hA.2.2.2.2.1.shape
    have HF := Lib.hid (And.intro (show PlO w.heap.size g3 g4 (.slice A0 l.length c0) x ux vx W ∧ Cs W g5 22 #[.slice AT2 (lb ++ [x]).length cT2] ∧ Cs W g6 22 #[.slice AU la.length cU] ∧ RwA lo W (.slice AT2 (lb ++ [x]).length cT2) (.slice AU la.length cU) (lb ++ [x]) ∧ RwA lo W (.slice AU la.length cU) (.slice AT2 (lb ++ [x]).length cT2) la from ⟨hA.1, hA.2.1, hA.2.2.1, hA.2.2.2.1, hA.2.2.2.2.1⟩) (And.intro hA.2.2.2.2.2.2.2 (hA.2.2.2.2.2.1.same D _ HK2.out rfl)))
    have HLL2 := Lib.hid (show (lb ++ [x]).length + la.length ≤ 1099511627776 by have := HLL.out; simp; omega)
    have HBW2 := Lib.hid (Nat.le_trans HBW.out hA.2.2.2.2.2.1.size)
    clear hA HLL HK2 HS0 HCX HBW HLB
    generalize lb ++ [x] = lb2 at *
    have HBN := Lib.hid HF.out.1.2.2.2.1.own1
    have HAN := Lib.hid HF.out.1.2.2.2.2.own1
    obtain ⟨csb, hcsb⟩ : ∃ cs, W.ownsRow lo 37 8 (.slice AT2 lb2.length cT2) lb2.length cs ∧ ∀ u ∈ cs, u.oneCell' = true := HBN.out
    obtain ⟨csa, hcsa⟩ : ∃ cs, W.ownsRow lo 37 8 (.slice AU la.length cU) la.length cs ∧ ∀ u ∈ cs, u.oneCell' = true := HAN.out
    have HCB := Lib.hid hcsb
    have HCA := Lib.hid hcsa
    have c5 : W.cell? ⟨g5, 0, none⟩ = some (.slice AT2 lb2.length cT2) := HF.out.1.2.1.cell 0 _ rfl
    have c6 : W.cell? ⟨g6, 0, none⟩ = some (.slice AU la.length cU) := HF.out.1.2.2.1.cell 0 _ rfl
    clear hcsb hcsa HBN HAN
    gi_wp2_with (first
     | ((with_reducible refine wpListIn_append_row ?_ (.tmp 41) (.tmp 42) 22 ?_ lo 37 Try.underlying22 _ 8 96 acinfo3 rfl (by decide) (.slice AT2 lb2.length cT2) lb2.length csb ?_ HCB.out.1 (.slice AU la.length cU) la.length csa ?_ (Rs.of_own HCA.out.1) HCA.out.2 HLL2.out (by decide) HBW2.out ?_); (exact rfl); (exact rfl); (exact rfl); (exact rfl); intro v5 w5 o5 g5' b5; have HR5 := Lib.hid (HF.out.1.2.2.2.1.join HF.out.1.2.2.2.2 g5' b5 (fun cs ds h h' => by rw [own_uniq h HCB.out.1, own_uniq h' HCA.out.1]; exact o5)); obtain ⟨A5, c5', e5⟩ := HR5.out.shape; obtain ⟨n5, hn5⟩ : ∃ n5, (lb2 ++ la).length = n5 := ⟨_, rfl⟩; rw [hn5] at e5; subst e5; clear hn5; have HO5 := Lib.hid (HF.out.1.1.kept g5' (fun g e => (HCB.out.1.lt g e).1) ⟨HG56.out.b.1, HG56.out.b.2.1, HG56.out.b.2.2.1⟩); have HE5 := Lib.hid (Below.grown HF.out.2.1 g5' HF.out.2.1.size (fun k e => Nat.le_trans (by have := HG1.out; omega) (HCB.out.1.lt k e).1)); have HK5 := Lib.hid ((keeps_own HCB.out.1 g5').same D _ HF.out.2.2 rfl); have c4 : w5.cell? ⟨g4, 0, none⟩ = some (.slice none 0 0) := HO5.out.2.2.cell 0 _ rfl; have f4 : w5.frozen? ⟨g4, 0, none⟩ = false := HO5.out.2.2.frozen 0; clear o5 g5' b5)
     | fail)
    try rw [Exit.noGoto_ret]
    have hK' := (KeepsOthers.setCell w5 ⟨g4, 0, none⟩ (.slice A5 n5 c5')).same D _ HK5.out rfl
    refine ⟨by simp, .inl ⟨_, _, rfl, run_takeDeferred hK', ?_⟩⟩
    have hp := grownBy_putObj' (w5.setCell ⟨g4, 0, none⟩ (.slice A5 n5 c5')) D (.deferred none)
    refine ⟨_, results_cell_row Try.results121 _ _ g4 24 #[.slice A5 n5 c5'] (0, 0) _ rfl (Cs.kept (by simpa using Cs.set HO5.out.2.2 0 (.slice A5 n5 c5')) hp (some_ne (by have := HDL.out; omega))) Try.underlying24 rfl stinfo, _, rfl, ?_, ?_⟩
    ·rw [HPL2.out]
     exact ((HR5.out.kept (grown_set w5 g4 0 (.slice A5 n5 c5')) (fun g e => .inl (by cases e; have := HG.out; omega))).kept hp (fun g e => .inr (.inr ⟨_, by cases e; exact hK', rfl⟩))).low (by have := HG1.out; omega)
    ·exact (Ext.grown HE5.out (grown_set w5 g4 0 (.slice A5 n5 c5')) (by have := HG.out; omega)).grown hp (by have := HDL.out; have := HG1.out; omega)
 case stop =>
  rintro D c k W _ _ h _
  exact h.elim
end Go.Proofs.Ytiojfpdjnblkhaa
