/- The bits of a word, told from the highest one on: the function over which Div, Bytes and Text range. Words in memory, within a fence; and the contract of Div. Div is the division of numbers. Contract of Bytes: a row that a loop over bits collects. Contract of Text: digits that a loop over bits collects. -/
import Derived.Test.YteidmoilldheeaaQWre
import Derived.RangeFuncNested
import Derived.RangeFuncBound
import Derived.RangeFuncCalls
import Derived.RangeFuncLeaves
import Derived.RangeFuncWrites
import Derived.Shelf.Abstract
import Derived.Shelf.RegionOpen
import Derived.OwnWalkIn
import Derived.TacticsInMore
import Derived.LoopNIn
import Derived.LoopIn
import Derived.Test.YteidmoilldheeaaQByt
import Derived.RangeFuncBox
import Derived.Maps.AppendAt
import Derived.Shelf.Bytes.SlSmallAll
import Derived.WalkSpells
import Derived.Lib.SliceRun
namespace Go.Proofs.Yteidmoilldheeaa
open Go.RowKit Go.Shelf
attribute [local go_sem] Oper.semAt_some

/-- Two blocks stay. -/
def Kp2 (g h : Nat) (W W' : World) : Prop := W'.heap[g]? = W.heap[g]? ∧ W'.heap[h]? = W.heap[h]?

end Go.Proofs.Yteidmoilldheeaa
namespace Go.Proofs.Yteidmoilldheeaa
open Go.RowKit Go.Shelf
attribute [local go_sem] Oper.semAt_some

set_option maxRecDepth 100000 in
theorem wpListIn_store_word {F : Fence} {n : Nat} {P : Program} {ops : Array Oper} {rest : List Oper} {o : Oper} {a : Act} {w : World} {Q : Exit → Act → World → Prop} (hgd : o.guard = none) (hd : o.dst = none) (ty : TypeId) (x y : Operand) (ho : o.op = .store ty x y)
    (hi : (P.info? ty).map (·.size) = some 4) (g : Nat) (old : Array Value) (m : Nat) (hx : a.eval x = .pointer (some ⟨g, 0, none⟩)) (hy : a.eval y = wv m) (hg : Cs w g ty old) (hold : old.size = 4)
    (h : ∀ w', Wd w' g ty m → w.grownBy w' (some g) → wpListIn F n P ops Q rest a w') : wpListIn F n P ops Q (o :: rest) a w := by
  have h' : ∀ w', Wd w' g ty m → w.grownBy w' (some g) → wpListIn F n P ops Q rest (a.put o.dst undef) w' := by rw [hd]; exact h
  refine wpListIn_plain hgd fun K hK => ?_
  unfold Oper.wpIn
  refine ⟨by simp [Oper.about, ho], ?_⟩
  rw [Oper.semAt_plain F _ _ (by rw [ho]; intro c hc'; cases hc')]
  have hi' : (P.info? ty).map (·.size) = some (wc m).size := hi
  simp only [execOp, ho, hx, hy, wv, Instr.storeAt, Instr.sureAddr, Sem.run_bind, Sem.run_pure, Result.andThen_ok, run_storeVar_row w g ty ty old (wc m) hg hi' hold (wc_one m)]
  refine hK _ _ (h' _ ?_ ?_)
  · exact setRow_heap w g _ _ ty (0, 0) hg
  · exact ⟨rfl, rfl, rfl, by simp [World.setRow], fun k _ hk => setRow_other w g k _ (fun e => hk (by simp [e]))⟩

/-- What a round of a loop over bits leaves: whatever is no cells, and the two blocks g and h. -/
def Stp (g h : Nat) (W W' : World) : Prop := KeepsOthers W W' ∧ Kp2 g h W W'
set_option maxRecDepth 100000 in
theorem Stp.refl (g h : Nat) (W : World) : Stp g h W W := ⟨KeepsOthers.refl W, rfl, rfl⟩
set_option maxRecDepth 100000 in
theorem Stp.trans {g h : Nat} {A B C : World} (x : Stp g h A B) (y : Stp g h B C) : Stp g h A C := ⟨x.1.trans y.1, y.2.1.trans x.2.1, y.2.2.trans x.2.2⟩
set_option maxRecDepth 100000 in
theorem Stp.ext {g h : Nat} {W W' : World} (he : Ext W W') (hg : g < W.heap.size) (hh : h < W.heap.size) : Stp g h W W' :=
  ⟨KeepsOthers.of_grownBy (grown_of_ext he none) (fun j o e => by cases e), Below.block he g hg, Below.block he h hh⟩
set_option maxRecDepth 100000 in
theorem Stp.put {g h b : Nat} {t : TypeId} {cs : Array Value} {W W' : World} (hr : W.grownBy W' (some b)) (hc : Cs W b t cs) (hg : g < W.heap.size) (hh : h < W.heap.size) (n1 : g ≠ b) (n2 : h ≠ b) : Stp g h W W' :=
  ⟨KeepsOthers.of_grownBy hr (fun j o e ho => by injection e with e; subst e; unfold Cs at hc; rw [hc] at ho; injection ho with ho; subst ho; rfl), hr.block g hg (by intro e; injection e with e; exact n1 e), hr.block h hh (by intro e; injection e with e; exact n2 e)⟩

/-- What lies between two rounds of a division that began at w. -/
def DvI (w : World) (b q r : Nat) (W : World) : Prop :=
  w.heap.size + 8 ≤ W.heap.size ∧ Wd W (w.heap.size + 1) 31 b ∧ Cs W (w.heap.size + 1 + 1) 31 (wc 0) ∧ Cs W (w.heap.size + 1 + 1 + 1) 31 (wc 0) ∧ Wd W (w.heap.size + 1 + 1 + 1 + 1) 31 q ∧ Wd W (w.heap.size + 1 + 1 + 1 + 1 + 1) 31 r ∧ Ext w W
set_option maxRecDepth 100000 in
theorem DvI.ext {w : World} {b q r : Nat} {W W' : World} (h : DvI w b q r W) (he : Ext W W') : DvI w b q r W' := by
  obtain ⟨h0, h1, h2, h3, h4, h5, h6⟩ := h
  exact ⟨Nat.le_trans h0 he.size, h1.ext he, h2.ext he, h3.ext he, h4.ext he, h5.ext he, h6.trans he⟩
set_option maxRecDepth 100000 in
theorem DvI.far {w : World} {b q r : Nat} {W W' : World} {row : Option Nat} (h : DvI w b q r W) (he : W.grownBy W' row) (hg : ∀ g, row = some g → w.heap.size + 8 ≤ g) : DvI w b q r W' := by
  obtain ⟨h0, h1, h2, h3, h4, h5, h6⟩ := h
  have hn : ∀ j, j < w.heap.size + 8 → some j ≠ row := fun j hj e => by have := hg j e.symm; omega
  exact ⟨Nat.le_trans h0 he.size, h1.kept he (hn _ (by omega)), h2.kept he (hn _ (by omega)), h3.kept he (hn _ (by omega)), h4.kept he (hn _ (by omega)), h5.kept he (hn _ (by omega)), Below.grown h6 he h6.size (fun j hj => by have := hg j hj; omega)⟩
set_option maxRecDepth 100000 in
theorem DvI.own {w : World} {b : Nat} {B : Nat} (hB : w.heap.size + 8 ≤ B) (f : List Nat → Nat × Nat) : OwnFrom B (fun pre W => DvI w b (f pre).1 (f pre).2 W) := by
  intro s A A' row h hg hr
  exact h.far hg (fun g e => Nat.le_trans hB (hr g e).1)

end Go.Proofs.Yteidmoilldheeaa
namespace Go.Proofs.Yteidmoilldheeaa
open Go.RowKit Go.Shelf

end Go.Proofs.Yteidmoilldheeaa
namespace Go.Proofs.Yteidmoilldheeaa
open Go.RowKit Go.Shelf
attribute [local go_sem] Oper.semAt_some


/-- A row of the call's own: the block gr with room for cap bytes, of which those of l are there; and its variable's box. -/
def RwI (w : World) (N0 Bt gr cap : Nat) (l : List UInt8) (W : World) : Prop :=
  N0 ≤ W.heap.size ∧ Cs W Bt 34 #[.slice (some ⟨gr, 0, none⟩) l.length cap] ∧ Own W w.heap.size 5 (.slice (some ⟨gr, 0, none⟩) l.length cap) l ∧ Ext w W

set_option maxRecDepth 100000 in
theorem RwI.row {w : World} {N0 Bt gr cap : Nat} {l : List UInt8} {W : World} (h : RwI w N0 Bt gr cap l W) : ∃ cs, Cs W gr 5 cs := by
  rcases h.2.2.1.2 with ⟨e, _⟩ | ⟨g, c, cur, e, _, hg, _⟩
  · cases e
  · injection e with e1 e2 e3
    injection e1 with e1
    injection e1 with e1
    subst e1
    exact ⟨cur, hg⟩
set_option maxRecDepth 100000 in
theorem RwI.ext {w : World} {N0 Bt gr cap : Nat} {l : List UInt8} {W W' : World} (h : RwI w N0 Bt gr cap l W) (he : Ext W W') : RwI w N0 Bt gr cap l W' := ⟨Nat.le_trans h.1 he.size, h.2.1.ext he, h.2.2.1.ext he, h.2.2.2.trans he⟩
set_option maxRecDepth 100000 in
theorem RwI.far {w : World} {N0 Bt gr cap : Nat} {l : List UInt8} {W W' : World} {row : Option Nat} (h : RwI w N0 Bt gr cap l W) (he : W.grownBy W' row) (h1 : some Bt ≠ row) (h2 : some gr ≠ row) (h3 : ∀ g, row = some g → w.heap.size ≤ g) : RwI w N0 Bt gr cap l W' :=
  ⟨Nat.le_trans h.1 he.size, h.2.1.kept he h1, World.ownsRow.kept h.2.2.1 he (.inr h2), Below.grown h.2.2.2 he h.2.2.2.size h3⟩
set_option maxRecDepth 100000 in
theorem RwI.own {w : World} {N0 Bt gr cap B : Nat} (hB1 : Bt < B) (hB2 : gr < B) (hB3 : w.heap.size ≤ B) (f : List Nat → List UInt8) : OwnFrom B (fun pre W => RwI w N0 Bt gr cap (f pre) W) := by
  intro s A A' row h hg hr
  exact h.far hg (fun e => by have := (hr _ e.symm).1; omega) (fun e => by have := (hr _ e.symm).1; omega) (fun g e => by have := (hr _ e).1; omega)

set_option maxRecDepth 100000 in
/-- A byte is put behind the row, and the variable is set. -/
theorem RwI.push {w : World} {N0 Bt gr cap : Nat} {l : List UInt8} {W w2 : World} (h : RwI w N0 Bt gr cap l W) (o : Obj) (c : UInt8) (hne : Bt ≠ gr) (hBt : w.heap.size ≤ Bt) (hgr : w.heap.size ≤ gr)
    (ho : w2.ownsRow w.heap.size 5 1 (.slice (some ⟨gr, 0, none⟩) (l.length + 1) cap) (l.length + 1) (l.map bv ++ [bv c])) (hg : (W.alloc o).grownBy w2 (some gr)) :
    RwI w N0 Bt gr cap (l ++ [c]) (w2.setCell ⟨Bt, 0, none⟩ (.slice (some ⟨gr, 0, none⟩) (l.length + 1) cap)) ∧ (∀ g h : Nat, g < W.heap.size → h < W.heap.size → g ≠ Bt → g ≠ gr → h ≠ Bt → h ≠ gr → Stp g h W (w2.setCell ⟨Bt, 0, none⟩ (.slice (some ⟨gr, 0, none⟩) (l.length + 1) cap))) ∧
      w2.cell? ⟨Bt, 0, none⟩ = some (.slice (some ⟨gr, 0, none⟩) l.length cap) ∧ w2.frozen? ⟨Bt, 0, none⟩ = false := by
  have hb := (h.2.1.alloc o).kept hg (some_ne hne)
  have hlen : (l ++ [c]).length = l.length + 1 := by simp
  obtain ⟨cs, hcs⟩ := h.row
  have hsz : N0 ≤ w2.heap.size := by have h1 := h.1; have h2 := hg.size; simp at h2; omega
  refine ⟨⟨Nat.le_trans hsz (by simp), ?_, ?_, ?_⟩, ?_, hb.cell 0 _ rfl, hb.frozen 0⟩
  · rw [hlen]
    exact hb.set 0 _
  · unfold Own
    rw [hlen, List.map_append]
    exact World.ownsRow.kept ho (grown_set w2 Bt 0 _) (.inr (some_ne hne.symm))
  · exact ((h.2.2.2.alloc o).grown hg hgr).grown (grown_set w2 Bt 0 _) hBt
  · intro g h' h1 h2 n1 n2 n3 n4
    have e1 : W.heap.size ≤ (W.alloc o).heap.size := by simp
    have e2 := hg.size
    exact ((Stp.ext ((Ext.refl W).alloc o) h1 h2).trans (Stp.put hg (hcs.alloc o) (by omega) (by omega) n2 n4)).trans (Stp.put (grown_set w2 Bt 0 _) hb (by omega) (by omega) n1 n3)

end Go.Proofs.Yteidmoilldheeaa
namespace Go.Proofs.Yteidmoilldheeaa
open Go.RowKit Go.Shelf
attribute [local go_sem] Oper.semAt_some

set_option maxRecDepth 100000 in
theorem RwI.drew {w : World} {N0 Bt gr cap : Nat} {l : List UInt8} {W : World} (h : RwI w N0 Bt gr cap l W) : RwI w N0 Bt gr cap l W.drew := h.ext (Ext.refl W).drew

set_option maxRecDepth 100000 in
/-- A byte is laid behind the row where there is room, and the variable is set. -/
theorem RwI.lay {w : World} {N0 Bt gr cap : Nat} {l : List UInt8} {W : World} (h : RwI w N0 Bt gr cap l W) (o : Obj) (c : UInt8) (hne : Bt ≠ gr) (hBt : w.heap.size ≤ Bt) (hgr : w.heap.size ≤ gr) (hl : l.length < cap) :
    RwI w N0 Bt gr cap (l ++ [c]) (((W.alloc o).setCell ⟨gr, l.length, none⟩ (bv c)).setCell ⟨Bt, 0, none⟩ (.slice (some ⟨gr, 0, none⟩) (l.length + 1) cap)) ∧
      (∀ g h : Nat, g < W.heap.size → h < W.heap.size → g ≠ Bt → g ≠ gr → h ≠ Bt → h ≠ gr → Stp g h W (((W.alloc o).setCell ⟨gr, l.length, none⟩ (bv c)).setCell ⟨Bt, 0, none⟩ (.slice (some ⟨gr, 0, none⟩) (l.length + 1) cap))) ∧
      (∃ u, W.cell? ⟨gr, l.length, none⟩ = some u) ∧ W.frozen? ⟨gr, l.length, none⟩ = false := by
  have hown := h.2.2.1
  rcases hown.2 with ⟨e, _⟩ | ⟨g, c', cur, e, hb, hg, hnc, hcm, hcs, htake⟩
  · cases e
  · injection e with e1 e2 e3
    injection e1 with e1
    injection e1 with e1
    subst e1
    subst e3
    have hrow : Cs W gr 5 cur := hg
    have hlt : l.length < cur.size := by rw [hcs]; omega
    refine ⟨(h.push o c hne hBt hgr ?_ (grown_set _ gr l.length (bv c))).1, (h.push o c hne hBt hgr ?_ (grown_set _ gr l.length (bv c))).2.1, ⟨cur[l.length], hrow.cell _ _ (Array.getElem?_eq_getElem hlt)⟩, hrow.frozen _⟩
    all_goals
      refine ⟨by simp, .inr ⟨gr, cap, cur.setIfInBounds l.length (bv c), rfl, hb, (hrow.alloc o).set l.length (bv c), by omega, hcm, by simpa using hcs, ?_⟩⟩
      rw [Array.toList_setIfInBounds, Nat.mul_one, List.take_set, List.take_succ_eq_append_getElem (by simpa using hlt)]
      rw [Nat.mul_one] at htake
      rw [htake]
      rw [List.set_append_right _ _ (by simp)]
      simp

end Go.Proofs.Yteidmoilldheeaa
