/- Contract of Bytes: a row that a loop over bits collects. -/
import Derived.Test.YtmojbekihbmdfaaReb
import Derived.Test.YtmojbekihbmdfaaWrh
import Derived.RangeFuncBox
import Derived.Maps.AppendAt
namespace Go.Proofs.Ytmojbekihbmdfaa
open Go.RowKit Go.Shelf
attribute [local go_sem] Oper.semAt_some


/-- A row of the call's own: the block gr with room for cap bytes, of which those of l are there; and its variable's box. -/
def RwI (w : World) (N0 Bt gr cap : Nat) (l : List UInt8) (W : World) : Prop :=
  N0 ≤ W.heap.size ∧ Cs W Bt 34 #[.slice (some ⟨gr, 0, none⟩) l.length cap] ∧ Own W w.heap.size 5 (.slice (some ⟨gr, 0, none⟩) l.length cap) l ∧ Ext w W

set_option maxRecDepth 100000 in
theorem RwI.row {w : World} {N0 Bt gr cap : Nat} {l : List UInt8} {W : World} (h : RwI w N0 Bt gr cap l W) : ∃ cs, Cs W gr 5 cs := by
  rcases h.2.2.1.2 with ⟨e, _⟩ | ⟨g, c, cur, e, _, hg, _⟩
  · cases e
  · injection e with e1 e2 e3
    injection e1 with e1
    injection e1 with e1
    subst e1
    exact ⟨cur, hg⟩
set_option maxRecDepth 100000 in
theorem RwI.ext {w : World} {N0 Bt gr cap : Nat} {l : List UInt8} {W W' : World} (h : RwI w N0 Bt gr cap l W) (he : Ext W W') : RwI w N0 Bt gr cap l W' := ⟨Nat.le_trans h.1 he.size, h.2.1.ext he, h.2.2.1.ext he, h.2.2.2.trans he⟩
set_option maxRecDepth 100000 in
theorem RwI.far {w : World} {N0 Bt gr cap : Nat} {l : List UInt8} {W W' : World} {row : Option Nat} (h : RwI w N0 Bt gr cap l W) (he : W.grownBy W' row) (h1 : some Bt ≠ row) (h2 : some gr ≠ row) (h3 : ∀ g, row = some g → w.heap.size ≤ g) : RwI w N0 Bt gr cap l W' :=
  ⟨Nat.le_trans h.1 he.size, h.2.1.kept he h1, World.ownsRow.kept h.2.2.1 he (.inr h2), Below.grown h.2.2.2 he h.2.2.2.size h3⟩
set_option maxRecDepth 100000 in
theorem RwI.own {w : World} {N0 Bt gr cap B : Nat} (hB1 : Bt < B) (hB2 : gr < B) (hB3 : w.heap.size ≤ B) (f : List Nat → List UInt8) : OwnFrom B (fun pre W => RwI w N0 Bt gr cap (f pre) W) := by
  intro s A A' row h hg hr
  exact h.far hg (fun e => by have := (hr _ e.symm).1; omega) (fun e => by have := (hr _ e.symm).1; omega) (fun g e => by have := (hr _ e).1; omega)

set_option maxRecDepth 100000 in
/-- A byte is put behind the row, and the variable is set. -/
theorem RwI.push {w : World} {N0 Bt gr cap : Nat} {l : List UInt8} {W w2 : World} (h : RwI w N0 Bt gr cap l W) (o : Obj) (c : UInt8) (hne : Bt ≠ gr) (hBt : w.heap.size ≤ Bt) (hgr : w.heap.size ≤ gr)
    (ho : w2.ownsRow w.heap.size 5 1 (.slice (some ⟨gr, 0, none⟩) (l.length + 1) cap) (l.length + 1) (l.map bv ++ [bv c])) (hg : (W.alloc o).grownBy w2 (some gr)) :
    RwI w N0 Bt gr cap (l ++ [c]) (w2.setCell ⟨Bt, 0, none⟩ (.slice (some ⟨gr, 0, none⟩) (l.length + 1) cap)) ∧ (∀ g h : Nat, g < W.heap.size → h < W.heap.size → g ≠ Bt → g ≠ gr → h ≠ Bt → h ≠ gr → Stp g h W (w2.setCell ⟨Bt, 0, none⟩ (.slice (some ⟨gr, 0, none⟩) (l.length + 1) cap))) ∧
      w2.cell? ⟨Bt, 0, none⟩ = some (.slice (some ⟨gr, 0, none⟩) l.length cap) ∧ w2.frozen? ⟨Bt, 0, none⟩ = false := by
  have hb := (h.2.1.alloc o).kept hg (some_ne hne)
  have hlen : (l ++ [c]).length = l.length + 1 := by simp
  obtain ⟨cs, hcs⟩ := h.row
  have hsz : N0 ≤ w2.heap.size := by have h1 := h.1; have h2 := hg.size; simp at h2; omega
  refine ⟨⟨Nat.le_trans hsz (by simp), ?_, ?_, ?_⟩, ?_, hb.cell 0 _ rfl, hb.frozen 0⟩
  · rw [hlen]
    exact hb.set 0 _
  · unfold Own
    rw [hlen, List.map_append]
    exact World.ownsRow.kept ho (grown_set w2 Bt 0 _) (.inr (some_ne hne.symm))
  · exact ((h.2.2.2.alloc o).grown hg hgr).grown (grown_set w2 Bt 0 _) hBt
  · intro g h' h1 h2 n1 n2 n3 n4
    have e1 : W.heap.size ≤ (W.alloc o).heap.size := by simp
    have e2 := hg.size
    exact ((Stp.ext ((Ext.refl W).alloc o) h1 h2).trans (Stp.put hg (hcs.alloc o) (by omega) (by omega) n2 n4)).trans (Stp.put (grown_set w2 Bt 0 _) hb (by omega) (by omega) n1 n3)

/-- The bytes that the rounds of pre bring. -/
def bytL (n : Nat) (pre : List Nat) : List UInt8 := pre.map fun k => UInt8.ofNat (dBits n 8 k)
set_option maxRecDepth 100000 in
theorem bytL_snoc (n : Nat) (pre : List Nat) (k : Nat) : bytL n (pre ++ [k]) = bytL n pre ++ [UInt8.ofNat (dBits n 8 k)] := by simp [bytL]
set_option maxRecDepth 100000 in
theorem bytL_len (n : Nat) (pre : List Nat) : (bytL n pre).length = pre.length := by simp [bytL]


end Go.Proofs.Ytmojbekihbmdfaa
