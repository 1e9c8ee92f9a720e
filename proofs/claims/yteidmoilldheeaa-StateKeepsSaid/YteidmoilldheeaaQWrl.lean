/- The helper of the statements of layer 2: the layer does something. Contracts of package word: products. Contract of Mul. What the laws of layer 2 share: words that come in, answers under names of their own, and what a region that draws its order keeps. -/
import Derived.Test.YteidmoilldheeaaQWri
import Derived.Test.YteidmoilldheeaaQFrm
import Derived.Test.YteidmoilldheeaaQWre
import Derived.Lib.Mul64
import Derived.Laws.Bits64b
import Derived.Deep.RegionHeld3
namespace Go.Proofs.Yteidmoilldheeaa
open Go.RowKit

set_option maxRecDepth 100000 in
theorem wpList_load_wordG {P : Program} {ops : Array Oper} {rest : List Oper} {o : Oper} {a : Act} {w : World} {Q : Exit → Act → World → Prop} (hgd : Region.wanted o (yielded ops a.tmps) = true) (ty e : TypeId) (x : Operand) (ho : o.op = .load ty x)
    (hu : P.underlying ty = some (.array 4 e)) (hi : (P.info? ty).map (·.size) = some 4) (g n : Nat) (hx : a.eval x = .pointer (some ⟨g, 0, none⟩)) (hg : Wd w g ty n)
    (h : wpList P ops Q rest (a.put o.dst (wv n)) w) : wpList P ops Q (o :: rest) a w := by
  refine wpList_step fun K hK => ?_
  rw [if_pos hgd]
  exact wp_load_row ty x ho g hx ty (wc n) (0, 0) _ hg hu rfl hi (hK _ _ h)

end Go.Proofs.Yteidmoilldheeaa
namespace Go.Proofs.Yteidmoilldheeaa
open Go.RowKit

namespace Mu
set_option maxRecDepth 100000 in
theorem addN (a b : Nat) : (a : Int) + (b : Int) = ((a + b : Nat) : Int) := (Int.natCast_add a b).symm
end Mu

/-- The eight cells of a product. -/
def pc (n : Nat) : Array Value := ((List.range 8).map fun i => lv (lb n i)).toArray
end Go.Proofs.Yteidmoilldheeaa
namespace Go.Proofs.Yteidmoilldheeaa
open Go.RowKit

end Go.Proofs.Yteidmoilldheeaa
namespace Go.Proofs.Yteidmoilldheeaa
open Go.ChangeShapes Go.WideShapes Go.ChangeAt Go.RowKit

/-! ### The answers, under names that no rewriting opens -/
def addN (a b : Nat) : Nat := (a + b) % M256
/-- A call that answers the word r, and b. -/
def RetWB (w : World) (r : Nat) (b : Bool) (e : Ending) (w' : World) : Prop := e = .returned (.tuple #[wv r, .bool b]) ∧ r < M256 ∧ Ext w w'

set_option maxRecDepth 100000 in
theorem addN_lt (a b : Nat) : addN a b < M256 := Nat.mod_lt _ (by decide)
set_option maxRecDepth 100000 in
theorem add_w (a b : Nat) (w : World) (ha : a < M256) (hb : b < M256) : Calls Try.prog 20 #[wv a, wv b] w (RetWB w (addN a b) (ovr a b)) := (add_any a b w ha hb).mono fun _ _ h => ⟨h.1, addN_lt a b, h.2⟩
/-- A word, its cells written out. -/
abbrev lit (n : Nat) : Value := .agg #[.int .u64 (lb n 0 : Nat), .int .u64 (lb n 1 : Nat), .int .u64 (lb n 2 : Nat), .int .u64 (lb n 3 : Nat)]

/-- The four cells of a word, one by one. -/
def F4 (W : World) (g n : Nat) : Prop := W.cell? ⟨g, 0, none⟩ = some (.int .u64 (lb n 0 : Nat)) ∧ W.cell? ⟨g, 1, none⟩ = some (.int .u64 (lb n 1 : Nat)) ∧ W.cell? ⟨g, 2, none⟩ = some (.int .u64 (lb n 2 : Nat)) ∧ W.cell? ⟨g, 3, none⟩ = some (.int .u64 (lb n 3 : Nat))
set_option maxRecDepth 100000 in
theorem Wd.f4 {W : World} {g : Nat} {t : TypeId} {n : Nat} (h : Wd W g t n) : F4 W g n := h.cs.four
/-- Words that lie in memory, and what was there. -/
def Ks (w : World) (l : List (Nat × Nat)) (W : World) : Prop := (∀ x ∈ l, Wd W x.1 31 x.2) ∧ Ext w W
set_option maxRecDepth 100000 in
theorem Ks.ext {w : World} {l : List (Nat × Nat)} {W W' : World} (h : Ks w l W) (he : Ext W W') : Ks w l W' := ⟨fun x hx => (h.1 x hx).ext he, h.2.trans he⟩
set_option maxRecDepth 100000 in
theorem Ks.al {w : World} {l : List (Nat × Nat)} {W : World} (h : Ks w l W) (o : Obj) : Ks w l (W.alloc o) := h.ext ((Ext.refl W).alloc o)
set_option maxRecDepth 100000 in
theorem Ks.drew {w : World} {l : List (Nat × Nat)} {W : World} (h : Ks w l W) : Ks w l W.drew := h.ext (Ext.refl W).drew
set_option maxRecDepth 100000 in
theorem Ks.far {w : World} {l : List (Nat × Nat)} {W W' : World} {g : Nat} (h : Ks w l W) (hg : W.grownBy W' (some g)) (hw : w.heap.size ≤ g) (hn : ∀ x ∈ l, x.1 ≠ g) : Ks w l W' := ⟨fun x hx => (h.1 x hx).kept hg (some_ne (hn x hx)), h.2.grown hg hw⟩
set_option maxRecDepth 100000 in
theorem Ks.lt {w : World} {l : List (Nat × Nat)} {W : World} (h : Ks w l W) {g n : Nat} (hx : (g, n) ∈ l) : g < W.heap.size := (h.1 _ hx).lt
set_option maxRecDepth 100000 in
theorem Ks.at {w : World} {l : List (Nat × Nat)} {W : World} (h : Ks w l W) (g n : Nat) (hx : (g, n) ∈ l) : Wd W g 31 n := h.1 _ hx
set_option maxRecDepth 100000 in
theorem Ks.fresh {w : World} {l : List (Nat × Nat)} {W : World} (h : Ks w l W) : ∀ x ∈ l, x.1 ≠ W.heap.size := fun x hx => Nat.ne_of_lt (h.1 x hx).lt
/-- A word's block that is nought. -/
def Zb (W : World) (g : Nat) : Prop := Cs W g 31 (wc 0)
set_option maxRecDepth 100000 in
theorem Zb.new (W : World) : Zb (W.alloc (.cells #[.int .u64 0, .int .u64 0, .int .u64 0, .int .u64 0] 31)) W.heap.size := Cs.new _ _ _ _ rfl
set_option maxRecDepth 100000 in
theorem Zb.ext {W W' : World} {g : Nat} (h : Zb W g) (he : Ext W W') : Zb W' g := Cs.ext h he
set_option maxRecDepth 100000 in
theorem Zb.al {W : World} {g : Nat} (h : Zb W g) (o : Obj) : Zb (W.alloc o) g := Cs.alloc h o
set_option maxRecDepth 100000 in
theorem Zb.drew {W : World} {g : Nat} (h : Zb W g) : Zb W.drew g := h
set_option maxRecDepth 100000 in
theorem Zb.c0 {W : World} {g : Nat} (h : Zb W g) : W.cell? ⟨g, 0, none⟩ = some (.int .u64 0) := Cs.cell h 0 _ rfl
set_option maxRecDepth 100000 in
theorem Zb.c1 {W : World} {g : Nat} (h : Zb W g) : W.cell? ⟨g, 1, none⟩ = some (.int .u64 0) := Cs.cell h 1 _ rfl
set_option maxRecDepth 100000 in
theorem Zb.c2 {W : World} {g : Nat} (h : Zb W g) : W.cell? ⟨g, 2, none⟩ = some (.int .u64 0) := Cs.cell h 2 _ rfl
set_option maxRecDepth 100000 in
theorem Zb.c3 {W : World} {g : Nat} (h : Zb W g) : W.cell? ⟨g, 3, none⟩ = some (.int .u64 0) := Cs.cell h 3 _ rfl
set_option maxRecDepth 100000 in
theorem Zb.f {W : World} {g : Nat} (h : Zb W g) (i : Nat) : W.frozen? ⟨g, i, none⟩ = false := Cs.frozen h i
set_option maxRecDepth 100000 in
theorem Wd.al {W : World} {g n : Nat} {t : TypeId} (h : Wd W g t n) (o : Obj) : Wd (W.alloc o) g t n := Cs.alloc h o
set_option maxRecDepth 100000 in
theorem Zb.laid {W : World} {g : Nat} (h : Zb W g) (n : Nat) : Wd ((((W.setCell ⟨g, 0, none⟩ (.int .u64 (lb n 0 : Nat))).setCell ⟨g, 1, none⟩ (.int .u64 (lb n 1 : Nat))).setCell ⟨g, 2, none⟩ (.int .u64 (lb n 2 : Nat))).setCell ⟨g, 3, none⟩ (.int .u64 (lb n 3 : Nat))) g 31 n :=
  (((Cs.set h 0 _).set 1 _).set 2 _).set 3 _

set_option maxRecDepth 100000 in
/-- A new word is laid. -/
theorem Ks.put {w : World} {l : List (Nat × Nat)} {W W' : World} {o : Obj} {n : Nat} (h : Ks w l W) (hg : (W.alloc o).grownBy W' (some W.heap.size)) (k : Wd W' W.heap.size 31 n) : Ks w ((W.heap.size, n) :: l) W' :=
  ⟨fun x hx => by
    rcases List.mem_cons.1 hx with rfl | hx
    · exact k
    · exact ((h.1 x hx).cs.alloc o).kept hg (some_ne (Nat.ne_of_lt (h.1 x hx).lt)), (h.2.alloc o).grown hg h.2.size⟩
set_option maxRecDepth 100000 in
theorem Ks.cons {w : World} {l : List (Nat × Nat)} {W : World} (h : Ks w l W) {g n : Nat} (hg : Wd W g 31 n) : Ks w ((g, n) :: l) W := ⟨fun x hx => by rcases List.mem_cons.1 hx with rfl | hx; exact hg; exact h.1 x hx, h.2⟩

set_option maxRecDepth 100000 in
theorem Ks.two {w : World} {l : List (Nat × Nat)} {W : World} {g n g' n' : Nat} (h : Ks w l W) (h1 : Wd W g 31 n) (h2 : Wd W g' 31 n') : Ks w ((g, n) :: (g', n') :: l) W := (h.cons h2).cons h1

end Go.Proofs.Yteidmoilldheeaa
