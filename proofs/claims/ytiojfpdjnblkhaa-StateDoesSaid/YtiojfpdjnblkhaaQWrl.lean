/- The helper of the statements of layer 2: the layer does something. Contracts of package word: products. Contract of Mul. What the laws of layer 2 share: words that come in, answers under names of their own, and what a region that draws its order keeps. -/
import Derived.Test.YtiojfpdjnblkhaaQWri
import Derived.Test.YtiojfpdjnblkhaaQFrm
import Derived.Test.YtiojfpdjnblkhaaQWre
import Derived.Lib.Mul64
import Derived.Laws.Bits64b
import Derived.Deep.RegionHeld3
namespace Go.Proofs.Ytiojfpdjnblkhaa
open Go.RowKit

theorem wpList_load_wordG {P : Program} {ops : Array Oper} {rest : List Oper} {o : Oper} {a : Act} {w : World} {Q : Exit → Act → World → Prop} (hgd : Region.wanted o (yielded ops a.tmps) = true) (ty e : TypeId) (x : Operand) (ho : o.op = .load ty x)
  (hu : P.underlying ty = some (.array 4 e)) (hi : (P.info? ty).map (·.size) = some 4) (g n : Nat) (hx : a.eval x = .pointer (some ⟨g, 0, none⟩)) (hg : Wd w g ty n)
  (h : wpList P ops Q rest (a.put o.dst (wv n)) w) : wpList P ops Q (o :: rest) a w := by
 refine wpList_step fun K hK => ?_
 rw [if_pos hgd]
 exact wp_load_row ty x ho g hx ty (wc n) (0, 0) _ hg hu rfl hi (hK _ _ h)

end Go.Proofs.Ytiojfpdjnblkhaa
namespace Go.Proofs.Ytiojfpdjnblkhaa
open Go.RowKit

namespace Mu
theorem addN (a b : Nat) : (a : Int) + (b : Int) = ((a + b : Nat) : Int) := (Int.natCast_add a b).symm
end Mu

def pc (n : Nat) : Array Value := ((List.range 8).map fun i => lv (lb n i)).toArray
end Go.Proofs.Ytiojfpdjnblkhaa
namespace Go.Proofs.Ytiojfpdjnblkhaa
open Go.RowKit

end Go.Proofs.Ytiojfpdjnblkhaa
namespace Go.Proofs.Ytiojfpdjnblkhaa
open Go.ChangeShapes Go.WideShapes Go.ChangeAt Go.RowKit

def addN (a b : Nat) : Nat := (a + b) % M256
def subN (a b : Nat) : Nat := (a + M256 - b) % M256

def RetWB (w : World) (r : Nat) (b : Bool) (e : Ending) (w' : World) : Prop := e = .returned (.tuple #[wv r, .bool b]) ∧ r < M256 ∧ Ext w w'

theorem addN_lt (a b : Nat) : addN a b < M256 := Nat.mod_lt _ (by decide)
set_option maxRecDepth 100000 in
theorem add_w (a b : Nat) (w : World) (ha : a < M256) (hb : b < M256) : Calls Try.prog 123 #[wv a, wv b] w (RetWB w (addN a b) (ovr a b)) := (add_any a b w ha hb).mono fun _ _ h => ⟨h.1, addN_lt a b, h.2⟩
abbrev lit (n : Nat) : Value := .agg #[.int .u64 (lb n 0 : Nat), .int .u64 (lb n 1 : Nat), .int .u64 (lb n 2 : Nat), .int .u64 (lb n 3 : Nat)]

def F4 (W : World) (g n : Nat) : Prop := W.cell? ⟨g, 0, none⟩ = some (.int .u64 (lb n 0 : Nat)) ∧ W.cell? ⟨g, 1, none⟩ = some (.int .u64 (lb n 1 : Nat)) ∧ W.cell? ⟨g, 2, none⟩ = some (.int .u64 (lb n 2 : Nat)) ∧ W.cell? ⟨g, 3, none⟩ = some (.int .u64 (lb n 3 : Nat))
theorem Wd.f4 {W : World} {g : Nat} {t : TypeId} {n : Nat} (h : Wd W g t n) : F4 W g n := h.cs.four
def Ks (w : World) (l : List (Nat × Nat)) (W : World) : Prop := (∀ x ∈ l, Wd W x.1 31 x.2) ∧ Ext w W
theorem Ks.ext {w : World} {l : List (Nat × Nat)} {W W' : World} (h : Ks w l W) (he : Ext W W') : Ks w l W' := ⟨fun x hx => (h.1 x hx).ext he, h.2.trans he⟩
theorem Ks.al {w : World} {l : List (Nat × Nat)} {W : World} (h : Ks w l W) (o : Obj) : Ks w l (W.alloc o) := h.ext ((Ext.refl W).alloc o)
theorem Ks.drew {w : World} {l : List (Nat × Nat)} {W : World} (h : Ks w l W) : Ks w l W.drew := h.ext (Ext.refl W).drew
theorem Ks.at {w : World} {l : List (Nat × Nat)} {W : World} (h : Ks w l W) (g n : Nat) (hx : (g, n) ∈ l) : Wd W g 31 n := h.1 _ hx
theorem Ks.put {w : World} {l : List (Nat × Nat)} {W W' : World} {o : Obj} {n : Nat} (h : Ks w l W) (hg : (W.alloc o).grownBy W' (some W.heap.size)) (k : Wd W' W.heap.size 31 n) : Ks w ((W.heap.size, n) :: l) W' :=
 ⟨fun x hx => by
  rcases List.mem_cons.1 hx with rfl | hx
  ·exact k
  ·exact ((h.1 x hx).cs.alloc o).kept hg (some_ne (Nat.ne_of_lt (h.1 x hx).lt)), (h.2.alloc o).grown hg h.2.size⟩
end Go.Proofs.Ytiojfpdjnblkhaa
