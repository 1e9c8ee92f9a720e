/- The document's own answers of layer 2: And, Or, Xor, Not. -/
import Derived.Test.YtgmmkoahnednfaaRba
import Derived.WalkLawsBesides
namespace Go.Proofs.Ytgmmkoahnednfaa
open Go.RowKit

/-- The first k answers of f. -/
def mapL (f : Nat → Nat) (k : Nat) : List Nat := (List.range k).map f
set_option maxRecDepth 100000 in
theorem mapL_len (f : Nat → Nat) (k : Nat) : (mapL f k).length = k := by simp [mapL]
set_option maxRecDepth 100000 in
theorem mapL_succ (f : Nat → Nat) (k : Nat) : mapL f (k + 1) = mapL f k ++ [f k] := by simp [mapL, List.range_succ]
set_option maxRecDepth 100000 in
theorem mapL_get (f : Nat → Nat) (k j : Nat) (h : j < k) : (mapL f k).getD j 0 = f j := by simp [mapL, List.getD, h]
set_option maxRecDepth 100000 in
theorem ofN_mapL (f : Nat → Nat) (j : Nat) (h : j < 256) : (ofN (mapL f 256)).testBit j = decide (f j = 1) := by
  rw [ofN_tb, mapL_get f 256 j h]
  simp [h]
def xorB (x y : Nat) : Nat := (x + y) % 2
set_option maxRecDepth 100000 in
theorem Ks.grownOwn {w : World} {l : List (Nat × Nat)} {W W' : World} {base s n : Nat} {e : TypeId} {v : Value} {cs : List Value} (h : Ks w l W) (ho : W.ownsRow base e s v n cs) (k : W.grownBy W' v.ownBlock) (hw : w.heap.size ≤ base) (hl : ∀ x ∈ l, x.1 < base) : Ks w l W' :=
  ⟨fun x hx => own_block ho k (hl x hx) (h.1 x hx), Below.grown h.2 k h.2.size (fun j hj => Nat.le_trans hw (ho.lt j hj).1)⟩

end Go.Proofs.Ytgmmkoahnednfaa
