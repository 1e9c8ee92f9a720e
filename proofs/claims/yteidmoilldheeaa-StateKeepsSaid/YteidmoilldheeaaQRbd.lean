/- The document's own answers of layer 2: Bit, bits, of. The document's own answers of layer 2: add, of two rows of bits. The document's own answers of layer 2: And, Or, Xor, Not. The document's own answers of layer 2: Not, Moves. The document's own answers of layer 2: Shl, Shr. -/
import Derived.Test.YteidmoilldheeaaQWrs
import Derived.Test.YteidmoilldheeaaQByt
import Derived.RegionTactic
import Derived.OwnWalk
import Derived.Deep.RegionHeld3
import Derived.WalkLawsBesides
import Derived.Test.YteidmoilldheeaaQInw
import Derived.Laws.OwnMore
namespace Go.Proofs.Yteidmoilldheeaa
open Go.RowKit

/-! ### Bits of a number -/
def bitN (n k : Nat) : Nat := n / 2 ^ k % 2
/-- A word's bits. -/
def bitsL (n m : Nat) : List Nat := (List.range m).map (bitN n)
end Go.Proofs.Yteidmoilldheeaa
namespace Go.Proofs.Yteidmoilldheeaa
open Go.RowKit

end Go.Proofs.Yteidmoilldheeaa
namespace Go.Proofs.Yteidmoilldheeaa
open Go.RowKit

end Go.Proofs.Yteidmoilldheeaa
namespace Go.Proofs.Yteidmoilldheeaa
open Go.RowKit

end Go.Proofs.Yteidmoilldheeaa
namespace Go.Proofs.Yteidmoilldheeaa
open Go.RowKit

/-- What the way to Shl keeps. -/
def ShI (w : World) (a n R : Nat) (V : Nat → Value) (L : Nat → Bool) (W : World) : Prop :=
  Wd W w.heap.size 31 a ∧ Ext w W ∧ w.heap.size + 2 ≤ W.heap.size ∧ (∃ cs, Cs W (w.heap.size + 1) 31 cs ∧ cs.size = 4 ∧ (L 6 = true → cs = wc R)) ∧
    (L 0 = true → V 0 = .int .i64 (n : Int)) ∧ (L 1 = true → L 4 = false → OwnI W (w.heap.size + 2) 3 (V 1) (List.replicate n 0)) ∧ (L 2 = true → V 2 = wv a) ∧
    (L 3 = true → L 4 = false → Rs W 1 (V 3) 256 ((bitsL a 256).map iv)) ∧ (L 4 = true → L 5 = false → OwnI W (w.heap.size + 2) 3 (V 4) (List.replicate n 0 ++ bitsL a 256)) ∧ (L 5 = true → V 5 = wv R)
set_option maxRecDepth 100000 in
theorem ShI.ext {w : World} {a n R : Nat} {V : Nat → Value} {L : Nat → Bool} {W W' : World} (h : ShI w a n R V L W) (he : Ext W W') : ShI w a n R V L W' := by
  obtain ⟨h1, h2, h3, ⟨cs, h4, h5, h6⟩, h7, h8, h9, h10, h11, h12⟩ := h
  exact ⟨h1.ext he, h2.trans he, Nat.le_trans h3 he.size, ⟨cs, h4.ext he, h5, h6⟩, h7, fun x y => own_ext (h8 x y) he, h9, fun x y => (h10 x y).ext he, fun x y => own_ext (h11 x y) he, h12⟩
set_option maxRecDepth 100000 in
/-- A value is put in its place, and is what it must be. -/
theorem ShI.up {w : World} {a n R : Nat} {V : Nat → Value} {L : Nat → Bool} {W : World} (h : ShI w a n R V L W) (i : Nat) (x : Value) (hi6 : i ≠ 6) (hL : i = 4 → L 5 = false → OwnI W (w.heap.size + 2) 3 x (List.replicate n 0 ++ bitsL a 256))
    (h0 : i = 0 → x = .int .i64 (n : Int)) (h1 : i = 1 → L 4 = false → OwnI W (w.heap.size + 2) 3 x (List.replicate n 0)) (h2 : i = 2 → x = wv a) (h3 : i = 3 → L 4 = false → Rs W 1 x 256 ((bitsL a 256).map iv)) (h5 : i = 5 → x = wv R) :
    ShI w a n R (upd V i x) (More L i) W := by
  obtain ⟨k1, k2, k3, ⟨cs, k4, k5, k6⟩, k7, k8, k9, k10, k11, k12⟩ := h
  have U : ∀ j, upd V i x j = if j = i then x else V j := fun j => rfl
  have M : ∀ j, More L i j = if j = i then true else L j := fun j => rfl
  refine ⟨k1, k2, k3, ⟨cs, k4, k5, fun e => k6 (by rw [M, if_neg (Ne.symm hi6)] at e; exact e)⟩, ?_, ?_, ?_, ?_, ?_, ?_⟩
  all_goals
    rw [U]
    simp only [M]
  · by_cases e : 0 = i
    · rw [if_pos e, if_pos e]; exact fun _ => h0 e.symm
    · rw [if_neg e, if_neg e]; exact k7
  · by_cases e : 1 = i
    · rw [if_pos e]; subst e; exact fun _ y => h1 rfl (by simpa using y)
    · rw [if_neg e, if_neg e]
      intro y z
      refine k8 y ?_
      by_cases e4 : 4 = i
      · rw [if_pos e4] at z; cases z
      · rwa [if_neg e4] at z
  · by_cases e : 2 = i
    · rw [if_pos e, if_pos e]; exact fun _ => h2 e.symm
    · rw [if_neg e, if_neg e]; exact k9
  · by_cases e : 3 = i
    · rw [if_pos e]; subst e; exact fun _ y => h3 rfl (by simpa using y)
    · rw [if_neg e, if_neg e]
      intro y z
      refine k10 y ?_
      by_cases e4 : 4 = i
      · rw [if_pos e4] at z; cases z
      · rwa [if_neg e4] at z
  · by_cases e : 4 = i
    · rw [if_pos e]; subst e; exact fun _ y => hL rfl (by simpa using y)
    · rw [if_neg e, if_neg e]
      intro y z
      refine k11 y ?_
      by_cases e5 : 5 = i
      · rw [if_pos e5] at z; cases z
      · rwa [if_neg e5] at z
  · by_cases e : 5 = i
    · rw [if_pos e, if_pos e]; exact fun _ => h5 e.symm
    · rw [if_neg e, if_neg e]; exact k12

end Go.Proofs.Yteidmoilldheeaa
