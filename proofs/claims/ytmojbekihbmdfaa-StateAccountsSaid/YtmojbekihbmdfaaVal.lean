/- What the operations of a drawn region have answered. (The same lies in Inw, for seats with words.) -/
import Derived.Test.YtmojbekihbmdfaaInv
namespace Go.Proofs.Ytmojbekihbmdfaa

/-- The values of the operations, and one more. -/
def upd (V : Nat → Value) (i : Nat) (x : Value) : Nat → Value := fun j => if j = i then x else V j
/-- What the operations of L have answered. -/
def Vals (val : Nat → Option Value) (L : Nat → Bool) (V : Nat → Value) : Prop := ∀ j x, val j = some x → L j = true → V j = x
theorem Vals.up {val : Nat → Option Value} {L : Nat → Bool} {V : Nat → Value} (h : Vals val L V) (i : Nat) (y : Value) (hy : ∀ x, val i = some x → y = x) : Vals val (More L i) (upd V i y) := by
  intro j x hx hj
  unfold upd
  split
  · rename_i e
    subst e
    exact hy x hx
  · rename_i e
    exact h j x hx (more_ne hj (by simpa using e))
theorem Vals.st {val : Nat → Option Value} {L : Nat → Bool} {V : Nat → Value} (h : Vals val L V) (i : Nat) (hy : val i = none) : Vals val (More L i) V := by
  intro j x hx hj
  by_cases e : j = i
  · subst e
    rw [hy] at hx
    cases hx
  · exact h j x hx (more_ne hj (by simpa using e))
theorem Vals.no (val : Nat → Option Value) (n : Nat) (V : Nat → Value) (h : ∀ j, n ≤ j → val j = none) : Vals val (fun j => decide (n ≤ j)) V := by
  intro j x hx hj
  rw [h j (by simpa using hj)] at hx
  cases hx
theorem far_none (l : List (Option Value)) (n : Nat) (hn : l.length = n) (j : Nat) (hj : n ≤ j) : l.getD j none = none := by
  rw [List.getD_eq_getElem?_getD, List.getElem?_eq_none (by omega)]
  rfl
end Go.Proofs.Ytmojbekihbmdfaa
