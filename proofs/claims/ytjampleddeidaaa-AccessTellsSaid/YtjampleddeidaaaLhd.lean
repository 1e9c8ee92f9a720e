/- Package ledger: where a row stands. -/
import Derived.Test.YtjampleddeidaaaLhc
namespace Go.Proofs.Ytjampleddeidaaa
open Go.ChangeShapes Go.WideShapes Go.ChangeAt Go.RowKit Go.Shelf

/-- The rows' addresses rise. -/
def RiseG (l : List Hd) : Prop := ∀ i j, i < j → j < l.length → (l.getD i hz0).addr < (l.getD j hz0).addr
/-- How many keys are below that one; whether it is there. -/
def posG (l : List Hd) (k : Nat) : Nat := (l.filter fun p => decide (p.addr < k)).length
def hasG (l : List Hd) (k : Nat) : Bool := decide (posG l k < l.length) && decide ((l.getD (posG l k) hz0).addr = k)
set_option maxRecDepth 100000 in
theorem posG_le (l : List Hd) (k : Nat) : posG l k ≤ l.length := List.length_filter_le _ _
set_option maxRecDepth 100000 in
theorem posG_lt : ∀ (l : List Hd) (k : Nat), RiseG l → ∀ i, i < l.length → ((l.getD i hz0).addr < k ↔ i < posG l k)
  | [], k, _, i, hi => by simp at hi
  | p :: l, k, hr, i, hi => by
    have hr' : RiseG l := fun a b hab hb => by
      have := hr (a + 1) (b + 1) (by omega) (by simp; omega)
      simpa using this
    have ih := posG_lt l k hr'
    by_cases hp : p.addr < k
    · have e : posG (p :: l) k = posG l k + 1 := by unfold posG; simp [hp]
      rw [e]
      cases i with
      | zero => simpa using hp
      | succ i =>
        have := ih i (by simpa using hi)
        simp only [List.getD_cons_succ]
        omega
    · have e : posG (p :: l) k = posG l k := by unfold posG; simp [hp]
      have h0 : posG l k = 0 := by
        rcases Nat.eq_zero_or_pos (posG l k) with h | h
        · exact h
        · have hl : 0 < l.length := Nat.lt_of_lt_of_le h (posG_le l k)
          have h1 := (ih 0 hl).2 h
          have h2 := hr 0 1 (by omega) (by simp; omega)
          simp at h2
          simp [List.getD] at h1 h2 ⊢
          omega
      rw [e, h0]
      cases i with
      | zero => simp [hp]
      | succ i =>
        have h2 := hr 0 (i + 1) (by omega) hi
        simp only [List.getD_cons_zero, List.getD_cons_succ] at h2 ⊢
        omega
end Go.Proofs.Ytjampleddeidaaa
