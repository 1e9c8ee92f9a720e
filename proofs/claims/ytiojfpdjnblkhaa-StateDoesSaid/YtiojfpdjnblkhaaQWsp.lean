/- Slices of words: what came in, parts of it, a copy of the call's own; and the mathematics of sums. -/
import Derived.Test.YtiojfpdjnblkhaaQRcd
import Derived.Deep.Slices
import Derived.Maps.AppendAt
namespace Go.Proofs.Ytiojfpdjnblkhaa
open Go.ChangeShapes Go.WideShapes Go.ChangeAt Go.RowKit

theorem sumW_eq (l : List Nat) (hl : ∀ x ∈ l, x < M256) : sumW l = (l.sum % M256, decide (M256 ≤ l.sum)) := by
 unfold sumW
 suffices h : ∀ (s : Nat) (l : List Nat), (∀ x ∈ l, x < M256) → l.foldl sumS (s % M256, decide (M256 ≤ s)) = ((s + l.sum) % M256, decide (M256 ≤ s + l.sum)) by
  have := h 0 l hl
  rw [Nat.zero_mod, Nat.zero_add, decide_eq_false (show ¬ M256 ≤ 0 by decide)] at this
  exact this
 intro s l
 induction l generalizing s with
 | nil => intro _; rw [List.foldl_nil, List.sum_nil, Nat.add_zero]
 | cons x l ih =>
  intro hx
  have h1 := hx x List.mem_cons_self
  have e : sumS (s % M256, decide (M256 ≤ s)) x = ((s + x) % M256, decide (M256 ≤ s + x)) := by
   unfold sumS addN ovr
   refine Prod.ext (by simp [Nat.mod_add_mod]) ?_
   show (decide (M256 ≤ s) || decide (M256 ≤ s % M256 + x)) = decide (M256 ≤ s + x)
   by_cases h : M256 ≤ s
   ·simp [h, show M256 ≤ s + x by omega]
   ·rw [Nat.mod_eq_of_lt (by omega)]
    simp [h]
  rw [List.foldl_cons, e, ih (s + x) (fun y hy => hx y (List.mem_cons_of_mem _ hy)), List.sum_cons, Nat.add_assoc]

end Go.Proofs.Ytiojfpdjnblkhaa
