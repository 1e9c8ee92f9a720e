/- Contracts of package octet: refusals; Bare, Over, Put64, U64. -/
import Derived.Test.YthnilfneaefnhaaOcu
namespace Go.Proofs.Ythnilfneaefnhaa
open Go.RowKit

/-- Without the noughts that it begins with. -/
def bare (l : List UInt8) : List UInt8 := l.dropWhile (· == 0)
set_option maxRecDepth 100000 in
theorem bare_step (l : List UInt8) (k : Nat) (hk : k < l.length) : bare (l.drop k) = if l.getD k 0 == 0 then bare (l.drop (k + 1)) else l.drop k := by
  unfold bare
  have e : l.getD k 0 = l[k] := by simp [List.getD, List.getElem?_eq_getElem hk]
  rw [e, List.drop_eq_getElem_cons hk, List.dropWhile_cons]
set_option maxRecDepth 100000 in
theorem bare_le (l : List UInt8) : (bare l).length ≤ l.length := by
  have := (List.dropWhile_suffix (l := l) (· == 0)).length_le
  exact this
set_option maxRecDepth 100000 in
theorem fit_self (l : List UInt8) (n : Nat) (h : n = l.length) : fit l n = l := by
  subst h
  simp [fit]

end Go.Proofs.Ythnilfneaefnhaa
