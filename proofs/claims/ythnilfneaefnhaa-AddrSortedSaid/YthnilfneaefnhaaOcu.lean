/- Contracts of package octet: the rest. -/
import Derived.Test.YthnilfneaefnhaaOct
namespace Go.Proofs.Ythnilfneaefnhaa
open Go.RowKit

/-- Noughts ahead of l, up to n bytes. -/
def ahd (l : List UInt8) (n : Nat) : List UInt8 := List.replicate (n - l.length) 0 ++ l
set_option maxRecDepth 100000 in
theorem lay_ahd (l : List UInt8) (n : Nat) (h : l.length ≤ n) : lay (List.replicate n 0) (n - l.length) l = ahd l n := by
  apply ext_getD (by rw [lay_length]; simp [ahd]; omega)
  intro i hi
  rw [lay_length] at hi
  have hi' : i < n := by simpa using hi
  rw [lay_getD _ _ _ _ hi, getD_zeros]
  unfold ahd
  rw [getD_append_if, getD_zeros]
  simp only [List.length_replicate]
  by_cases h : i < n - l.length
  · rw [if_neg (by omega), if_pos h]
  · rw [if_pos (by omega), if_neg h]

end Go.Proofs.Ythnilfneaefnhaa
