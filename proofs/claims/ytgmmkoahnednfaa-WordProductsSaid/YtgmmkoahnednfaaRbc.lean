/- The document's own answers of layer 2: Not, Moves. -/
import Derived.Test.YtgmmkoahnednfaaRbb
namespace Go.Proofs.Ytgmmkoahnednfaa
open Go.RowKit

set_option maxRecDepth 100000 in
theorem lbs_zero (n : Nat) (h : n < 18446744073709551616) : lb n 0 = n ∧ lb n 1 = 0 ∧ lb n 2 = 0 ∧ lb n 3 = 0 := by
  rw [lb0, lb1, lb2, lb3]
  omega
set_option maxRecDepth 100000 in
theorem lbs_sum (n : Nat) (hn : n < M256) (h1 : lb n 1 = 0) (h2 : lb n 2 = 0) (h3 : lb n 3 = 0) : lb n 0 = n := by
  unfold M256 at hn
  rw [lb1] at h1
  rw [lb2] at h2
  rw [lb3] at h3
  rw [lb0]
  omega
end Go.Proofs.Ytgmmkoahnednfaa
