/- The document's own answers of layer 6: Empty, many, Total, fits, Of. -/
import Derived.Test.YteidmoilldheeaaQSma
import Derived.Test.YteidmoilldheeaaQRce
namespace Go.Proofs.Yteidmoilldheeaa
open Go.ChangeShapes Go.WideShapes Go.ChangeAt Go.RowKit Go.Shelf

def ldF (st : List (Nat × Nat)) (k : Nat) : Nat := match st.find? (fun p => p.1 == k) with
  | some p => p.2
  | none => 0
set_option maxRecDepth 100000 in
theorem ldF_none {st : List (Nat × Nat)} {k : Nat} (h : ∀ p ∈ st, p.1 ≠ k) : ldF st k = 0 := by
  unfold ldF
  rw [List.find?_eq_none.2 (fun p hp => by simpa using h p hp)]
end Go.Proofs.Yteidmoilldheeaa
