/- Rows of states, of addresses that came in; what the document says of rooms and slots is what the layer says. -/
import Derived.Test.YtiojfpdjnblkhaaQSud
import Derived.Test.YtiojfpdjnblkhaaQPai
namespace Go.Proofs.Ytiojfpdjnblkhaa
open Go.ChangeShapes Go.WideShapes Go.ChangeAt Go.RowKit Go.Shelf

theorem room_eq {l : List Ac} (h : Rt l) (a : Nat) : roomB l a = roomR l a := by
 unfold roomB roomR
 by_cases h0 : a = 0
 ·subst h0
  simp
 rw [if_neg h0, h.had]
 cases hf : (accF l a).2 with
 | true => simp [h0]
 | false =>
  by_cases h16 : a < 16 <;> simp [h16, h0]
end Go.Proofs.Ytiojfpdjnblkhaa
