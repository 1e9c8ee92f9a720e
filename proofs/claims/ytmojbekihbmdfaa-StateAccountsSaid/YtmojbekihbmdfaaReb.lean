/- A call that answers a row of bytes of its own. -/
import Derived.Test.YtmojbekihbmdfaaRows
import Derived.Test.YtmojbekihbmdfaaByt
namespace Go.Proofs.Ytmojbekihbmdfaa
open Go.RowKit

set_option maxRecDepth 100000 in
theorem u8info : (Try.prog.info? 5).map (fun i => (i.zero, i.size, i.bytes)) = some (some (.int .u8 0), 1, 1) := by kernel_rfl
set_option maxRecDepth 100000 in
theorem u8size : (Try.prog.info? 5).map (·.size) = some 1 := by kernel_rfl
/-- A call that answers a row of bytes of its own. -/
def RetB (w : World) (l : List UInt8) (e : Ending) (w' : World) : Prop := ∃ v, e = .returned v ∧ Own w' w.heap.size 5 v l ∧ Ext w w'
end Go.Proofs.Ytmojbekihbmdfaa
