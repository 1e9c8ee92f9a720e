/- Rows of words: the append of many, and a store into the row. -/
import Derived.Test.YtjampleddeidaaaQWsp
import Derived.Test.YtjampleddeidaaaQByt
import Derived.Laws.CopyRow
namespace Go.Proofs.Ytjampleddeidaaa
open Go.ChangeShapes Go.WideShapes Go.ChangeAt Go.RowKit

set_option maxRecDepth 100000 in
theorem run_storeVar_elem {P : Program} (w : World) (g o : Nat) (t ty : TypeId) (cur cells : Array Value) (hg : Cs w g t cur) (hi : (P.info? ty).map (·.size) = some cells.size) (hb : o + cells.size ≤ cur.size) (h1 : cells.all (·.oneCell') = true) :
    (storeVar ty ⟨g, o, none⟩ (.agg cells)).run P w = .ok () (w.setRow g (cur.toList.take o ++ cells.toList ++ cur.toList.drop (o + cells.size)).toArray) := by
  have := run_storeCells_at (P := P) g o t cells.toList 0 cur w hg (by simpa using hb) (fun v hv => (Array.all_eq_true_iff_forall_mem.1 h1) v (by simpa using hv))
  cases hq : P.info? ty with
  | none => simp [hq] at hi
  | some i =>
    have hs : cells.size = i.size := by simp [hq] at hi; omega
    simp only [Nat.add_zero, Array.length_toList] at this
    simp [storeVar, sizeOf, typeInfo, hq, Value.cells, hs]
    simpa [hs] using this

end Go.Proofs.Ytjampleddeidaaa
