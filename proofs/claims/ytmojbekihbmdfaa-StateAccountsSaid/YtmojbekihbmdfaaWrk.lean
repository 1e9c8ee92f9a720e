/- The helper of the statements of layer 2: the layer does something. -/
import Derived.Test.YtmojbekihbmdfaaWrj
import Derived.Test.YtmojbekihbmdfaaFrm
namespace Go.Proofs.Ytmojbekihbmdfaa
open Go.RowKit

set_option maxRecDepth 100000 in
theorem wpList_load_wordG {P : Program} {ops : Array Oper} {rest : List Oper} {o : Oper} {a : Act} {w : World} {Q : Exit → Act → World → Prop} (hgd : Region.wanted o (yielded ops a.tmps) = true) (ty e : TypeId) (x : Operand) (ho : o.op = .load ty x)
    (hu : P.underlying ty = some (.array 4 e)) (hi : (P.info? ty).map (·.size) = some 4) (g n : Nat) (hx : a.eval x = .pointer (some ⟨g, 0, none⟩)) (hg : Wd w g ty n)
    (h : wpList P ops Q rest (a.put o.dst (wv n)) w) : wpList P ops Q (o :: rest) a w := by
  refine wpList_step fun K hK => ?_
  rw [if_pos hgd]
  exact wp_load_row ty x ho g hx ty (wc n) (0, 0) _ hg hu rfl hi (hK _ _ h)

set_option maxRecDepth 100000 in
theorem agg_zero : Value.agg #[.int .u64 0, .int .u64 0, .int .u64 0, .int .u64 0] = wv 0 := rfl

end Go.Proofs.Ytmojbekihbmdfaa
