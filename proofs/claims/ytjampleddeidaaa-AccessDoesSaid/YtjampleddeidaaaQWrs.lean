/- Contracts of package word: moves (limbAt, move, Shl, Shr). -/
import Derived.Test.YtjampleddeidaaaQWrl
namespace Go.Proofs.Ytjampleddeidaaa
open Go.RowKit

set_option maxRecDepth 100000 in
theorem tb_big (a k : Nat) (ha : a < M256) (hk : 256 ≤ k) : a.testBit k = false :=
  Nat.testBit_lt_two_pow (Nat.lt_of_lt_of_le ha (by rw [M256_pow]; exact Nat.pow_le_pow_right (by decide) hk))
end Go.Proofs.Ytjampleddeidaaa
