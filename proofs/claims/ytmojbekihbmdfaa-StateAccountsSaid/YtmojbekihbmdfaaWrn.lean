/- Contract of Mul. -/
import Derived.Test.YtmojbekihbmdfaaWrm
namespace Go.Proofs.Ytmojbekihbmdfaa
open Go.RowKit

set_option maxRecDepth 100000 in
theorem idx_word (a i : Nat) (hi : i < 4) (u : World) : (Instr.index 31 (wv a) (.int .i64 (i : Nat))).run Try.prog u = .ok (.int .u64 (lb a i : Nat)) u := by
  match i, hi with
  | 0, _ => rfl
  | 1, _ => rfl
  | 2, _ => rfl
  | 3, _ => rfl

set_option maxRecDepth 100000 in
theorem M256_B : M256 = 18446744073709551616 ^ 4 := rfl
set_option maxRecDepth 100000 in
theorem lb_low (P i : Nat) (hi : i < 4) : lb P i = lb (P % M256) i := by
  rw [lb_mod, lb_mod, M256_B, Nat.mod_mod_of_dvd _ (Nat.pow_dvd_pow _ (by omega))]
set_option maxRecDepth 100000 in
theorem lb_high (P i : Nat) : lb P (4 + i) = lb (P / M256) i := by
  unfold lb
  rw [M256_B, Nat.pow_add, ← Nat.div_div_eq_div_mul]

/-- The product, and whether it did not fit. -/
def mulN (a b : Nat) : Nat := a * b % M256
def mulO (a b : Nat) : Bool := decide (M256 ≤ a * b)

end Go.Proofs.Ytmojbekihbmdfaa
