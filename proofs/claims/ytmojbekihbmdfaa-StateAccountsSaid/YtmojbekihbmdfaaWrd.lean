/- Contracts of package word: what is done bit by bit. -/
import Derived.Test.YtmojbekihbmdfaaWrc
namespace Go.Proofs.Ytmojbekihbmdfaa
open Go.RowKit

set_option maxRecDepth 100000 in
theorem lb_and (a b i : Nat) : lb (a &&& b) i = lb a i &&& lb b i := by
  unfold lb
  rw [show (18446744073709551616 : Nat) = 2 ^ 64 from rfl, ← Nat.pow_mul, Nat.and_div_two_pow, Nat.and_mod_two_pow]
set_option maxRecDepth 100000 in
theorem lb_xor (a b i : Nat) : lb (a ^^^ b) i = lb a i ^^^ lb b i := by
  unfold lb
  rw [show (18446744073709551616 : Nat) = 2 ^ 64 from rfl, ← Nat.pow_mul, Nat.xor_div_two_pow, Nat.xor_mod_two_pow]
set_option maxRecDepth 100000 in
theorem lb_not (a i : Nat) (hi : i < 4) (ha : a < M256) : lb (M256 - 1 - a) i = 18446744073709551615 - lb a i := by
  have hl := ofL_lb a ha
  have h0 := lb_lt a 0
  have h1 := lb_lt a 1
  have h2 := lb_lt a 2
  have h3 := lb_lt a 3
  have e : M256 - 1 - a = ofL (18446744073709551615 - lb a 0) (18446744073709551615 - lb a 1) (18446744073709551615 - lb a 2) (18446744073709551615 - lb a 3) := by
    unfold ofL M256 at *
    omega
  have hb := lb_ofL (18446744073709551615 - lb a 0) (18446744073709551615 - lb a 1) (18446744073709551615 - lb a 2) (18446744073709551615 - lb a 3) (by omega) (by omega) (by omega) (by omega)
  rw [← e] at hb
  match i, hi with
  | 0, _ => exact hb.1
  | 1, _ => exact hb.2.1
  | 2, _ => exact hb.2.2.1
  | 3, _ => exact hb.2.2.2
set_option maxRecDepth 100000 in
theorem M256_pow : M256 = 2 ^ 256 := rfl

set_option maxRecDepth 100000 in
theorem xor_all (x : Nat) (hx : x < 18446744073709551616) : 18446744073709551615 ^^^ x = 18446744073709551615 - x := by
  have h := congrArg BitVec.toNat (BitVec.allOnes_xor (x := BitVec.ofNat 64 x))
  rw [BitVec.toNat_xor, BitVec.toNat_not, BitVec.toNat_allOnes, BitVec.toNat_ofNat, Nat.mod_eq_of_lt hx] at h
  exact h

end Go.Proofs.Ytmojbekihbmdfaa
