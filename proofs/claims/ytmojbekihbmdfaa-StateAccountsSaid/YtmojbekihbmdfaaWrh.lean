/- Div is the division of numbers. -/
import Derived.Test.YtmojbekihbmdfaaWrg
namespace Go.Proofs.Ytmojbekihbmdfaa
open Go.RowKit Go.Shelf

set_option maxRecDepth 100000 in
theorem dAt_one (k : Nat) : dAt 1 k = 255 - k := by unfold dAt; omega

set_option maxRecDepth 100000 in
theorem divS_step (a b k q r m : Nat) (hb : 0 < b) (hbM : b < M256) (ha : a < M256) (hm : m = a / 2 ^ (255 - k)) (hq : q = m / 2 / b * 2 ^ (255 - k + 1)) (hr : r = m / 2 % b) :
    divS a b (q, r) k = (m / b * 2 ^ (255 - k), m % b) := by
  have hbit : dBits a 1 k = m % 2 := by unfold dBits; rw [dAt_one, ← hm]
  have hml : m ≤ a := by rw [hm]; exact Nat.div_le_self _ _
  have hrb : r < b := by rw [hr]; exact Nat.mod_lt _ hb
  have hrm : r ≤ m / 2 := by rw [hr]; exact Nat.mod_le _ _
  have e1 : (r + r) % M256 ||| dBits a 1 k * 2 ^ 0 = 2 * r + m % 2 := by
    rw [hbit, Nat.pow_zero, Nat.mul_one, Nat.mod_eq_of_lt (by unfold M256 at *; omega), ← Nat.two_mul]
    exact (Nat.two_pow_add_eq_or_of_lt (i := 1) (b := m % 2) (by omega) r).symm
  have hdm : m = b * (2 * (m / 2 / b)) + (2 * r + m % 2) := by
    have h1 := Nat.div_add_mod m 2
    have h2 := Nat.div_add_mod (m / 2) b
    rw [← hr] at h2
    rw [Nat.mul_left_comm]
    omega
  generalize hQ : m / 2 / b = Q at *
  unfold divS
  simp only [e1]
  rw [dAt_one]
  by_cases hle : b ≤ 2 * r + m % 2
  · rw [if_pos hle]
    have hdiv : m / b = 2 * Q + 1 ∧ m % b = 2 * r + m % 2 - b := (Nat.div_mod_unique hb).2 ⟨by rw [Nat.mul_add, Nat.mul_one]; omega, by omega⟩
    have e2 : q ||| 1 * 2 ^ (255 - k) = q + 1 * 2 ^ (255 - k) := by
      refine or_free (255 - k) 1 q 1 ?_ (by decide)
      rw [hq, Nat.pow_succ, Nat.mul_comm (2 ^ (255 - k)), ← Nat.mul_assoc, Nat.mul_div_cancel _ (Nat.two_pow_pos _), Nat.pow_one, Nat.mul_mod_left]
    have e3 : (2 * r + m % 2 + M256 - b) % M256 = 2 * r + m % 2 - b := by
      rw [show 2 * r + m % 2 + M256 - b = 2 * r + m % 2 - b + M256 by omega, Nat.add_mod_right, Nat.mod_eq_of_lt (by unfold M256 at *; omega)]
    rw [e2, e3, hdiv.1, hdiv.2, hq, Nat.pow_succ]
    congr 1
    rw [Nat.add_mul, Nat.mul_comm (2 ^ (255 - k)), ← Nat.mul_assoc, Nat.mul_comm Q]
  · rw [if_neg hle]
    have hdiv : m / b = 2 * Q ∧ m % b = 2 * r + m % 2 := (Nat.div_mod_unique hb).2 ⟨by omega, by omega⟩
    rw [hdiv.1, hdiv.2, hq, Nat.pow_succ]
    congr 1
    rw [Nat.mul_comm (2 ^ (255 - k)), ← Nat.mul_assoc, Nat.mul_comm Q]

set_option maxRecDepth 100000 in
theorem divL_range (a b : Nat) (ha : a < M256) (hb : 0 < b) (hbM : b < M256) : ∀ k, k ≤ 256 → divL a b (List.range k) = (a / 2 ^ (256 - k) / b * 2 ^ (256 - k), a / 2 ^ (256 - k) % b)
  | 0, _ => by
    have : a / 2 ^ 256 = 0 := Nat.div_eq_of_lt ha
    simp [divL, this]
  | k + 1, h => by
    have ih := divL_range a b ha hb hbM k (by omega)
    rw [List.range_succ, divL_snoc, ih, show 256 - k = 255 - k + 1 by omega, show 256 - (k + 1) = 255 - k by omega]
    have e : a / 2 ^ (255 - k + 1) = a / 2 ^ (255 - k) / 2 := by rw [Nat.div_div_eq_div_mul, Nat.pow_succ]
    exact divS_step a b k _ _ _ hb hbM ha rfl (by rw [e]) (by rw [e])

set_option maxRecDepth 100000 in
theorem divL_all (a b : Nat) (ha : a < M256) (hb : 0 < b) (hbM : b < M256) : divL a b (List.range 256) = (a / b, a % b) := by
  rw [divL_range a b ha hb hbM 256 (by omega)]
  simp

/-- How many times, and what is left: two noughts, where b is 0. -/
def quoN (a b : Nat) : Nat := a / b
def remN (a b : Nat) : Nat := if b = 0 then 0 else a % b

end Go.Proofs.Ytmojbekihbmdfaa
