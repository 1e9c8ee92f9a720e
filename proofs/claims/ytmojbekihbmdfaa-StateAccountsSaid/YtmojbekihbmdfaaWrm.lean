/- Contracts of package word: products. -/
import Derived.Test.YtmojbekihbmdfaaWre
import Derived.Lib.Mul64
import Derived.Laws.Bits64b
namespace Go.Proofs.Ytmojbekihbmdfaa
open Go.RowKit

namespace Mu
set_option maxRecDepth 100000 in
theorem maskN (a : Nat) (ha : a < 18446744073709551616) : bits .and .u64 (a : Int) 4294967295 = ((a % 4294967296 : Nat) : Int) := by
  have h := u64_and_nat a 4294967295 ha (by omega)
  have e : a &&& 4294967295 = a % 4294967296 := Nat.and_two_pow_sub_one_eq_mod a 32
  rw [e] at h
  exact h
set_option maxRecDepth 100000 in
theorem divN (a : Nat) : (a : Int) / 4294967296 = ((a / 4294967296 : Nat) : Int) := by omega
set_option maxRecDepth 100000 in
theorem mulN (a b : Nat) : (a : Int) * (b : Int) = ((a * b : Nat) : Int) := (Int.natCast_mul a b).symm
set_option maxRecDepth 100000 in
theorem addN (a b : Nat) : (a : Int) + (b : Int) = ((a + b : Nat) : Int) := (Int.natCast_add a b).symm
set_option maxRecDepth 100000 in
theorem wrapN (a : Nat) (ha : a < 18446744073709551616) : IntKind.u64.wrap (a : Int) = (a : Int) := by rw [IntKind.wrap_u64]; omega
set_option maxRecDepth 100000 in
theorem wrapM (a : Nat) : IntKind.u64.wrap (a : Int) = ((a % 18446744073709551616 : Nat) : Int) := by rw [IntKind.wrap_u64]; omega
end Mu

/-- x times y, c and d added: the lower and the upper limb. -/
def maLo (x y c d : Nat) : Nat := (x * y + c + d) % 18446744073709551616
def maHi (x y c d : Nat) : Nat := (x * y + c + d) / 18446744073709551616

set_option maxRecDepth 100000 in
theorem mul_le64 (x y : Nat) (hx : x < 18446744073709551616) (hy : y < 18446744073709551616) : x * y ≤ 340282366920938463426481119284349108225 := by
  have h := Nat.mul_le_mul (Nat.le_pred_of_lt hx) (Nat.le_pred_of_lt hy)
  exact h

set_option maxRecDepth 100000 in
theorem ret_pair {k : IntKind} {a b a' b' : Int} (h1 : a = a') (h2 : b = b') : Ending.returned (.tuple #[.int k a, .int k b]) = .returned (.tuple #[.int k a', .int k b']) := by rw [h1, h2]

set_option maxRecDepth 100000 in
theorem lb_mod (n i : Nat) : lb n i = n % 18446744073709551616 ^ (i + 1) / 18446744073709551616 ^ i := by
  unfold lb
  rw [Nat.pow_succ, Nat.mod_mul_right_div_self]

/-- The number n, its limb at k another one. -/
def setD (n k z : Nat) : Nat := n % 18446744073709551616 ^ k + z * 18446744073709551616 ^ k + n / 18446744073709551616 ^ (k + 1) * 18446744073709551616 ^ (k + 1)

set_option maxRecDepth 100000 in
theorem setD_eq (n k z : Nat) : setD n k z + lb n k * 18446744073709551616 ^ k = n + z * 18446744073709551616 ^ k := by
  unfold setD lb
  have h1 := Nat.div_add_mod n (18446744073709551616 ^ k)
  have h2 := Nat.div_add_mod (n / 18446744073709551616 ^ k) 18446744073709551616
  rw [Nat.div_div_eq_div_mul, ← Nat.pow_succ] at h2
  have h3 : n / 18446744073709551616 ^ (k + 1) * 18446744073709551616 ^ (k + 1) + n / 18446744073709551616 ^ k % 18446744073709551616 * 18446744073709551616 ^ k = n / 18446744073709551616 ^ k * 18446744073709551616 ^ k := by
    have e : n / 18446744073709551616 ^ (k + 1) * 18446744073709551616 ^ (k + 1) = 18446744073709551616 * (n / 18446744073709551616 ^ (k + 1)) * 18446744073709551616 ^ k := by
      generalize n / 18446744073709551616 ^ (k + 1) = m
      rw [Nat.pow_succ, Nat.mul_comm (18446744073709551616 ^ k), ← Nat.mul_assoc, Nat.mul_comm m]
    rw [e, ← Nat.add_mul, h2]
  rw [Nat.mul_comm] at h1
  omega

set_option maxRecDepth 100000 in
theorem setD_lb (n k z i : Nat) (hz : z < 18446744073709551616) : lb (setD n k z) i = if i = k then z else lb n i := by
  have hB : ∀ j, 0 < 18446744073709551616 ^ j := fun j => Nat.pow_pos (by decide)
  have hlow : n % 18446744073709551616 ^ k + z * 18446744073709551616 ^ k < 18446744073709551616 ^ (k + 1) := by
    have h1 := Nat.mod_lt n (hB k)
    have h2 : (z + 1) * 18446744073709551616 ^ k ≤ 18446744073709551616 * 18446744073709551616 ^ k := Nat.mul_le_mul_right _ hz
    rw [Nat.pow_succ, Nat.mul_comm (18446744073709551616 ^ k)]
    rw [Nat.add_mul, Nat.one_mul] at h2
    omega
  by_cases hik : i = k
  · subst hik
    rw [if_pos rfl, lb_mod]
    unfold setD
    rw [Nat.add_mul_mod_self_right, Nat.mod_eq_of_lt hlow, Nat.add_mul_div_right _ _ (hB i), Nat.div_eq_of_lt (Nat.mod_lt _ (hB i)), Nat.zero_add]
  · rw [if_neg hik]
    by_cases hlt : i < k
    · rw [lb_mod, lb_mod]
      congr 1
      unfold setD
      obtain ⟨d, rfl⟩ : ∃ d, k = i + 1 + d := ⟨k - (i + 1), by omega⟩
      have e1 : z * 18446744073709551616 ^ (i + 1 + d) = z * 18446744073709551616 ^ d * 18446744073709551616 ^ (i + 1) := by rw [Nat.pow_add, Nat.mul_comm (18446744073709551616 ^ (i + 1)), Nat.mul_assoc]
      have e2 : n / 18446744073709551616 ^ (i + 1 + d + 1) * 18446744073709551616 ^ (i + 1 + d + 1) = n / 18446744073709551616 ^ (i + 1 + d + 1) * 18446744073709551616 ^ (d + 1) * 18446744073709551616 ^ (i + 1) := by
        rw [show i + 1 + d + 1 = d + 1 + (i + 1) by omega, Nat.pow_add, Nat.mul_assoc]
      rw [e1, e2, Nat.add_mul_mod_self_right, Nat.add_mul_mod_self_right]
      exact Nat.mod_mod_of_dvd _ (Nat.pow_dvd_pow _ (by omega))
    · have hgt : k + 1 ≤ i := by omega
      obtain ⟨d, rfl⟩ : ∃ d, i = k + 1 + d := ⟨i - (k + 1), by omega⟩
      unfold lb
      congr 1
      rw [Nat.pow_add, ← Nat.div_div_eq_div_mul, ← Nat.div_div_eq_div_mul]
      congr 1
      unfold setD
      rw [Nat.add_mul_div_right _ _ (hB (k + 1)), Nat.div_eq_of_lt hlow, Nat.zero_add]

/-- The eight cells of a product. -/
def pc (n : Nat) : Array Value := ((List.range 8).map fun i => lv (lb n i)).toArray
set_option maxRecDepth 100000 in
theorem pc_size (n : Nat) : (pc n).size = 8 := rfl
set_option maxRecDepth 100000 in
theorem pc_get (n i : Nat) (h : i < 8) : (pc n)[i]? = some (lv (lb n i)) := by
  unfold pc
  simp [h]
set_option maxRecDepth 100000 in
theorem pc_set (n k z : Nat) (hz : z < 18446744073709551616) : (pc n).setIfInBounds k (lv z) = pc (setD n k z) := by
  apply Array.toList_inj.1
  rw [Array.toList_setIfInBounds]
  show ((List.range 8).map fun i => lv (lb n i)).set k (lv z) = (List.range 8).map fun i => lv (lb (setD n k z) i)
  apply List.ext_getElem (by simp)
  intro i h1 h2
  rw [List.getElem_set]
  simp only [List.getElem_map, List.getElem_range, setD_lb n k z i hz]
  by_cases h : k = i
  · subst h
    simp
  · rw [if_neg h, if_neg (fun e => h e.symm)]
set_option maxRecDepth 100000 in
theorem pc_zero : pc 0 = #[.int .u64 0, .int .u64 0, .int .u64 0, .int .u64 0, .int .u64 0, .int .u64 0, .int .u64 0, .int .u64 0] := rfl


set_option maxRecDepth 100000 in
theorem lb_top (b j : Nat) : b % 18446744073709551616 ^ (j + 1) = b % 18446744073709551616 ^ j + lb b j * 18446744073709551616 ^ j := by
  unfold lb
  have h := Nat.mod_mul (x := b) (a := 18446744073709551616 ^ j) (b := 18446744073709551616)
  rw [Nat.pow_succ, h, Nat.mul_comm (18446744073709551616 ^ j)]

set_option maxRecDepth 100000 in
/-- One step of the inner loop. -/
theorem mul_step (P c x y A b i j : Nat) (_hi : i < 4) (hj : j < 4) (hy : y = lb b j) (hP : P < 18446744073709551616 ^ (i + 4)) (h : P + c * 18446744073709551616 ^ (i + j) = A * b + x * (b % 18446744073709551616 ^ j) * 18446744073709551616 ^ i) :
    setD P (i + j) (maLo x y (lb P (i + j)) c) + maHi x y (lb P (i + j)) c * 18446744073709551616 ^ (i + (j + 1)) = A * b + x * (b % 18446744073709551616 ^ (j + 1)) * 18446744073709551616 ^ i ∧ setD P (i + j) (maLo x y (lb P (i + j)) c) < 18446744073709551616 ^ (i + 4) := by
  have h1 := setD_eq P (i + j) (maLo x y (lb P (i + j)) c)
  have h2 : maLo x y (lb P (i + j)) c + 18446744073709551616 * maHi x y (lb P (i + j)) c = x * y + lb P (i + j) + c := Nat.mod_add_div _ _
  have hlo : maLo x y (lb P (i + j)) c < 18446744073709551616 := Nat.mod_lt _ (by decide)
  have e1 : maHi x y (lb P (i + j)) c * 18446744073709551616 ^ (i + (j + 1)) = 18446744073709551616 * maHi x y (lb P (i + j)) c * 18446744073709551616 ^ (i + j) := by
    rw [show i + (j + 1) = i + j + 1 by omega, Nat.pow_succ, Nat.mul_comm (18446744073709551616 ^ (i + j)), ← Nat.mul_assoc, Nat.mul_comm (maHi _ _ _ _)]
  have e2 : x * (b % 18446744073709551616 ^ (j + 1)) * 18446744073709551616 ^ i = x * (b % 18446744073709551616 ^ j) * 18446744073709551616 ^ i + x * y * 18446744073709551616 ^ (i + j) := by
    rw [lb_top, ← hy, Nat.mul_add, Nat.add_mul, Nat.pow_add, Nat.mul_comm (18446744073709551616 ^ i), Nat.mul_assoc x y, Nat.mul_assoc x (y * _), Nat.mul_assoc y]
  have h3 := congrArg (· * 18446744073709551616 ^ (i + j)) h2
  simp only [Nat.add_mul] at h3
  refine ⟨by rw [e1, e2]; omega, ?_⟩
  unfold setD
  have hq : P / 18446744073709551616 ^ (i + j + 1) < 18446744073709551616 ^ (3 - j) := by
    rw [Nat.div_lt_iff_lt_mul (Nat.pow_pos (by decide)), ← Nat.pow_add, show 3 - j + (i + j + 1) = i + 4 by omega]
    exact hP
  have hm := Nat.mod_lt P (show 0 < 18446744073709551616 ^ (i + j) from Nat.pow_pos (by decide))
  have h4 : (maLo x y (lb P (i + j)) c + 1) * 18446744073709551616 ^ (i + j) ≤ 18446744073709551616 * 18446744073709551616 ^ (i + j) := Nat.mul_le_mul_right _ hlo
  have h5 : (P / 18446744073709551616 ^ (i + j + 1) + 1) * 18446744073709551616 ^ (i + j + 1) ≤ 18446744073709551616 ^ (3 - j) * 18446744073709551616 ^ (i + j + 1) := Nat.mul_le_mul_right _ hq
  rw [← Nat.pow_add, show 3 - j + (i + j + 1) = i + 4 by omega, Nat.add_mul, Nat.one_mul] at h5
  rw [Nat.add_mul, Nat.one_mul] at h4
  have e3 : 18446744073709551616 ^ (i + j + 1) = 18446744073709551616 * 18446744073709551616 ^ (i + j) := by rw [Nat.pow_succ, Nat.mul_comm]
  omega

set_option maxRecDepth 100000 in
/-- The end of a round of the outer loop. -/
theorem mul_end (P c x A a b i : Nat) (hA : A = a % 18446744073709551616 ^ i) (hx : x = lb a i) (hP : P < 18446744073709551616 ^ (i + 4)) (hb : b < 18446744073709551616 ^ 4) (h : P + c * 18446744073709551616 ^ (i + 4) = A * b + x * (b % 18446744073709551616 ^ 4) * 18446744073709551616 ^ i) :
    setD P (i + 4) c = a % 18446744073709551616 ^ (i + 1) * b := by
  have h1 := setD_eq P (i + 4) c
  have h0 : lb P (i + 4) = 0 := by
    unfold lb
    rw [Nat.div_eq_of_lt hP]
  rw [h0, Nat.zero_mul, Nat.add_zero, h, Nat.mod_eq_of_lt hb] at h1
  rw [h1, lb_top, ← hx, ← hA, Nat.add_mul]
  congr 1
  rw [Nat.mul_assoc, Nat.mul_assoc, Nat.mul_comm b]

end Go.Proofs.Ytmojbekihbmdfaa
