/- The document's Sum: mathematics. -/
import Derived.Test.YthjmjccggkejhaaDoorSrh
import Derived.Test.YthjmjccggkejhaaDoorSre
import Derived.Test.YthjmjccggkejhaaDoorSph
namespace Go.Proofs.YthjmjccggkejhaaDoor
open Go.RowKit Go.Shelf

/-! ### Bytes, the lowest first -/
/-- n bytes from q on as a number, the lowest first. -/
def leS (b : List UInt8) (q : Nat) : Nat → Nat
  | 0 => 0
  | n + 1 => leS b q n + (b.getD (q + n) 0).toNat * 2 ^ (8 * n)
theorem leS_lt (b : List UInt8) (q n : Nat) : leS b q n < 2 ^ (8 * n) := by
  induction n with
  | zero => show 0 < _; exact Nat.pow_pos (by decide)
  | succ n ih =>
    have h := (b.getD (q + n) 0).toNat_lt
    have h2 : (b.getD (q + n) 0).toNat * 2 ^ (8 * n) ≤ 255 * 2 ^ (8 * n) := Nat.mul_le_mul_right _ (by omega)
    have h3 : 2 ^ (8 * (n + 1)) = 256 * 2 ^ (8 * n) := by rw [show 8 * (n + 1) = 8 + 8 * n by omega, Nat.pow_add]
    show leS b q n + _ < _
    omega
theorem leS_head (b : List UInt8) (q n : Nat) : leS b q (n + 1) = (b.getD q 0).toNat + 256 * leS b (q + 1) n := by
  induction n with
  | zero => show 0 + _ * 2 ^ 0 = _ + 256 * 0; simp
  | succ n ih =>
    show leS b q (n + 1) + (b.getD (q + (n + 1)) 0).toNat * 2 ^ (8 * (n + 1)) = _ + 256 * (leS b (q + 1) n + (b.getD (q + 1 + n) 0).toNat * 2 ^ (8 * n))
    rw [ih, show q + (n + 1) = q + 1 + n by omega, show 8 * (n + 1) = 8 + 8 * n by omega, Nat.pow_add, Nat.mul_add, Nat.mul_left_comm, show (2 : Nat) ^ 8 = 256 by decide]
    omega
theorem leS_congr (a b : List UInt8) (p q n : Nat) (h : ∀ k, k < n → a.getD (p + k) 0 = b.getD (q + k) 0) : leS a p n = leS b q n := by
  induction n with
  | zero => rfl
  | succ n ih =>
    show leS a p n + _ = leS b q n + _
    rw [ih (fun k hk => h k (by omega)), h n (by omega)]
theorem xor_add (lo c k : Nat) (h : lo < 2 ^ k) : lo ^^^ (c * 2 ^ k) = lo + c * 2 ^ k := by
  apply Nat.eq_of_testBit_eq
  intro j
  rw [Nat.testBit_xor, Nat.mul_comm c, Nat.add_comm lo, Nat.testBit_two_pow_mul_add c h j, Nat.testBit_two_pow_mul]
  by_cases hj : j < k
  · simp [hj, show ¬ k ≤ j by omega]
  · rw [if_neg hj, Nat.testBit_lt_two_pow (Nat.lt_of_lt_of_le h (Nat.pow_le_pow_right (by decide) (by omega)))]
    simp [show k ≤ j by omega]
theorem wi_at (f : Nat → Nat) (b : List UInt8) (k i : Nat) : wiF f b k i = if i < k / 8 then f i ^^^ leS b (8 * i) 8 else if i = k / 8 then f i ^^^ leS b (8 * i) (k % 8) else f i := by
  induction k with
  | zero =>
    show f i = _
    rw [if_neg (by omega)]
    by_cases h : i = 0 / 8
    · rw [if_pos h]; show f i = f i ^^^ 0; rw [Nat.xor_zero]
    · rw [if_neg h]
  | succ k ih =>
    show (if i = k / 8 then wiF f b k (k / 8) ^^^ (b.getD k 0).toNat * 2 ^ (8 * (k % 8)) else wiF f b k i) = _
    by_cases h : i = k / 8
    · subst h
      rw [if_pos rfl, ih, if_neg (by omega), if_pos rfl, Nat.xor_assoc, xor_add _ _ _ (leS_lt b _ _)]
      have e : leS b (8 * (k / 8)) (k % 8) + (b.getD k 0).toNat * 2 ^ (8 * (k % 8)) = leS b (8 * (k / 8)) (k % 8 + 1) := by
        show _ = leS b (8 * (k / 8)) (k % 8) + (b.getD (8 * (k / 8) + k % 8) 0).toNat * 2 ^ (8 * (k % 8))
        rw [Nat.div_add_mod]
      rw [e]
      by_cases h8 : k % 8 = 7
      · rw [if_pos (by omega), h8]
      · rw [if_neg (by omega), if_pos (by omega), show (k + 1) % 8 = k % 8 + 1 by omega]
    · rw [if_neg h, ih]
      by_cases h1 : i < k / 8
      · rw [if_pos h1, if_pos (by omega)]
      · rw [if_neg h1, if_neg h]
        by_cases h2 : i < (k + 1) / 8
        · omega
        · rw [if_neg h2]
          by_cases h3 : i = (k + 1) / 8
          · rw [if_pos h3, show (k + 1) % 8 = 0 by omega]
            show f i = f i ^^^ 0
            rw [Nat.xor_zero]
          · rw [if_neg h3]
/-- Lanes into the first j of which a block was laid. -/
def laF (f : Nat → Nat) (P : List UInt8) (j : Nat) : Nat → Nat := fun i => if i < j then f i ^^^ leS P (8 * i) 8 else f i
theorem laF_step (f : Nat → Nat) (P : List UInt8) (j : Nat) : (fun i => if i = j then f j ^^^ leS P (8 * j) 8 else laF f P j i) = laF f P (j + 1) := by
  funext i
  unfold laF
  by_cases h : i = j
  · subst h
    rw [if_pos rfl, if_pos (by omega)]
  · rw [if_neg h]
    by_cases h2 : i < j
    · rw [if_pos h2, if_pos (by omega)]
    · rw [if_neg h2, if_neg (by omega)]
theorem laF_lt (f : Nat → Nat) (P : List UInt8) (hf : Lok f) (j : Nat) : Lok (laF f P j) := by
  intro i hi
  unfold laF
  split
  · exact xor_lt64 _ _ (hf i hi) (leS_lt P (8 * i) 8)
  · exact hf i hi
theorem laF_blk (f : Nat → Nat) (P : List UInt8) (hP : 136 ≤ P.length) : laF f P 17 = wiF f (P.take 136) (P.take 136).length := by
  have hl : (P.take 136).length = 136 := by rw [List.length_take]; omega
  funext i
  rw [hl, wi_at]
  unfold laF
  by_cases h : i < 17
  · rw [if_pos h, if_pos (by omega), leS_congr P (P.take 136) (8 * i) (8 * i) 8 (fun k hk => (getD_take P 136 (8 * i + k) (by omega)).symm)]
  · rw [if_neg h, if_neg (by omega)]
    by_cases h2 : i = 136 / 8
    · rw [if_pos h2]
      show f i = f i ^^^ 0
      rw [Nat.xor_zero]
    · rw [if_neg h2]
theorem sk_next (P : List UInt8) (i : Nat) (h : 136 * i + 136 ≤ P.length) : prmF (laF (sk P i) (P.drop (136 * i)) 17) 24 = sk P (i + 1) := by
  rw [laF_blk _ _ (by rw [List.length_drop]; omega)]
  rfl
end Go.Proofs.YthjmjccggkejhaaDoor
