/- The law WordMoves: a word moved is its product with a power of two, or how many times that is in it. -/
import Derived.Test.YtepggbhibpjkpaaWrs
import Derived.Test.YtepggbhibpjkpaaInw
import Derived.Deep.DeepCutAuto
namespace Go.Proofs.Ytepggbhibpjkpaa
open Go.ChangeShapes Go.WideShapes Go.ChangeAt Go.RowKit

set_option maxRecDepth 100000 in
theorem shl_one (n : Nat) (hn : n < 256) : shlN 1 n = 2 ^ n := by
  unfold shlN
  rw [if_pos hn, Nat.one_mul, M256_pow, Nat.mod_eq_of_lt (Nat.pow_lt_pow_right (by decide) hn)]
set_option maxRecDepth 100000 in
theorem shl_mul (a n : Nat) : mulN a (shlN 1 n) = shlN a n := by
  by_cases h : n < 256
  · rw [shl_one n h]
    unfold mulN shlN
    rw [if_pos h]
  · unfold mulN shlN
    rw [if_neg h, if_neg h]
    rfl
set_option maxRecDepth 100000 in
theorem shr_div (a n : Nat) (h : n < 256) : shrN a n = quoN a (shlN 1 n) := by
  rw [shl_one n h]
  unfold shrN quoN
  rw [if_pos h]
set_option maxRecDepth 100000 in
theorem shl_far (a n : Nat) (h : ¬ n < 256) : shlN a n = 0 := by unfold shlN; rw [if_neg h]
set_option maxRecDepth 100000 in
theorem shr_far (a n : Nat) (h : ¬ n < 256) : shrN a n = 0 := by unfold shrN; rw [if_neg h]
set_option maxRecDepth 100000 in
theorem shl_shl (a n m : Nat) : shlN (shlN a n) m = shlN a (n + m) := by
  by_cases h : n + m < 256
  · unfold shlN
    rw [if_pos (show m < 256 by omega), if_pos (show n < 256 by omega), if_pos h, Nat.mod_mul_mod, Nat.mul_assoc, ← Nat.pow_add]
  · rw [shl_far a (n + m) h]
    by_cases hm : m < 256
    · by_cases hn : n < 256
      · unfold shlN
        rw [if_pos hm, if_pos hn, Nat.mod_mul_mod, Nat.mul_assoc, ← Nat.pow_add, M256_pow]
        obtain ⟨k, hk⟩ : ∃ k, n + m = 256 + k := ⟨n + m - 256, by omega⟩
        rw [hk, Nat.pow_add, Nat.mul_left_comm]
        exact Nat.mul_mod_right _ _
      · rw [shl_far a n hn]
        unfold shlN
        rw [if_pos hm, Nat.zero_mul]
        rfl
    · exact shl_far _ m hm
set_option maxRecDepth 100000 in
theorem shr_shr (a n m : Nat) (ha : a < M256) : shrN (shrN a n) m = shrN a (n + m) := by
  by_cases h : n + m < 256
  · unfold shrN
    rw [if_pos (show m < 256 by omega), if_pos (show n < 256 by omega), if_pos h, Nat.div_div_eq_div_mul, ← Nat.pow_add]
  · rw [shr_far a (n + m) h]
    by_cases hm : m < 256
    · by_cases hn : n < 256
      · unfold shrN
        rw [if_pos hm, if_pos hn, Nat.div_div_eq_div_mul, ← Nat.pow_add]
        exact Nat.div_eq_of_lt (Nat.lt_of_lt_of_le ha (by rw [M256_pow]; exact Nat.pow_le_pow_right (by decide) (by omega)))
      · rw [shr_far a n hn]
        unfold shrN
        rw [if_pos hm, Nat.zero_div]
    · exact shr_far _ m hm

set_option maxRecDepth 100000 in
/-- One more word. -/
theorem Ks.one {w : World} {l : List (Nat × Nat)} {W : World} {g n : Nat} (h : Ks w l W) (k : Wd W g 29 n) : Ks w ((g, n) :: l) W :=
  ⟨fun x hx => by
    rcases List.mem_cons.1 hx with rfl | hx
    · exact k
    · exact h.1 x hx, h.2⟩

end Go.Proofs.Ytepggbhibpjkpaa
