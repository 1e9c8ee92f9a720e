/- Plain mathematics of the numbers of rows. -/
import Derived.Test.YthnilfneaefnhaaOcx
namespace Go.Proofs.Ythnilfneaefnhaa

def numN (l : List UInt8) : Nat := l.foldl (fun x c => x * 256 + c.toNat) 0
theorem foldl_numN (l : List UInt8) : ∀ x, l.foldl (fun x c => x * 256 + c.toNat) x = x * 256 ^ l.length + numN l := by
  induction l with
  | nil => intro x; simp [numN]
  | cons c r ih =>
    intro x
    unfold numN
    rw [List.foldl_cons, List.foldl_cons, ih, ih, List.length_cons, Nat.pow_succ, Nat.add_mul, Nat.zero_mul, Nat.zero_add, Nat.mul_assoc, Nat.add_assoc, Nat.mul_comm 256]
theorem numN_append (a b : List UInt8) : numN (a ++ b) = numN a * 256 ^ b.length + numN b := by
  unfold numN
  rw [List.foldl_append, foldl_numN]
  rfl
theorem foldl_num (l : List UInt8) : ∀ x, l.foldl (fun x c => (x * 256 + c.toNat) % 18446744073709551616) (x % 18446744073709551616) = l.foldl (fun x c => x * 256 + c.toNat) x % 18446744073709551616 := by
  induction l with
  | nil => intro x; rfl
  | cons c r ih =>
    intro x
    rw [List.foldl_cons, List.foldl_cons, ← ih, show (x % 18446744073709551616 * 256 + c.toNat) % 18446744073709551616 = (x * 256 + c.toNat) % 18446744073709551616 by omega]
theorem num_eq (l : List UInt8) : num l = numN l % 18446744073709551616 := by
  unfold num numN
  exact foldl_num l 0
theorem num_last8 (l : List UInt8) : num (last8 l) = num l := by
  rw [num_eq, num_eq]
  rcases Nat.lt_or_ge 8 l.length with h | h
  · have e : l = l.take (l.length - 8) ++ last8 l := (List.take_append_drop _ _).symm
    have hl : (last8 l).length = 8 := by simp [last8]; omega
    conv => rhs; rw [e, numN_append, hl]
    have : (256 : Nat) ^ 8 = 18446744073709551616 := by decide
    rw [this]
    omega
  · have : last8 l = l := by unfold last8; rw [show l.length - 8 = 0 by omega]; rfl
    rw [this]
theorem numN_zeros (n : Nat) : numN (List.replicate n 0) = 0 := by
  induction n with
  | zero => rfl
  | succ n ih => rw [List.replicate_succ', numN_append, ih]; simp [numN]
theorem bare_split (l : List UInt8) : ∃ n, l = List.replicate n 0 ++ bare l := by
  induction l with
  | nil => exact ⟨0, rfl⟩
  | cons c r ih =>
    obtain ⟨n, hn⟩ := ih
    by_cases h : c = 0
    · subst h
      refine ⟨n + 1, ?_⟩
      have : bare (0 :: r) = bare r := by simp [bare]
      rw [this, List.replicate_succ, List.cons_append, ← hn]
    · refine ⟨0, ?_⟩
      simp [bare, h]
theorem bare_head (l : List UInt8) (h : 0 < (bare l).length) : (bare l).getD 0 0 ≠ 0 := by
  induction l with
  | nil => simp [bare] at h
  | cons c r ih =>
    by_cases hc : c = 0
    · subst hc
      have e : bare (0 :: r) = bare r := by simp [bare]
      rw [e] at h ⊢
      exact ih h
    · have e : bare (c :: r) = c :: r := by simp [bare, hc]
      rw [e]
      simpa using hc
theorem bare_zeros (n : Nat) (l : List UInt8) : bare (List.replicate n 0 ++ l) = bare l := by
  induction n with
  | zero => rfl
  | succ n ih => rw [List.replicate_succ, List.cons_append, ← ih]; simp [bare]
theorem bare_bare (l : List UInt8) : bare (bare l) = bare l := by
  obtain ⟨n, hn⟩ := bare_split l
  conv => rhs; rw [hn, bare_zeros]
theorem num_bare (l : List UInt8) : num (bare l) = num l := by
  obtain ⟨n, hn⟩ := bare_split l
  conv => rhs; rw [num_eq, hn, numN_append, numN_zeros]
  rw [num_eq]
  simp
theorem num_ahd (l : List UInt8) (n : Nat) : num (ahd l n) = num l := by
  rw [num_eq, num_eq]
  unfold ahd
  rw [numN_append, numN_zeros]
  simp
theorem numN_hi8 (x : Nat) (hx : x < 18446744073709551616) : numN (hi8 x) = x := by
  have e : hi8 x = [UInt8.ofNat (x / 256 ^ 7), UInt8.ofNat (x / 256 ^ 6), UInt8.ofNat (x / 256 ^ 5), UInt8.ofNat (x / 256 ^ 4), UInt8.ofNat (x / 256 ^ 3), UInt8.ofNat (x / 256 ^ 2), UInt8.ofNat (x / 256 ^ 1), UInt8.ofNat (x / 256 ^ 0)] := by
    unfold hi8 hiK
    rfl
  rw [e]
  simp only [numN, List.foldl_cons, List.foldl_nil, UInt8.toNat_ofNat']
  omega
theorem num_put (l : List UInt8) (x : Nat) (hx : x < 18446744073709551616) : num (last8 (l ++ hi8 x)) = x := by
  have hl : (hi8 x).length = 8 := hiK_length x 8
  rw [num_last8, num_eq, numN_append, numN_hi8 x hx, hl]
  have : (256 : Nat) ^ 8 = 18446744073709551616 := by decide
  rw [this]
  omega
theorem zeros_fit (l : List UInt8) (n : Nat) (h : l.length ≤ n) : zeros (fit l n) = zeros l + (n - l.length) := by
  unfold fit
  rw [List.take_of_length_le h]
  simp [zeros, List.countP_append, List.countP_replicate]
end Go.Proofs.Ythnilfneaefnhaa
