/- Div is the division of numbers. -/
import Derived.Test.YtgmmkoahnednfaaWrg
namespace Go.Proofs.Ytgmmkoahnednfaa
open Go.RowKit Go.Shelf

set_option maxRecDepth 100000 in
theorem dAt_one (k : Nat) : dAt 1 k = 255 - k := by unfold dAt; omega

set_option maxRecDepth 100000 in
theorem divS_step (a b k q r m : Nat) (hb : 0 < b) (hbM : b < M256) (ha : a < M256) (hm : m = a / 2 ^ (255 - k)) (hq : q = m / 2 / b * 2 ^ (255 - k + 1)) (hr : r = m / 2 % b) :
    divS a b (q, r) k = (m / b * 2 ^ (255 - k), m % b) := by
  have hbit : dBits a 1 k = m % 2 := by unfold dBits; rw [dAt_one, ← hm]
  have hml : m ≤ a := by rw [hm]; exact Nat.div_le_self _ _
  have hrb : r < b := by rw [hr]; exact Nat.mod_lt _ hb
  have hrm : r ≤ m / 2 := by rw [hr]; exact Nat.mod_le _ _
  have e1 : (r + r) % M256 ||| dBits a 1 k * 2 ^ 0 = 2 * r + m % 2 := by
    rw [hbit, Nat.pow_zero, Nat.mul_one, Nat.mod_eq_of_lt (by unfold M256 at *; omega), ← Nat.two_mul]
    exact (Nat.two_pow_add_eq_or_of_lt (i := 1) (b := m % 2) (by omega) r).symm
  have hdm : m = b * (2 * (m / 2 / b)) + (2 * r + m % 2) := by
    have h1 := Nat.div_add_mod m 2
    have h2 := Nat.div_add_mod (m / 2) b
    rw [← hr] at h2
    rw [Nat.mul_left_comm]
    omega
  generalize hQ : m / 2 / b = Q at *
  unfold divS
  simp only [e1]
  rw [dAt_one]
  by_cases hle : b ≤ 2 * r + m % 2
  · rw [if_pos hle]
    have hdiv : m / b = 2 * Q + 1 ∧ m % b = 2 * r + m % 2 - b := (Nat.div_mod_unique hb).2 ⟨by rw [Nat.mul_add, Nat.mul_one]; omega, by omega⟩
    have e2 : q ||| 1 * 2 ^ (255 - k) = q + 1 * 2 ^ (255 - k) := by
      refine or_free (255 - k) 1 q 1 ?_ (by decide)
      rw [hq, Nat.pow_succ, Nat.mul_comm (2 ^ (255 - k)), ← Nat.mul_assoc, Nat.mul_div_cancel _ (Nat.two_pow_pos _), Nat.pow_one, Nat.mul_mod_left]
    have e3 : (2 * r + m % 2 + M256 - b) % M256 = 2 * r + m % 2 - b := by
      rw [show 2 * r + m % 2 + M256 - b = 2 * r + m % 2 - b + M256 by omega, Nat.add_mod_right, Nat.mod_eq_of_lt (by unfold M256 at *; omega)]
    rw [e2, e3, hdiv.1, hdiv.2, hq, Nat.pow_succ]
    congr 1
    rw [Nat.add_mul, Nat.mul_comm (2 ^ (255 - k)), ← Nat.mul_assoc, Nat.mul_comm Q]
  · rw [if_neg hle]
    have hdiv : m / b = 2 * Q ∧ m % b = 2 * r + m % 2 := (Nat.div_mod_unique hb).2 ⟨by omega, by omega⟩
    rw [hdiv.1, hdiv.2, hq, Nat.pow_succ]
    congr 1
    rw [Nat.mul_comm (2 ^ (255 - k)), ← Nat.mul_assoc, Nat.mul_comm Q]

set_option maxRecDepth 100000 in
theorem divL_range (a b : Nat) (ha : a < M256) (hb : 0 < b) (hbM : b < M256) : ∀ k, k ≤ 256 → divL a b (List.range k) = (a / 2 ^ (256 - k) / b * 2 ^ (256 - k), a / 2 ^ (256 - k) % b)
  | 0, _ => by
    have : a / 2 ^ 256 = 0 := Nat.div_eq_of_lt ha
    simp [divL, this]
  | k + 1, h => by
    have ih := divL_range a b ha hb hbM k (by omega)
    rw [List.range_succ, divL_snoc, ih, show 256 - k = 255 - k + 1 by omega, show 256 - (k + 1) = 255 - k by omega]
    have e : a / 2 ^ (255 - k + 1) = a / 2 ^ (255 - k) / 2 := by rw [Nat.div_div_eq_div_mul, Nat.pow_succ]
    exact divS_step a b k _ _ _ hb hbM ha rfl (by rw [e]) (by rw [e])

set_option maxRecDepth 100000 in
theorem divL_all (a b : Nat) (ha : a < M256) (hb : 0 < b) (hbM : b < M256) : divL a b (List.range 256) = (a / b, a % b) := by
  rw [divL_range a b ha hb hbM 256 (by omega)]
  simp

/-- How many times, and what is left: two noughts, where b is 0. -/
def quoN (a b : Nat) : Nat := a / b
def remN (a b : Nat) : Nat := if b = 0 then 0 else a % b

set_option maxRecDepth 100000 in
set_option maxHeartbeats 1000000 in
theorem div_zero (a : Nat) (w : World) :
    Calls Try.prog 24 #[wv a, wv 0] w fun e w' => e = .returned (.tuple #[wv 0, wv 0]) ∧ Ext w w' := by
  unfold wv
  go_enter Try.func24, Try.ntmps24
  go_wp2_with (first
    | ((with_reducible refine wpList_load_word rfl 27 25 (.tmp 3) rfl Try.underlying27 winfo (w.heap.size + 1) 0 ?_ ?_ ?_); (exact rfl); (exact ((((Cs.new _ _ _ _ (by simp)).alloc _).alloc _).alloc _).alloc _))
    | ((with_reducible refine wpList_load_word rfl 27 25 (.tmp 6) rfl Try.underlying27 winfo (w.heap.size + 1 + 1 + 1 + 1) 0 ?_ ?_ ?_); (exact rfl); (exact (Cs.new _ _ _ _ (by simp)).alloc _))
    | ((with_reducible refine wpList_eql_word rfl (.tmp 12) (.tmp 13) rfl 0 0 (by decide) (by decide) ?_ ?_ ?_); (exact rfl); (exact rfl); rw [show ((0 : Nat) == 0) = true from rfl]))
  simp only [Act.put, List.setIfInBounds_toArray, List.set_cons_succ, List.set_cons_zero]
  have h2 : Cs ((((((w.alloc (.cells (wc a) 27)).alloc (.cells (wc 0) 27)).alloc (.cells #[.int .u64 0, .int .u64 0, .int .u64 0, .int .u64 0] 27)).alloc (.cells #[.int .u64 0, .int .u64 0, .int .u64 0, .int .u64 0] 27)).alloc (.cells #[.int .u64 0, .int .u64 0, .int .u64 0, .int .u64 0] 27)).alloc (.cells #[.int .u64 0, .int .u64 0, .int .u64 0, .int .u64 0] 27)) (w.heap.size + 1 + 1) 27 (wc 0) := (((Cs.new _ _ _ _ (by simp)).alloc _).alloc _).alloc _
  have h3 : Cs ((((((w.alloc (.cells (wc a) 27)).alloc (.cells (wc 0) 27)).alloc (.cells #[.int .u64 0, .int .u64 0, .int .u64 0, .int .u64 0] 27)).alloc (.cells #[.int .u64 0, .int .u64 0, .int .u64 0, .int .u64 0] 27)).alloc (.cells #[.int .u64 0, .int .u64 0, .int .u64 0, .int .u64 0] 27)).alloc (.cells #[.int .u64 0, .int .u64 0, .int .u64 0, .int .u64 0] 27)) (w.heap.size + 1 + 1 + 1) 27 (wc 0) := ((Cs.new _ _ _ _ (by simp)).alloc _).alloc _
  have h4 : Cs ((((((w.alloc (.cells (wc a) 27)).alloc (.cells (wc 0) 27)).alloc (.cells #[.int .u64 0, .int .u64 0, .int .u64 0, .int .u64 0] 27)).alloc (.cells #[.int .u64 0, .int .u64 0, .int .u64 0, .int .u64 0] 27)).alloc (.cells #[.int .u64 0, .int .u64 0, .int .u64 0, .int .u64 0] 27)).alloc (.cells #[.int .u64 0, .int .u64 0, .int .u64 0, .int .u64 0] 27)) (w.heap.size + 1 + 1 + 1 + 1) 27 (wc 0) := (Cs.new _ _ _ _ (by simp)).alloc _
  have h5 : Cs ((((((w.alloc (.cells (wc a) 27)).alloc (.cells (wc 0) 27)).alloc (.cells #[.int .u64 0, .int .u64 0, .int .u64 0, .int .u64 0] 27)).alloc (.cells #[.int .u64 0, .int .u64 0, .int .u64 0, .int .u64 0] 27)).alloc (.cells #[.int .u64 0, .int .u64 0, .int .u64 0, .int .u64 0] 27)).alloc (.cells #[.int .u64 0, .int .u64 0, .int .u64 0, .int .u64 0] 27)) (w.heap.size + 1 + 1 + 1 + 1 + 1) 27 (wc 0) := Cs.new _ _ _ _ (by simp)
  have HX : Hid (Ext w ((((((w.alloc (.cells (wc a) 27)).alloc (.cells (wc 0) 27)).alloc (.cells #[.int .u64 0, .int .u64 0, .int .u64 0, .int .u64 0] 27)).alloc (.cells #[.int .u64 0, .int .u64 0, .int .u64 0, .int .u64 0] 27)).alloc (.cells #[.int .u64 0, .int .u64 0, .int .u64 0, .int .u64 0] 27)).alloc (.cells #[.int .u64 0, .int .u64 0, .int .u64 0, .int .u64 0] 27))) := ((((((Ext.refl w).alloc _).alloc _).alloc _).alloc _).alloc _).alloc _
  generalize ((((((w.alloc (.cells (wc a) 27)).alloc (.cells (wc 0) 27)).alloc (.cells #[.int .u64 0, .int .u64 0, .int .u64 0, .int .u64 0] 27)).alloc (.cells #[.int .u64 0, .int .u64 0, .int .u64 0, .int .u64 0] 27)).alloc (.cells #[.int .u64 0, .int .u64 0, .int .u64 0, .int .u64 0] 27)).alloc (.cells #[.int .u64 0, .int .u64 0, .int .u64 0, .int .u64 0] 27)) = W at *
  have HK2 := Lib.hid h2
  have HK3 := Lib.hid h3
  obtain ⟨p0, p1, p2, p3⟩ := h2.four
  obtain ⟨q0, q1, q2, q3⟩ := h3.four
  obtain ⟨r0, r1, r2, r3⟩ := h4.four
  obtain ⟨s0, s1, s2, s3⟩ := h5.four
  have f0 := h2.frozen 0
  have f1 := h2.frozen 1
  have f2 := h2.frozen 2
  have f3 := h2.frozen 3
  have g0 := h3.frozen 0
  have g1 := h3.frozen 1
  have g2 := h3.frozen 2
  have g3 := h3.frozen 3
  clear h2 h3 h4 h5
  go_region
  go_wp2
  obtain ⟨y1, y2, y3, y4⟩ := two_laid HK2.out HK3.out (by omega) 0 0 _ rfl
  exact bodyPost_ret (results_word_word Try.results24 _ _ (w.heap.size + 1 + 1) 0 (w.heap.size + 1 + 1 + 1) 0 rfl y1 rfl y2 Try.underlying27 winfo) rfl ⟨rfl, y4 w HX.out (by omega) (by omega)⟩

set_option maxRecDepth 100000 in
theorem div_any (a b : Nat) (w : World) (ha : a < M256) (hb : b < M256) :
    Calls Try.prog 24 #[wv a, wv b] w fun e w' => e = .returned (.tuple #[wv (quoN a b), wv (remN a b)]) ∧ Ext w w' := by
  by_cases h0 : b = 0
  · subst h0
    refine (div_zero a w).mono fun e w' h => ?_
    simpa [quoN, remN] using h
  · refine (div_some a b w hb (by simpa using h0)).mono fun e w' h => ?_
    rw [divL_all a b ha (by omega) hb] at h
    simpa [quoN, remN, h0] using h
end Go.Proofs.Ytgmmkoahnednfaa
