/- Contracts of package word: moves (limbAt, move, Shl, Shr). -/
import Derived.Test.YtjefbfabigkeiaaDoorWrl
namespace Go.Proofs.YtjefbfabigkeiaaDoor
open Go.RowKit

/-! ### Mathematics of moves -/
/-- The limb at the place j, nought where there is none. -/
def la (a : Nat) (j : Int) : Nat := if 0 ≤ j ∧ j < 4 then lb a j.toNat else 0
set_option maxRecDepth 100000 in
theorem la_lt (a : Nat) (j : Int) : la a j < 18446744073709551616 := by
  unfold la
  split
  · exact lb_lt _ _
  · decide
/-- A word moved up, and down. -/
def shlN (a n : Nat) : Nat := if n < 256 then a * 2 ^ n % M256 else 0
def shrN (a n : Nat) : Nat := if n < 256 then a / 2 ^ n else 0
set_option maxRecDepth 100000 in
theorem shlN_lt (a n : Nat) : shlN a n < M256 := by
  unfold shlN
  split
  · exact Nat.mod_lt _ (by decide)
  · decide
set_option maxRecDepth 100000 in
theorem shrN_lt (a n : Nat) (ha : a < M256) : shrN a n < M256 := by
  unfold shrN
  split
  · exact Nat.lt_of_le_of_lt (Nat.div_le_self _ _) ha
  · decide

set_option maxRecDepth 100000 in
theorem tb_lb (n i k : Nat) : (lb n i).testBit k = (decide (k < 64) && n.testBit (64 * i + k)) := by
  unfold lb
  rw [show (18446744073709551616 : Nat) = 2 ^ 64 from rfl, ← Nat.pow_mul, Nat.testBit_mod_two_pow, Nat.testBit_div_two_pow]
  congr 2
  omega
set_option maxRecDepth 100000 in
theorem tb_big (a k : Nat) (ha : a < M256) (hk : 256 ≤ k) : a.testBit k = false :=
  Nat.testBit_lt_two_pow (Nat.lt_of_lt_of_le ha (by rw [M256_pow]; exact Nat.pow_le_pow_right (by decide) hk))
set_option maxRecDepth 100000 in
theorem tb_la (a : Nat) (j : Int) (k : Nat) (ha : a < M256) : (la a j).testBit k = (decide (k < 64) && decide (0 ≤ j) && a.testBit (64 * j.toNat + k)) := by
  unfold la
  by_cases h : 0 ≤ j ∧ j < 4
  · rw [if_pos h, tb_lb]
    simp [h.1]
  · rw [if_neg h]
    by_cases h0 : 0 ≤ j
    · rw [tb_big a _ ha (by omega)]
      simp
    · simp [h0]

set_option maxRecDepth 100000 in
theorem shl_limb (a q r i : Nat) (ha : a < M256) (hr : r < 64) (hi : i < 4) (hq : q < 4) :
    (la a ((i : Int) - q) * 2 ^ r % 18446744073709551616) ||| (la a ((i : Int) - q - 1) / 2 ^ (64 - r)) = lb (shlN a (64 * q + r)) i := by
  apply Nat.eq_of_testBit_eq
  intro k
  unfold shlN
  rw [if_pos (by omega), tb_lb, M256_pow, Nat.testBit_mod_two_pow, Nat.testBit_or, show (18446744073709551616 : Nat) = 2 ^ 64 from rfl, Nat.testBit_mod_two_pow, Nat.testBit_mul_two_pow, Nat.testBit_div_two_pow, Nat.testBit_mul_two_pow, tb_la _ _ _ ha, tb_la _ _ _ ha]
  by_cases hk : k < 64
  · have e1 : decide (64 * i + k < 256) = true := by simp; omega
    rw [e1]
    by_cases hkr : r ≤ k
    · have e2 : decide (k + (64 - r) < 64) = false := by simp; omega
      have e2' : decide (64 - r + k < 64) = false := by simp; omega
      by_cases hiq : q ≤ i
      · have e3 : decide ((0 : Int) ≤ (i : Int) - q) = true := by simp; omega
        have e4 : decide (64 * q + r ≤ 64 * i + k) = true := by simp; omega
        have e5 : 64 * ((i : Int) - q).toNat + (k - r) = 64 * i + k - (64 * q + r) := by omega
        have e6 : decide (k - r < 64) = true := by simp; omega
        simp only [hk, hkr, e2, e3, e4, e5, e6, decide_true, Bool.true_and, Bool.false_and, Bool.and_true, Bool.or_false]
      · have e3 : decide ((0 : Int) ≤ (i : Int) - q) = false := by simp; omega
        have e4 : decide (64 * q + r ≤ 64 * i + k) = false := by simp; omega
        simp only [hk, hkr, e2, e3, e4, decide_true, Bool.false_and, Bool.and_false, Bool.or_false]
    · have e2 : decide (k + (64 - r) < 64) = true := by simp; omega
      have e2' : decide (64 - r + k < 64) = true := by simp; omega
      by_cases hiq : q + 1 ≤ i
      · have e3 : decide ((0 : Int) ≤ (i : Int) - q - 1) = true := by simp; omega
        have e4 : decide (64 * q + r ≤ 64 * i + k) = true := by simp; omega
        have e5 : 64 * ((i : Int) - q - 1).toNat + (k + (64 - r)) = 64 * i + k - (64 * q + r) := by omega
        have e5' : 64 * ((i : Int) - q - 1).toNat + (64 - r + k) = 64 * i + k - (64 * q + r) := by omega
        simp only [hk, hkr, e2, e3, e4, e5, decide_true, decide_false, Bool.true_and, Bool.false_and, Bool.and_true, Bool.and_false, Bool.false_or]
      · have e3 : decide ((0 : Int) ≤ (i : Int) - q - 1) = false := by simp; omega
        have e4 : decide (64 * q + r ≤ 64 * i + k) = false := by simp; omega
        simp only [hk, hkr, e2, e3, e4, decide_true, decide_false, Bool.false_and, Bool.and_false, Bool.or_false]
  · have e2 : decide (k + (64 - r) < 64) = false := by simp; omega
    have e2' : decide (64 - r + k < 64) = false := by simp; omega
    simp only [hk, e2, decide_false, Bool.false_and, Bool.or_false]

set_option maxRecDepth 100000 in
theorem shr_limb (a q r i : Nat) (ha : a < M256) (hr : r < 64) (hq : q < 4) :
    (la a ((i : Int) + q) / 2 ^ r) ||| (la a ((i : Int) + q + 1) * 2 ^ (64 - r) % 18446744073709551616) = lb (shrN a (64 * q + r)) i := by
  apply Nat.eq_of_testBit_eq
  intro k
  unfold shrN
  rw [if_pos (by omega), tb_lb, Nat.testBit_or, show (18446744073709551616 : Nat) = 2 ^ 64 from rfl, Nat.testBit_mod_two_pow, Nat.testBit_mul_two_pow, Nat.testBit_div_two_pow, Nat.testBit_div_two_pow, tb_la _ _ _ ha, tb_la _ _ _ ha]
  have e3 : decide ((0 : Int) ≤ (i : Int) + q) = true := by simp; omega
  have e3' : decide ((0 : Int) ≤ (i : Int) + q + 1) = true := by simp; omega
  rw [e3, e3']
  by_cases hk : k < 64
  · by_cases hkr : k + r < 64
    · have e2 : decide (64 - r ≤ k) = false := by simp; omega
      have e1 : decide (k + r < 64) = true := by simp; omega
      have e1' : decide (r + k < 64) = true := by simp; omega
      have e5 : 64 * ((i : Int) + q).toNat + (k + r) = 64 * q + r + (64 * i + k) := by omega
      have e5' : 64 * ((i : Int) + q).toNat + (r + k) = 64 * q + r + (64 * i + k) := by omega
      have e5'' : 64 * i + k + (64 * q + r) = 64 * q + r + (64 * i + k) := by omega
      simp only [hk, e1, e2, e5, e5'', decide_true, Bool.true_and, Bool.false_and, Bool.and_true, Bool.and_false, Bool.or_false]
    · have e2 : decide (64 - r ≤ k) = true := by simp; omega
      have e1 : decide (k + r < 64) = false := by simp; omega
      have e1' : decide (r + k < 64) = false := by simp; omega
      have e6 : decide (k - (64 - r) < 64) = true := by simp; omega
      have e5 : 64 * ((i : Int) + q + 1).toNat + (k - (64 - r)) = 64 * q + r + (64 * i + k) := by omega
      have e5'' : 64 * i + k + (64 * q + r) = 64 * q + r + (64 * i + k) := by omega
      simp only [hk, e1, e2, e5, e5'', e6, decide_true, Bool.true_and, Bool.false_and, Bool.and_true, Bool.false_or]
  · have e1 : decide (k + r < 64) = false := by simp; omega
    have e1' : decide (r + k < 64) = false := by simp; omega
    simp only [hk, e1, decide_false, Bool.false_and, Bool.and_true, Bool.or_false]

/-! ### The functions -/
/-- What move answers. -/
def moveV (n : Nat) : Value := if n < 256 then .tuple #[.int .i64 ((n / 64 : Nat) : Int), .int .u64 ((n % 64 : Nat) : Int), .bool true] else .tuple #[.int .i64 0, .int .u64 0, .bool false]

set_option maxRecDepth 100000 in
theorem u64_wrap_nat (x : Nat) : IntKind.u64.wrap (x : Int) = ((x % 18446744073709551616 : Nat) : Int) := by
  simp [IntKind.wrap, IntKind.bits, IntKind.signed]
def MvS (u : World) (ga gq gr a q r : Nat) (W : World) : Prop := Wd W ga 36 a ∧ Cs W gq 3 #[.int .i64 q] ∧ Cs W gr 24 #[.int .u64 r] ∧ Ext u W
set_option maxRecDepth 100000 in
theorem MvS.ext {u : World} {ga gq gr a q r : Nat} {W W' : World} (h : MvS u ga gq gr a q r W) (he : Ext W W') : MvS u ga gq gr a q r W' := ⟨h.1.ext he, h.2.1.ext he, h.2.2.1.ext he, h.2.2.2.trans he⟩
set_option maxRecDepth 100000 in
theorem MvS.drew {u : World} {ga gq gr a q r : Nat} {W : World} (h : MvS u ga gq gr a q r W) : MvS u ga gq gr a q r W.drew := h.ext (Ext.refl W).drew

end Go.Proofs.YtjefbfabigkeiaaDoor
