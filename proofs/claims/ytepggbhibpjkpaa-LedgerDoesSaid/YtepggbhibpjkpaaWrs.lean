/- Contracts of package word: moves (limbAt, move, Shl, Shr). -/
import Derived.Test.YtepggbhibpjkpaaWrl
namespace Go.Proofs.Ytepggbhibpjkpaa
open Go.RowKit

/-! ### Mathematics of moves -/
/-- The limb at the place j, nought where there is none. -/
def la (a : Nat) (j : Int) : Nat := if 0 ≤ j ∧ j < 4 then lb a j.toNat else 0
set_option maxRecDepth 100000 in
theorem la_lt (a : Nat) (j : Int) : la a j < 18446744073709551616 := by
  unfold la
  split
  · exact lb_lt _ _
  · decide
/-- A word moved up, and down. -/
def shlN (a n : Nat) : Nat := if n < 256 then a * 2 ^ n % M256 else 0
def shrN (a n : Nat) : Nat := if n < 256 then a / 2 ^ n else 0
set_option maxRecDepth 100000 in
theorem shlN_lt (a n : Nat) : shlN a n < M256 := by
  unfold shlN
  split
  · exact Nat.mod_lt _ (by decide)
  · decide
set_option maxRecDepth 100000 in
theorem shrN_lt (a n : Nat) (ha : a < M256) : shrN a n < M256 := by
  unfold shrN
  split
  · exact Nat.lt_of_le_of_lt (Nat.div_le_self _ _) ha
  · decide

set_option maxRecDepth 100000 in
theorem tb_lb (n i k : Nat) : (lb n i).testBit k = (decide (k < 64) && n.testBit (64 * i + k)) := by
  unfold lb
  rw [show (18446744073709551616 : Nat) = 2 ^ 64 from rfl, ← Nat.pow_mul, Nat.testBit_mod_two_pow, Nat.testBit_div_two_pow]
  congr 2
  omega
set_option maxRecDepth 100000 in
theorem tb_big (a k : Nat) (ha : a < M256) (hk : 256 ≤ k) : a.testBit k = false :=
  Nat.testBit_lt_two_pow (Nat.lt_of_lt_of_le ha (by rw [M256_pow]; exact Nat.pow_le_pow_right (by decide) hk))
set_option maxRecDepth 100000 in
theorem tb_la (a : Nat) (j : Int) (k : Nat) (ha : a < M256) : (la a j).testBit k = (decide (k < 64) && decide (0 ≤ j) && a.testBit (64 * j.toNat + k)) := by
  unfold la
  by_cases h : 0 ≤ j ∧ j < 4
  · rw [if_pos h, tb_lb]
    simp [h.1]
  · rw [if_neg h]
    by_cases h0 : 0 ≤ j
    · rw [tb_big a _ ha (by omega)]
      simp
    · simp [h0]

set_option maxRecDepth 100000 in
theorem shl_limb (a q r i : Nat) (ha : a < M256) (hr : r < 64) (hi : i < 4) (hq : q < 4) :
    (la a ((i : Int) - q) * 2 ^ r % 18446744073709551616) ||| (la a ((i : Int) - q - 1) / 2 ^ (64 - r)) = lb (shlN a (64 * q + r)) i := by
  apply Nat.eq_of_testBit_eq
  intro k
  unfold shlN
  rw [if_pos (by omega), tb_lb, M256_pow, Nat.testBit_mod_two_pow, Nat.testBit_or, show (18446744073709551616 : Nat) = 2 ^ 64 from rfl, Nat.testBit_mod_two_pow, Nat.testBit_mul_two_pow, Nat.testBit_div_two_pow, Nat.testBit_mul_two_pow, tb_la _ _ _ ha, tb_la _ _ _ ha]
  by_cases hk : k < 64
  · have e1 : decide (64 * i + k < 256) = true := by simp; omega
    rw [e1]
    by_cases hkr : r ≤ k
    · have e2 : decide (k + (64 - r) < 64) = false := by simp; omega
      have e2' : decide (64 - r + k < 64) = false := by simp; omega
      by_cases hiq : q ≤ i
      · have e3 : decide ((0 : Int) ≤ (i : Int) - q) = true := by simp; omega
        have e4 : decide (64 * q + r ≤ 64 * i + k) = true := by simp; omega
        have e5 : 64 * ((i : Int) - q).toNat + (k - r) = 64 * i + k - (64 * q + r) := by omega
        have e6 : decide (k - r < 64) = true := by simp; omega
        simp only [hk, hkr, e2, e3, e4, e5, e6, decide_true, Bool.true_and, Bool.false_and, Bool.and_true, Bool.or_false]
      · have e3 : decide ((0 : Int) ≤ (i : Int) - q) = false := by simp; omega
        have e4 : decide (64 * q + r ≤ 64 * i + k) = false := by simp; omega
        simp only [hk, hkr, e2, e3, e4, decide_true, Bool.false_and, Bool.and_false, Bool.or_false]
    · have e2 : decide (k + (64 - r) < 64) = true := by simp; omega
      have e2' : decide (64 - r + k < 64) = true := by simp; omega
      by_cases hiq : q + 1 ≤ i
      · have e3 : decide ((0 : Int) ≤ (i : Int) - q - 1) = true := by simp; omega
        have e4 : decide (64 * q + r ≤ 64 * i + k) = true := by simp; omega
        have e5 : 64 * ((i : Int) - q - 1).toNat + (k + (64 - r)) = 64 * i + k - (64 * q + r) := by omega
        have e5' : 64 * ((i : Int) - q - 1).toNat + (64 - r + k) = 64 * i + k - (64 * q + r) := by omega
        simp only [hk, hkr, e2, e3, e4, e5, decide_true, decide_false, Bool.true_and, Bool.false_and, Bool.and_true, Bool.and_false, Bool.false_or]
      · have e3 : decide ((0 : Int) ≤ (i : Int) - q - 1) = false := by simp; omega
        have e4 : decide (64 * q + r ≤ 64 * i + k) = false := by simp; omega
        simp only [hk, hkr, e2, e3, e4, decide_true, decide_false, Bool.false_and, Bool.and_false, Bool.or_false]
  · have e2 : decide (k + (64 - r) < 64) = false := by simp; omega
    have e2' : decide (64 - r + k < 64) = false := by simp; omega
    simp only [hk, e2, decide_false, Bool.false_and, Bool.or_false]

set_option maxRecDepth 100000 in
theorem shr_limb (a q r i : Nat) (ha : a < M256) (hr : r < 64) (hq : q < 4) :
    (la a ((i : Int) + q) / 2 ^ r) ||| (la a ((i : Int) + q + 1) * 2 ^ (64 - r) % 18446744073709551616) = lb (shrN a (64 * q + r)) i := by
  apply Nat.eq_of_testBit_eq
  intro k
  unfold shrN
  rw [if_pos (by omega), tb_lb, Nat.testBit_or, show (18446744073709551616 : Nat) = 2 ^ 64 from rfl, Nat.testBit_mod_two_pow, Nat.testBit_mul_two_pow, Nat.testBit_div_two_pow, Nat.testBit_div_two_pow, tb_la _ _ _ ha, tb_la _ _ _ ha]
  have e3 : decide ((0 : Int) ≤ (i : Int) + q) = true := by simp; omega
  have e3' : decide ((0 : Int) ≤ (i : Int) + q + 1) = true := by simp; omega
  rw [e3, e3']
  by_cases hk : k < 64
  · by_cases hkr : k + r < 64
    · have e2 : decide (64 - r ≤ k) = false := by simp; omega
      have e1 : decide (k + r < 64) = true := by simp; omega
      have e1' : decide (r + k < 64) = true := by simp; omega
      have e5 : 64 * ((i : Int) + q).toNat + (k + r) = 64 * q + r + (64 * i + k) := by omega
      have e5' : 64 * ((i : Int) + q).toNat + (r + k) = 64 * q + r + (64 * i + k) := by omega
      have e5'' : 64 * i + k + (64 * q + r) = 64 * q + r + (64 * i + k) := by omega
      simp only [hk, e1, e2, e5, e5'', decide_true, Bool.true_and, Bool.false_and, Bool.and_true, Bool.and_false, Bool.or_false]
    · have e2 : decide (64 - r ≤ k) = true := by simp; omega
      have e1 : decide (k + r < 64) = false := by simp; omega
      have e1' : decide (r + k < 64) = false := by simp; omega
      have e6 : decide (k - (64 - r) < 64) = true := by simp; omega
      have e5 : 64 * ((i : Int) + q + 1).toNat + (k - (64 - r)) = 64 * q + r + (64 * i + k) := by omega
      have e5'' : 64 * i + k + (64 * q + r) = 64 * q + r + (64 * i + k) := by omega
      simp only [hk, e1, e2, e5, e5'', e6, decide_true, Bool.true_and, Bool.false_and, Bool.and_true, Bool.false_or]
  · have e1 : decide (k + r < 64) = false := by simp; omega
    have e1' : decide (r + k < 64) = false := by simp; omega
    simp only [hk, e1, decide_false, Bool.false_and, Bool.and_true, Bool.or_false]

/-! ### The functions -/
set_option maxRecDepth 100000 in
set_option maxHeartbeats 400000 in
theorem limbAt_any (a : Nat) (j : Int) (w : World) :
    Calls Try.prog 59 #[wv a, .int .i64 j] w fun e w' => e = .returned (.int .u64 ((la a j : Nat) : Int)) ∧ Ext w w' := by
  have HE := Lib.hid (((Ext.refl w).alloc (.cells (wc a) 29)))
  have hw : Wd (w.alloc (.cells (wc a) 29)) w.heap.size 29 a := Cs.new w _ _ _ rfl
  by_cases h0 : 0 ≤ j ∧ j < 4
  · have HL := Lib.hid (show ((lb a j.toNat : Nat) : Int) = (la a j : Nat) by unfold la; rw [if_pos h0])
    obtain ⟨h0, h4⟩ := h0
    have hc := hw.cell j.toNat (by omega)
    have n0 : decide (j < 0) = false := by simp; omega
    have n4 : decide (4 ≤ j) = false := by simp; omega
    clear hw
    unfold wv
    go_enter Try.func59, Try.ntmps59
    go_wp2
    go_ret
    exact ⟨ret_int HL.out, HE.out⟩
  · have HL := Lib.hid (show (0 : Int) = (la a j : Nat) by unfold la; rw [if_neg h0]; rfl)
    clear hw
    unfold wv
    by_cases hj : j < 0
    · clear h0
      go_enter Try.func59, Try.ntmps59
      go_wp2
      go_ret
      exact ⟨ret_int HL.out, HE.out⟩
    · have h4 : 4 ≤ j := by omega
      clear h0
      go_enter Try.func59, Try.ntmps59
      go_wp2
      go_ret
      exact ⟨ret_int HL.out, HE.out⟩

/-- What move answers. -/
def moveV (n : Nat) : Value := if n < 256 then .tuple #[.int .i64 ((n / 64 : Nat) : Int), .int .u64 ((n % 64 : Nat) : Int), .bool true] else .tuple #[.int .i64 0, .int .u64 0, .bool false]

set_option maxRecDepth 100000 in
set_option maxHeartbeats 400000 in
theorem move_any (n : Nat) (w : World) (hn : n < M256) :
    Calls Try.prog 56 #[wv n] w fun e w' => e = .returned (moveV n) ∧ Ext w w' := by
  have HE := Lib.hid (((Ext.refl w).alloc (.cells (wc n) 29)))
  have hw : Wd (w.alloc (.cells (wc n) 29)) w.heap.size 29 n := Cs.new w _ _ _ rfl
  have HS := Lib.hid (show (isSmall n = true ∧ smallN n = n) ∨ (isSmall n = false ∧ ¬ n < 256) by
    unfold isSmall smallN
    by_cases h : n < 18446744073709551616
    · left; simp [h]
    · right; simp [h]; omega)
  unfold wv
  go_enter Try.func56, Try.ntmps56
  go_wp2_with ((with_reducible refine wpList_load_wordG ?_ 29 26 (.tmp 1) rfl Try.underlying29 winfo w.heap.size n ?_ ?_ ?_); (exact rfl); (exact rfl); (exact hw))
  refine (small_any n _ hn).mono ?_
  rintro e w2 ⟨rfl, he⟩
  have HE2 := Lib.hid (HE.out.trans he)
  clear he HE hw hn
  rcases HS.out with ⟨h1, h2⟩ | ⟨h1, h2⟩
  · rw [h1, h2]
    clear HS h1 h2
    by_cases hlt : n < 256
    · have HM := Lib.hid (show moveV n = .tuple #[.int .i64 ((n / 64 : Nat) : Int), .int .u64 ((n % 64 : Nat) : Int), .bool true] by unfold moveV; rw [if_pos hlt])
      have hge : decide ((256 : Int) ≤ (n : Int)) = false := by simp; omega
      have hd1 : IntKind.u64.wrap ((n : Int) / 64) = (n : Int) / 64 := IntWalk.u64_in _ (by omega)
      have hd2 : wrap64 ((n : Int) / 64) = (n : Int) / 64 := by unfold wrap64; omega
      clear hlt
      go_wp2
      go_ret3
      refine ⟨?_, HE2.out⟩
      rw [HM.out, hd2]
      rfl
    · have HM := Lib.hid (show moveV n = .tuple #[.int .i64 0, .int .u64 0, .bool false] by unfold moveV; rw [if_neg hlt])
      have hge : decide ((256 : Int) ≤ (n : Int)) = true := by simp; omega
      clear hlt
      go_wp2
      go_ret3
      exact ⟨by rw [HM.out]; rfl, HE2.out⟩
  · rw [h1]
    have HM := Lib.hid (show moveV n = .tuple #[.int .i64 0, .int .u64 0, .bool false] by unfold moveV; rw [if_neg h2])
    clear HS h1 h2
    go_wp2
    go_ret3
    exact ⟨by rw [HM.out]; rfl, HE2.out⟩

set_option maxRecDepth 100000 in
theorem u64_wrap_nat (x : Nat) : IntKind.u64.wrap (x : Int) = ((x % 18446744073709551616 : Nat) : Int) := by
  simp [IntKind.wrap, IntKind.bits, IntKind.signed]
def MvS (u : World) (ga gq gr a q r : Nat) (W : World) : Prop := Wd W ga 29 a ∧ Cs W gq 3 #[.int .i64 q] ∧ Cs W gr 26 #[.int .u64 r] ∧ Ext u W
set_option maxRecDepth 100000 in
theorem MvS.ext {u : World} {ga gq gr a q r : Nat} {W W' : World} (h : MvS u ga gq gr a q r W) (he : Ext W W') : MvS u ga gq gr a q r W' := ⟨h.1.ext he, h.2.1.ext he, h.2.2.1.ext he, h.2.2.2.trans he⟩
set_option maxRecDepth 100000 in
theorem MvS.drew {u : World} {ga gq gr a q r : Nat} {W : World} (h : MvS u ga gq gr a q r W) : MvS u ga gq gr a q r W.drew := h.ext (Ext.refl W).drew

set_option maxRecDepth 100000 in
set_option maxHeartbeats 1000000 in
theorem shl1_any (i ga gq gr a q r : Nat) (hi : i < 4) (hq : q < 4) (hr : r < 64) (u : World) (ha : Wd u ga 29 a) (hcq : Cs u gq 3 #[.int .i64 q]) (hcr : Cs u gr 26 #[.int .u64 r]) :
    Calls Try.prog 58 #[.int .i64 i, .pointer (some ⟨ga, 0, none⟩), .pointer (some ⟨gq, 0, none⟩), .pointer (some ⟨gr, 0, none⟩)] u fun e u' => e = .returned (lv ((la a ((i : Int) - q) * 2 ^ r % 18446744073709551616) ||| (la a ((i : Int) - q - 1) / 2 ^ (64 - r)))) ∧ Ext u u' := by
  have b1 := la_lt a ((i : Int) - q)
  have b2 := la_lt a ((i : Int) - q - 1)
  have HS : MvS u ga gq gr a q r u := ⟨ha, hcq, hcr, Ext.refl u⟩
  obtain ⟨c0, c1, c2, c3⟩ := ha.cs.four
  have cq := hcq.cell 0 _ rfl
  have cr := hcr.cell 0 _ rfl
  have w1 : IntKind.i64.wrap ((i : Int) - q) = (i : Int) - q := IntWalk.i64_in _ (by omega)
  have w2 : IntKind.i64.wrap ((i : Int) - q - 1) = (i : Int) - q - 1 := IntWalk.i64_in _ (by omega)
  have w3 : IntKind.u64.wrap (64 - (r : Int)) = ((64 - r : Nat) : Int) := by rw [IntWalk.u64_in _ (by omega)]; omega
  clear ha hcq hcr
  unfold lv
  go_enter Try.func58, Try.ntmps58
  go_wp2
  go_region_held3 (fun w' => (w'.cell? ⟨ga, 0, none⟩ = some (.int .u64 (lb a 0 : Nat)) ∧ w'.cell? ⟨ga, 1, none⟩ = some (.int .u64 (lb a 1 : Nat)) ∧ w'.cell? ⟨ga, 2, none⟩ = some (.int .u64 (lb a 2 : Nat)) ∧ w'.cell? ⟨ga, 3, none⟩ = some (.int .u64 (lb a 3 : Nat))) ∧ w'.cell? ⟨gq, 0, none⟩ = some (.int .i64 q) ∧ w'.cell? ⟨gr, 0, none⟩ = some (.int .u64 r))
    (exact ⟨HS.1.f4, HS.2.1.cell 0 _ rfl, HS.2.2.1.cell 0 _ rfl⟩)
    (first | (go_at_call 59; refine (limbAt_any a _ _).mono ?_; rintro e wx ⟨rfl, he⟩; (first | have HS := HS.ext he | have HS := HS.drew.ext he); clear he))
  all_goals
    go_wp2
    go_ret
    refine ⟨ret_int ?_, HS.2.2.2⟩
    rw [show ((la a ((i : Int) - q) : Nat) : Int) * 2 ^ r = ((la a ((i : Int) - q) * 2 ^ r : Nat) : Int) by simp, u64_wrap_nat, show ((la a ((i : Int) - q - 1) : Nat) : Int) / 2 ^ (64 - r) = ((la a ((i : Int) - q - 1) / 2 ^ (64 - r) : Nat) : Int) by simp]
    exact u64_or_nat _ _ (Nat.mod_lt _ (by decide)) (Nat.lt_of_le_of_lt (Nat.div_le_self _ _) b2)

set_option maxRecDepth 100000 in
set_option maxHeartbeats 1000000 in
theorem shl_any (a n : Nat) (w : World) (ha : a < M256) (hn : n < M256) :
    Calls Try.prog 31 #[wv a, wv n] w fun e w' => e = .returned (wv (shlN a n)) ∧ Ext w w' := by
  have HM := Lib.hid (show shlN a n < M256 from shlN_lt a n)
  have HA := Lib.hid ha
  have HN := Lib.hid hn
  clear ha hn
  have HE : Hid (Ext w (((w.alloc (.cells (wc a) 29)).alloc (.cells (wc n) 29)).alloc (.cells #[.int .u64 0, .int .u64 0, .int .u64 0, .int .u64 0] 29))) := (((Ext.refl w).alloc _).alloc _).alloc _
  unfold wv
  go_enter Try.func31, Try.ntmps31
  go_wp2_with ((with_reducible refine wpList_load_wordG ?_ 29 26 (.tmp 3) rfl Try.underlying29 winfo (w.heap.size + 1) n ?_ ?_ ?_); (exact rfl); (exact rfl); (exact (Cs.new _ _ _ _ (by simp)).alloc _))
  have k0 : Wd (((w.alloc (.cells (wc a) 29)).alloc (.cells (wc n) 29)).alloc (.cells #[.int .u64 0, .int .u64 0, .int .u64 0, .int .u64 0] 29)) w.heap.size 29 a := ((Cs.new w _ _ _ rfl).alloc _).alloc _
  have k2 : Cs (((w.alloc (.cells (wc a) 29)).alloc (.cells (wc n) 29)).alloc (.cells #[.int .u64 0, .int .u64 0, .int .u64 0, .int .u64 0] 29)) (w.heap.size + 1 + 1) 29 (wc 0) := Cs.new _ _ _ _ (by simp)
  have hz : w.heap.size + 3 ≤ (((w.alloc (.cells (wc a) 29)).alloc (.cells (wc n) 29)).alloc (.cells #[.int .u64 0, .int .u64 0, .int .u64 0, .int .u64 0] 29)).heap.size := by simp
  generalize (((w.alloc (.cells (wc a) 29)).alloc (.cells (wc n) 29)).alloc (.cells #[.int .u64 0, .int .u64 0, .int .u64 0, .int .u64 0] 29)) = w0 at *
  refine (move_any n _ HN.out).mono ?_
  rintro e w1 ⟨rfl, he1⟩
  have k01 := k0.ext he1
  have k21 := k2.ext he1
  have HE1 := Lib.hid (HE.out.trans he1)
  have hz1 : w.heap.size + 3 ≤ w1.heap.size := Nat.le_trans hz he1.size
  clear he1 HE k0 k2 hz
  unfold moveV
  by_cases hlt : n < 256
  · rw [if_pos hlt]
    have HF := Lib.hid (show ∀ i : Nat, i < 4 → (la a ((i : Int) - (n / 64 : Nat)) * 2 ^ (n % 64) % 18446744073709551616) ||| (la a ((i : Int) - (n / 64 : Nat) - 1) / 2 ^ (64 - n % 64)) = lb (shlN a n) i from fun i hi => by
      have := shl_limb a (n / 64) (n % 64) i HA.out (Nat.mod_lt _ (by decide)) hi (by omega)
      rwa [Nat.div_add_mod] at this)
    have hq : n / 64 < 4 := by omega
    have hr : n % 64 < 64 := Nat.mod_lt _ (by decide)
    clear hlt
    generalize n / 64 = q at *
    generalize n % 64 = r at *
    go_wp2_with fail
    have cq : Cs ((w1.alloc (.cells #[.int .i64 q] 3)).alloc (.cells #[.int .u64 r] 26)) w1.heap.size 3 #[.int .i64 q] :=
      (Cs.new _ _ _ _ rfl).alloc _
    have cr : Cs ((w1.alloc (.cells #[.int .i64 q] 3)).alloc (.cells #[.int .u64 r] 26)) (w1.heap.size + 1) 26 #[.int .u64 r] :=
      Cs.new _ _ _ _ (by simp)
    have k02 := (k01.al (.cells #[.int .i64 q] 3)).al (.cells #[.int .u64 r] 26)
    have k22 := (k21.alloc (.cells #[.int .i64 q] 3)).alloc (.cells #[.int .u64 r] 26)
    have HE2 := Lib.hid ((HE1.out.alloc (.cells #[.int .i64 q] 3)).alloc (.cells #[.int .u64 r] 26))
    have hz2 : w1.heap.size + 2 ≤ ((w1.alloc (.cells #[.int .i64 q] 3)).alloc (.cells #[.int .u64 r] 26)).heap.size := by simp
    clear k01 k21 HE1
    generalize ((w1.alloc (.cells #[.int .i64 q] 3)).alloc (.cells #[.int .u64 r] 26)) = w2 at *
    refine (limbs_any 58 _ (fun i => (la a ((i : Int) - q) * 2 ^ r % 18446744073709551616) ||| (la a ((i : Int) - q - 1) / 2 ^ (64 - r)))
      (fun i u => Wd u w.heap.size 29 a ∧ Cs u w1.heap.size 3 #[.int .i64 q] ∧ Cs u (w1.heap.size + 1) 26 #[.int .u64 r] ∧ Cs u (w.heap.size + 1 + 1) 29 (wc 0)) none w2
      (fun args u => Try.call58 args u) (fun g e => by cases e) ⟨k02, cq, cr, k22⟩ ?_ ?_ _ HM.out HF.out).mono ?_
    · rintro i u u' ⟨h0, h1, h2, h3⟩ hk
      exact ⟨(hk _ (by omega)).trans h0, (hk _ (by omega)).trans h1, (hk _ (by omega)).trans h2, (hk _ (by omega)).trans h3⟩
    · rintro i u hi ⟨h0, h1, h2, h3⟩
      refine (shl1_any i _ _ _ a q r hi hq hr u h0 h1 h2).mono ?_
      rintro e u' ⟨rfl, he⟩
      exact ⟨rfl, ⟨h0.ext he, h1.ext he, h2.ext he, h3.ext he⟩, grown_of_ext he _⟩
    rintro e w3 ⟨rfl, ⟨h0, h1, h2, h3⟩, hg⟩
    have HG := Lib.hid (HE2.out.trans (ext_of_grown hg))
    clear k02 k22 cq cr h0 h1 h2 hg HE2
    go_wp2_with (refine wpList_store_word rfl rfl 29 (.tmp 4) (.tmp 18) rfl winfo (w.heap.size + 1 + 1) (wc 0) _ rfl rfl h3 rfl ?_; intro w4 hw4 hg4; have HW4 := Lib.hid hw4; have HG4 := Lib.hid (HG.out.grown hg4 (by omega)); clear hw4 hg4)
    exact bodyPost_ret (results_word Try.results31 _ _ (w.heap.size + 1 + 1) _ rfl HW4.out Try.underlying29 winfo) rfl ⟨rfl, HG4.out⟩
  · rw [if_neg hlt]
    have HZ := Lib.hid (show shlN a n = 0 by unfold shlN; rw [if_neg hlt])
    clear hlt
    have k23 := (k21.alloc (.cells #[.int .i64 0] 3)).alloc (.cells #[.int .u64 0] 26)
    have HE2 := Lib.hid ((HE1.out.alloc (.cells #[.int .i64 0] 3)).alloc (.cells #[.int .u64 0] 26))
    go_wp2_with (refine wpList_store_word rfl rfl 29 (.tmp 4) (.tmp 16) rfl winfo (w.heap.size + 1 + 1) (wc 0) 0 rfl rfl k23 rfl ?_; intro w4 hw4 hg4; have HW4 := Lib.hid hw4; have HG4 := Lib.hid (HE2.out.grown hg4 (by omega)); clear hw4 hg4)
    exact bodyPost_ret (results_word Try.results31 _ _ (w.heap.size + 1 + 1) _ rfl HW4.out Try.underlying29 winfo) rfl ⟨by rw [HZ.out]; rfl, HG4.out⟩

set_option maxRecDepth 100000 in
theorem shl_w (a n : Nat) (w : World) (ha : a < M256) (hn : n < M256) : Calls Try.prog 31 #[wv a, wv n] w (RetW w (shlN a n)) := (shl_any a n w ha hn).mono fun _ _ h => ⟨h.1, shlN_lt a n, h.2⟩
end Go.Proofs.Ytepggbhibpjkpaa
