/- The document's Number of a round. -/
import Derived.Test.YthjmjccggkejhaaDoorSra
import Derived.BigQuiet
namespace Go.Proofs.YthjmjccggkejhaaDoor
open Go.RowKit Go.Shelf

set_option maxRecDepth 100000 in
theorem lf_xor : ∀ r : Fin 256, 255 < 2 * r.val → bits .xor .i64 (((2 * r.val - 256 : Nat) : Int)) 113 = (((2 * r.val - 256) ^^^ 113 : Nat) : Int) := by decide +kernel

set_option maxRecDepth 100000 in
theorem num_pow : ∀ j : Fin 7, IntKind.u64.wrap (2 ^ min (IntKind.u64.wrap (IntKind.u64.wrap (2 ^ j.val) - 1)).toNat 64) = ((2 ^ (2 ^ j.val - 1) : Nat) : Int) := by decide +kernel
set_option maxRecDepth 100000 in
theorem pow_lt (j : Nat) (hj : j < 7) : 2 ^ (2 ^ j - 1) < 18446744073709551616 := by
  have h1 : 2 ^ j ≤ 2 ^ 6 := Nat.pow_le_pow_right (by decide) (by omega)
  have h2 : 2 ^ (2 ^ j - 1) < 2 ^ 64 := Nat.pow_lt_pow_right (by decide) (by omega)
  exact h2
set_option maxRecDepth 100000 in
theorem num_or (x j : Nat) (hx : x < 18446744073709551616) (hj : j < 7) : bits .or .u64 (x : Int) (IntKind.u64.wrap (2 ^ min (IntKind.u64.wrap (IntKind.u64.wrap (2 ^ j) - 1)).toNat 64)) = ((x ||| 2 ^ (2 ^ j - 1) : Nat) : Int) := by
  rw [num_pow ⟨j, hj⟩]
  exact u64_or_nat x _ hx (pow_lt j hj)
set_option maxRecDepth 100000 in
theorem vi_congr {k : IntKind} {a b : Int} (h : a = b) : Value.int k a = .int k b := by rw [h]

set_option maxRecDepth 100000 in
set_option maxHeartbeats 400000 in
theorem number_ref (n : Nat) (w : World) (hn : n < 24) : Calls Tryd.prog 52 #[.int .i64 (n : Int)] w fun e w' => e = .returned (.int .u64 (rnN n : Nat)) ∧ w = w' := by
  have HRN := Lib.hid (rn_of n hn)
  go_enter Tryd.func52, Tryd.ntmps52
  go_wp2_with fail
  go_loopw [3, 4, 5, 6, 9, 10, 11, 12, 13, 14, 15, 16, 17, 18, 19, 20, 21, 22, 23, 24, 25, 26, 27, 28, 29, 30, 31, 32, 33, 34, 35, 36] (fun r _ _ _ u _ _ _ _ _ _ _ _ _ _ _ _ _ _ _ _ _ _ _ _ _ _ _ _ _ _ _ wr => ∃ i : Nat, i ≤ n ∧ u = .int .i64 i ∧ r = .int .i64 (ouN i : Nat) ∧ w = wr) (fun _ _ _ _ u _ _ _ _ _ _ _ _ _ _ _ _ _ _ _ _ _ _ _ _ _ _ _ _ _ _ _ _ => n + 1 - (intOf u).toNat)
  case atStart => exact ⟨0, by omega, rfl, rfl, rfl⟩
  case round =>
    obtain ⟨i, hi, rfl, rfl, rfl⟩ := hrel
    have hd : decide ((i : Int) < (n : Int) + 1) = true := by simp; omega
    have hou := ou_lt i
    have HI := Lib.hid (show ∀ h : i = n, (inN (ouN i) 7).2 = rnN n from fun h => by rw [h]; exact HRN.out)
    have HS := Lib.hid (show (inN (ouN i) 7).1 = ouN (i + 1) from rfl)
    generalize ouN i = r0 at *
    go_wp2_with fail
    go_loopw [3, 4, 6, 12, 13, 14, 15, 16, 17, 18, 19, 20, 21, 22, 23, 24, 25, 26, 27, 28, 29, 30, 31, 32] (fun r x _ u _ _ _ _ _ _ _ _ _ _ _ _ _ _ _ _ _ _ _ _ wr => ∃ j : Nat, j ≤ 7 ∧ u = .int .i64 j ∧ r = .int .i64 ((inN r0 j).1 : Nat) ∧ x = .int .u64 ((inN r0 j).2 : Nat) ∧ w = wr) (fun _ _ _ u _ _ _ _ _ _ _ _ _ _ _ _ _ _ _ _ _ _ _ _ _ => 7 - (intOf u).toNat)
    case atStart => exact ⟨0, by omega, rfl, rfl, rfl, rfl⟩
    case round =>
      obtain ⟨j, hj, rfl, rfl, rfl, rfl⟩ := hrel
      by_cases hlt : j < 7
      · have hdj : decide ((j : Int) < 7) = true := by simp; omega
        have hr := in_lt r0 hou j
        have hx := in_lt2 r0 j (by omega)
        have HN1 := Lib.hid (show (inN r0 (j + 1)).1 = lfN (inN r0 j).1 from rfl)
        have HN2 := Lib.hid (show (inN r0 (j + 1)).2 = if lfN (inN r0 j).1 / 2 % 2 = 1 then (inN r0 j).2 ||| 2 ^ (2 ^ j - 1) else (inN r0 j).2 from rfl)
        generalize (inN r0 j).1 = r at *
        generalize (inN r0 j).2 = x at *
        have hr0 : (0 : Int) ≤ (r : Int) := by omega
        have hrl : (r : Int) < 256 := by omega
        have hj0 : (0 : Int) ≤ (j : Int) := by omega
        have hj6 : (j : Int) ≤ 6 := by omega
        have hlf := lf_lt ⟨r, hr⟩
        by_cases hb : 255 < 2 * r
        · have hX : bits .xor .i64 ((r : Int) * 2 - 256) 113 = ((lfN r : Nat) : Int) := by
            have := lf_xor ⟨r, hr⟩ hb
            dsimp only at this
            rw [show (r : Int) * 2 - 256 = ((2 * r - 256 : Nat) : Int) by omega, this]
            unfold lfN
            rw [if_pos hb]
          have hd1 : decide ((255 : Int) < (r : Int) * 2) = true := decide_eq_true (by omega)
          dsimp only at hlf
          generalize lfN r = s at *
          have hs0 : (0 : Int) ≤ (s : Int) := by omega
          have hsl : (s : Int) < 256 := by omega
          have HNO := Lib.hid (num_or x j hx hlt)
          clear hou hr hb hlf
          by_cases hs : s / 2 % 2 = 1
          · have hq : ((s : Int) / 2 % 2 == 1) = true := by simp only [beq_iff_eq]; omega
            have HN3 := Lib.hid (HN2.out.trans (if_pos hs))
            clear hs HN2
            go_wp2_with fail
            exact ⟨⟨j + 1, by omega, by go_num, by rw [HN1.out], by rw [HN3.out]; exact vi_congr HNO.out, trivial⟩, by simp [intOf]; omega⟩
          · have hq : ((s : Int) / 2 % 2 == 1) = false := by simp only [beq_eq_false_iff_ne, ne_eq]; omega
            have HN3 := Lib.hid (HN2.out.trans (if_neg hs))
            clear hs HN2
            go_wp2_with fail
            exact ⟨⟨j + 1, by omega, by go_num, by rw [HN1.out], by rw [HN3.out], trivial⟩, by simp [intOf]; omega⟩
        · have HX : Hid (lfN r = 2 * r) := Lib.hid (by unfold lfN; rw [if_neg hb])
          have hd1 : decide ((255 : Int) < (r : Int) * 2) = false := decide_eq_false (by omega)
          rw [HX.out] at HN1 HN2
          have HNO := Lib.hid (num_or x j hx hlt)
          clear hou hb hlf HX
          by_cases hs : 2 * r / 2 % 2 = 1
          · have hq : ((r : Int) % 2 == 1) = true := by simp only [beq_iff_eq]; omega
            have hq2 : ((r : Int) * 2 / 2 % 2 == 1) = true := by simp only [beq_iff_eq]; omega
            have HN3 := Lib.hid (HN2.out.trans (if_pos hs))
            clear hs HN2 hr
            go_wp2_with fail
            exact ⟨⟨j + 1, by omega, by go_num, by rw [HN1.out]; exact vi_congr (by omega), by rw [HN3.out]; exact vi_congr HNO.out, trivial⟩, by simp [intOf]; omega⟩
          · have hq : ((r : Int) % 2 == 1) = false := by simp only [beq_eq_false_iff_ne, ne_eq]; omega
            have hq2 : ((r : Int) * 2 / 2 % 2 == 1) = false := by simp only [beq_eq_false_iff_ne, ne_eq]; omega
            have HN3 := Lib.hid (HN2.out.trans (if_neg hs))
            clear hs HN2 hr
            go_wp2_with fail
            exact ⟨⟨j + 1, by omega, by go_num, by rw [HN1.out]; exact vi_congr (by omega), by rw [HN3.out], trivial⟩, by simp [intOf]; omega⟩
      · obtain rfl : j = 7 := by omega
        by_cases hin : i = n
        · have hq : ((i : Int) == (n : Int)) = true := by simp [hin]
          have HX := Lib.hid (HI.out hin)
          generalize (inN r0 7).2 = x at *
          generalize (inN r0 7).1 = r at *
          clear hin HI
          go_wp2_with fail
          go_ret
          exact ⟨by rw [← HX.out]; rfl, rfl⟩
        · have hq : ((i : Int) == (n : Int)) = false := by simp; omega
          generalize (inN r0 7).2 = x at *
          generalize (inN r0 7).1 = r at *
          go_wp2_with fail
          exact ⟨⟨i + 1, by omega, by go_num, by rw [HS.out], trivial⟩, by simp [intOf]; omega⟩
end Go.Proofs.YthjmjccggkejhaaDoor
