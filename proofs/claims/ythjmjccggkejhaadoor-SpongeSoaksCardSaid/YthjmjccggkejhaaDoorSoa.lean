/- The law's little: eight bytes as a number, the lowest first. -/
import Derived.Test.YthjmjccggkejhaaDoorSri
import Derived.Test.YthjmjccggkejhaaDoorLbe
namespace Go.Proofs.YthjmjccggkejhaaDoor
open Go.RowKit Go.Shelf

set_option maxRecDepth 100000 in
set_option maxHeartbeats 1000000 in
theorem little_any (v : Value) (b : List UInt8) (w : World) (hb : Bs w v b) (h8 : 8 ≤ b.length) :
    Calls Tryd.prog 34 #[v] w fun e w' => e = .returned (.int .u64 (leS b 0 8 : Nat)) ∧ w = w' := by
  obtain ⟨A, c, rfl, h1, h2, h3⟩ := hb
  obtain ⟨bb, o, rfl, hc⟩ := h3 (by omega)
  have HC := Lib.hid hc
  clear h3 hc
  unfold maxLen at h2
  go_enter Tryd.func34, Tryd.ntmps34
  go_wp2_with fail
  go_loop [2, 3, 4, 5, 6, 7, 8, 9, 10, 11, 12, 13, 14, 15, 16, 17] (fun x _ u _ _ _ _ _ _ _ _ _ _ _ _ _ => ∃ k : Nat, k ≤ 8 ∧ x = .int .u64 (leS b 0 k : Nat) ∧ u = .int .i64 k) (fun _ _ u _ _ _ _ _ _ _ _ _ _ _ _ _ => 8 - (intOf u).toNat)
  case atStart => exact ⟨0, by omega, rfl, rfl⟩
  case round =>
    obtain ⟨k, hk, rfl, rfl⟩ := hrel
    by_cases hlt : k < 8
    · have hd : decide ((k : Int) < 8) = true := decide_eq_true (by omega)
      have hcl := HC.out k (by omega)
      unfold bv at hcl
      have hcb := (b.getD k 0).toNat_lt
      have hxl : leS b 0 k < 2 ^ (8 * k) := leS_lt b 0 k
      have hor : leS b 0 k ||| (b.getD k 0).toNat * 2 ^ (8 * k) = leS b 0 (k + 1) := by
        show _ = leS b 0 k + (b.getD (0 + k) 0).toNat * 2 ^ (8 * k)
        rw [Nat.zero_add, Nat.or_comm, Nat.mul_comm, Nat.add_comm, ← Nat.two_pow_add_eq_or_of_lt hxl]
      have hlt64 : (b.getD k 0).toNat * 2 ^ (8 * k) < 18446744073709551616 := by
        have h1 : (b.getD k 0).toNat * 2 ^ (8 * k) ≤ 255 * 2 ^ (8 * k) := Nat.mul_le_mul_right _ (by omega)
        have h2 : 2 ^ (8 * k) ≤ 2 ^ 56 := Nat.pow_le_pow_right (by decide) (by omega)
        omega
      have hx64 : leS b 0 k < 18446744073709551616 := Nat.lt_of_lt_of_le hxl (Nat.le_trans (Nat.pow_le_pow_right (by decide) (show 8 * k ≤ 56 by omega)) (by decide))
      have hs1 : Op.shift .shl .u64 ((b.getD k 0).toNat : Int) .i64 (8 * (k : Int)) = pure (.int .u64 (((b.getD k 0).toNat * 2 ^ (8 * k) : Nat) : Int)) := by
        rw [shift_shl .u64 .i64 _ _ (by omega) (by simp [IntKind.bits]; omega), show (8 * (k : Int)).toNat = 8 * k by omega]
        rw [show ((b.getD k 0).toNat : Int) * 2 ^ (8 * k) = (((b.getD k 0).toNat * 2 ^ (8 * k) : Nat) : Int) by simp, IntWalk.u64_in _ (by omega)]
      have hs2 : IntKind.u64.wrap (((b.getD k 0).toNat : Int) * 2 ^ (8 * k)) = (((b.getD k 0).toNat * 2 ^ (8 * k) : Nat) : Int) := by
        rw [show ((b.getD k 0).toNat : Int) * 2 ^ (8 * k) = (((b.getD k 0).toNat * 2 ^ (8 * k) : Nat) : Int) by simp, IntWalk.u64_in _ (by omega)]
      have hob := u64_or_nat (leS b 0 k) ((b.getD k 0).toNat * 2 ^ (8 * k)) hx64 hlt64
      rw [hor] at hob
      have hq1 : IntKind.u64.wrap ((b.getD k 0).toNat : Int) = ((b.getD k 0).toNat : Int) := IntWalk.u64_in _ (by omega)
      have a1 : (0 : Int) ≤ (k : Int) := by omega
      have a2 : (k : Int) < (b.length : Int) := by omega
      clear hor
      generalize (b.getD k 0).toNat * 2 ^ (8 * k) = z at *
      generalize (b.getD k 0).toNat = y at *
      have HN := Lib.hid (rfl : leS b 0 (k + 1) = leS b 0 (k + 1))
      generalize leS b 0 k = x at *
      go_wp2_with fail
      exact ⟨⟨k + 1, by omega, by first | rfl | go_num, by go_num⟩, by simp [intOf]; omega⟩
    · obtain rfl : k = 8 := by omega
      obtain ⟨x, hx⟩ : ∃ x, leS b 0 8 = x := ⟨_, rfl⟩
      rw [hx]
      have HX := Lib.hid hx
      clear hx
      go_wp2_with fail
      go_ret
      rw [HX.out]
      exact ⟨rfl, rfl⟩
end Go.Proofs.YthjmjccggkejhaaDoor
