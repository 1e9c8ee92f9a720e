/- The document's own answers of layer 2: Text. -/
import Derived.Test.YtgmmkoahnednfaaWrj
import Derived.RegionTactic
import Derived.WalkSpells
import Derived.Deep.Cut
namespace Go.Proofs.Ytgmmkoahnednfaa
open Go.RowKit

set_option maxRecDepth 100000 in
theorem lb_nib (n k : Nat) : lb n (k / 16) / 2 ^ (4 * (k % 16)) % 16 = n / 2 ^ (4 * k) % 16 := by
  have h := lb_div n (k / 16) (4 * (k % 16)) 4 (by omega)
  rw [show (2 : Nat) ^ 4 = 16 from rfl] at h
  rw [h]
  congr 3
  omega
set_option maxRecDepth 100000 in
theorem nib_at (n m : Nat) (hm : m < 64) : bits BinOp.and IntKind.u64 (((lb n (m / 16) : Nat) : Int) / 2 ^ (4 * (m % 16))) 15 = ((dBits n 4 (63 - m) : Nat) : Int) := by
  have hl := lb_lt n (m / 16)
  have hd : lb n (m / 16) / 2 ^ (4 * (m % 16)) < 18446744073709551616 := Nat.lt_of_le_of_lt (Nat.div_le_self _ _) hl
  have h := u64_and_nat (lb n (m / 16) / 2 ^ (4 * (m % 16))) 15 hd (by decide)
  have e : (lb n (m / 16) / 2 ^ (4 * (m % 16))) &&& 15 = dBits n 4 (63 - m) := by
    rw [show (15 : Nat) = 2 ^ 4 - 1 from rfl, Nat.and_two_pow_sub_one_eq_mod, show (2 : Nat) ^ 4 = 16 from rfl, lb_nib]
    unfold dBits dAt
    rw [show 256 - 4 * (63 - m + 1) = 4 * m by omega]
  rw [e] at h
  rw [← h]
  simp
set_option maxRecDepth 100000 in
theorem digit_cut (d : Nat) (hd : d < 16) : (⟨#[48, 49, 50, 51, 52, 53, 54, 55, 56, 57, 97, 98, 99, 100, 101, 102]⟩ : ByteArray).extract d (d + 1) = ⟨#[dgt d]⟩ := by
  have h : ∀ i : Fin 16, (⟨#[48, 49, 50, 51, 52, 53, 54, 55, 56, 57, 97, 98, 99, 100, 101, 102]⟩ : ByteArray).extract i.val (i.val + 1) = ⟨#[dgt i.val]⟩ := by decide +kernel
  exact h ⟨d, hd⟩
/-- Bytes as a string. -/
def sb (l : List UInt8) : ByteArray := ⟨l.toArray⟩
set_option maxRecDepth 100000 in
theorem sb_size (l : List UInt8) : (sb l).size = l.length := by simp [sb, ByteArray.size]
set_option maxRecDepth 100000 in
theorem sb_push (l : List UInt8) (c : UInt8) : sb l ++ ⟨#[c]⟩ = sb (l ++ [c]) := by
  apply ByteArray.ext
  simp [sb]
set_option maxRecDepth 100000 in
theorem sb_toList (l : List UInt8) : (sb l).toList = l := by rw [ByteArray.toList_eq]; simp [sb]

set_option maxRecDepth 100000 in
set_option maxHeartbeats 2000000 in
theorem refText_any (n : Nat) (w : World) : Calls Try.prog 34 #[wv n] w fun e w' => e = .returned (.string (sb (txtL n (List.range 64)))) ∧ Ext w w' := by
  unfold wv
  go_enter Try.func34, Try.ntmps34
  go_wp2_with fail
  have hW : Wd (w.alloc (.cells (wc n) 27)) w.heap.size 27 n := Cs.new w _ _ _ rfl
  have HE0 := Lib.hid ((Ext.refl w).alloc (.cells (wc n) 27))
  have HW := Lib.hid hW
  clear hW
  go_loop [3, 4, 5, 6, 7, 8, 9, 10, 11, 12, 13, 14, 15, 16, 17, 18, 19, 20, 21, 22, 23, 24, 25, 26, 27, 28, 29, 30, 31, 32, 33, 34] (fun o i _ _ _ _ _ _ _ _ _ _ _ _ _ _ _ _ _ _ _ _ _ _ _ _ _ _ _ _ _ _ => ∃ k : Nat, k ≤ 64 ∧ i = .int .i64 ((k : Int) - 1) ∧ o = .string (sb (txtL n (List.range (64 - k))))) (fun _ i _ _ _ _ _ _ _ _ _ _ _ _ _ _ _ _ _ _ _ _ _ _ _ _ _ _ _ _ _ _ => (intOf i + 1).toNat)
  case atStart => exact ⟨64, by omega, rfl, rfl⟩
  case round =>
    obtain ⟨k, hk, rfl, rfl⟩ := hrel
    cases k with
    | zero =>
      go_wp2_with fail
      go_ret
      exact ⟨rfl, HE0.out⟩
    | succ m =>
      rw [show (((m + 1 : Nat) : Int) - 1) = (m : Int) by omega]
      have hge : decide ((0 : Int) ≤ (m : Int)) = true := by simp
      have hc := HW.out.cell (m / 16) (by omega)
      have hl := lb_lt n (m / 16)
      have HB := Lib.hid (nib_at n m (by omega))
      have HS := Lib.hid (show txtL n (List.range (64 - m)) = if dBits n 4 (63 - m) ≠ 0 ∨ txtL n (List.range (64 - (m + 1))) ≠ [] ∨ m = 0 then txtL n (List.range (64 - (m + 1))) ++ [dgt (dBits n 4 (63 - m))] else txtL n (List.range (64 - (m + 1))) by
        rw [show 64 - m = (63 - m) + 1 by omega, List.range_succ, txtL_snoc, show 64 - (m + 1) = 63 - m by omega]
        unfold txtS
        simp only [show dAt 4 (63 - m) = 4 * m by unfold dAt; omega, show (4 * m = 0) = (m = 0) by apply propext; omega])
      have HL : (txtL n (List.range (64 - (m + 1)))).length ≤ 64 := by
        have := txtL_len n (List.range (64 - (m + 1)))
        rw [List.length_range] at this
        omega
      have hd := dBits_lt n 4 (63 - m)
      have a1 : (0 : Int) ≤ (m : Int) / 16 := by omega
      have a2 : (m : Int) / 16 < 4 := by omega
      have a3 : (0 : Int) ≤ (m : Int) % 16 := by omega
      have a4 : (m : Int) % 16 < 16 := by omega
      generalize txtL n (List.range (64 - (m + 1))) = L at *
      have hsz : (sb L).size + 1 ≤ 9223372036854775807 := by rw [sb_size]; omega
      have hst := sb_toList L
      go_upto_region 6 with (fail)
      rw [HB.out]
      clear HB hc hl a1 a2 a3 a4
      generalize dBits n 4 (63 - m) = d at *
      rw [show (2 : Nat) ^ 4 = 16 from rfl] at hd
      have HC := Lib.hid (digit_cut d hd)
      have ed : IntKind.u64.wrap ((d : Int) + 1) = (d : Int) + 1 := IntWalk.u64_in _ (by omega)
      by_cases h0 : d = 0
      · subst h0
        by_cases hL : L = []
        · subst hL
          by_cases hm : m = 0
          · subst hm
            go_wp2_with fail
            go_round
            case rel => exact ⟨0, by omega, rfl, congrArg Value.string (by rw [HS.out, if_pos (by simp), ← sb_push, ← HC.out])⟩
            case measure => simp [intOf]
          · have hm' : decide ((0 : Int) < (m : Int)) = true := by simp; omega
            go_wp2_with fail
            go_round
            case rel => exact ⟨m, by omega, rfl, by rw [HS.out, if_neg (by simp [hm])]⟩
            case measure => simp [intOf]
        · obtain ⟨c, L', rfl⟩ := List.exists_cons_of_ne_nil hL
          go_wp2_with fail
          go_round
          case rel => exact ⟨m, by omega, rfl, congrArg Value.string (by rw [HS.out, if_pos (by simp), ← sb_push, ← HC.out])⟩
          case measure => simp [intOf]
      · have hz : (((d : Nat) : Int) == 0) = false := by simp only [beq_eq_false_iff_ne]; omega
        go_wp2_with fail
        go_round
        case rel => exact ⟨m, by omega, rfl, congrArg Value.string (by rw [HS.out, if_pos (.inl h0), ← sb_push, ← HC.out])⟩
        case measure => simp [intOf]
end Go.Proofs.Ytgmmkoahnednfaa
