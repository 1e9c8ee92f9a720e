/- Contracts of package octet: numbers. -/
import Derived.Test.YthnilfneaefnhaaOcv
namespace Go.Proofs.Ythnilfneaefnhaa
open Go.RowKit

/-- The number of a row, the highest byte first, modulo 2^64. -/
def num (l : List UInt8) : Nat := l.foldl (fun x c => (x * 256 + c.toNat) % 18446744073709551616) 0
set_option maxRecDepth 100000 in
theorem num_lt (l : List UInt8) : num l < 18446744073709551616 := by
  unfold num
  rcases List.eq_nil_or_concat l with rfl | ⟨r, c, rfl⟩
  · decide
  · rw [List.concat_eq_append, List.foldl_append]
    exact Nat.mod_lt _ (by decide)
set_option maxRecDepth 100000 in
theorem num_snoc (l : List UInt8) (k : Nat) (hk : k < l.length) : num (l.take (k + 1)) = (num (l.take k) * 256 + (l.getD k 0).toNat) % 18446744073709551616 := by
  unfold num
  rw [List.take_succ_eq_append_getElem hk, List.foldl_append]
  simp [List.getD, List.getElem?_eq_getElem hk]

set_option maxRecDepth 100000 in
theorem shl8_or (x y : Nat) (hy : y < 256) : bits .or .u64 (IntKind.u64.wrap ((x : Int) * 256)) (y : Int) = (((x * 256 + y) % 18446744073709551616 : Nat) : Int) := by
  have e : IntKind.u64.wrap ((x : Int) * 256) = ((x * 256 % 18446744073709551616 : Nat) : Int) := by rw [IntKind.wrap_u64]; omega
  rw [e, u64_or_nat _ _ (by omega) (by omega), nat_join 8 _ _ (by omega) (by omega)]
  omega

/-- The last eight of them, or all. -/
def last8 (l : List UInt8) : List UInt8 := l.drop (l.length - 8)

set_option maxRecDepth 100000 in
set_option maxHeartbeats 400000 in
theorem u64_tail (v : Value) (l : List UInt8) (w : World) (hb : Bs w v l) :
    Calls Try.prog 70 #[v] w fun e w' => e = .returned (.int .u64 (num (last8 l))) ∧ w = w' := by
  have HB := Lib.hid hb
  obtain ⟨A, c, rfl, h1, h2, h3⟩ := hb
  unfold maxLen at h2
  by_cases h8 : 8 < l.length
  · go_enter Try.func70, Try.ntmps70
    go_wp2
    have HL := Lib.hid (show last8 l = l.drop (l.length - 8) from rfl)
    have HN := Lib.hid (show (l.drop (l.length - 8)).length = 8 by simp; omega)
    obtain ⟨b, o, rfl, hc⟩ := h3 (by omega)
    have HC := Lib.hid (show ∀ i, i < 8 → w.cell? ⟨b, o + (l.length - 8) + i, none⟩ = some (bv ((l.drop (l.length - 8)).getD i 0)) by
      intro i hi
      rw [getD_drop, ← hc (l.length - 8 + i) (by omega), Nat.add_assoc])
    clear hc h3
    generalize l.drop (l.length - 8) = t at *
    go_loop [3, 13] (fun x i => ∃ k : Nat, k ≤ 8 ∧ i = .int .i64 k ∧ x = .int .u64 (num (t.take k))) (fun _ i => 8 - (intOf i).toNat)
    case atStart => exact ⟨0, Nat.zero_le _, rfl, rfl⟩
    case round =>
      obtain ⟨k, hk, rfl, rfl⟩ := hrel
      by_cases hlt : k < 8
      · have hck := HC.out k hlt
        unfold bv at hck
        have HS := Lib.hid (num_snoc t k (by have := HN.out; omega))
        have hnl := num_lt (t.take k)
        generalize num (t.take k) = x at *
        generalize t.getD k 0 = y at *
        have hy := y.toNat_lt
        go_wp2
        go_round
        case rel => exact ⟨k + 1, by omega, by go_num, by rw [HS.out, shl8_or _ _ (by omega)]⟩
        case measure => simp [intOf]; omega
      · go_wp2
        go_ret
        rw [HL.out, List.take_of_length_le (by have := HN.out; omega)]
        exact ⟨rfl, rfl⟩
  · go_enter Try.func70, Try.ntmps70
    go_wp2
    have HL := Lib.hid (show last8 l = l by unfold last8; rw [show l.length - 8 = 0 by omega]; rfl)
    go_loop [3, 13] (fun x i => ∃ k : Nat, k ≤ l.length ∧ i = .int .i64 k ∧ x = .int .u64 (num (l.take k))) (fun _ i => l.length - (intOf i).toNat)
    case atStart => exact ⟨0, Nat.zero_le _, rfl, rfl⟩
    case round =>
      obtain ⟨k, hk, rfl, rfl⟩ := hrel
      by_cases hlt : k < l.length
      · obtain ⟨b, o, rfl, hc⟩ := h3 (by omega)
        have hck := hc k hlt
        unfold bv at hck
        clear hc h3
        have HS := Lib.hid (num_snoc l k hlt)
        have hnl := num_lt (l.take k)
        generalize num (l.take k) = x at *
        generalize l.getD k 0 = y at *
        have hy := y.toNat_lt
        go_wp2
        go_round
        case rel => exact ⟨k + 1, by omega, by go_num, by rw [HS.out, shl8_or _ _ (by omega)]⟩
        case measure => simp [intOf]; omega
      · go_wp2
        go_ret
        rw [HL.out, List.take_of_length_le (by omega)]
        exact ⟨rfl, rfl⟩
end Go.Proofs.Ythnilfneaefnhaa
