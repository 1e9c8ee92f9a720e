/- The document's own answers of layer 2: Add. The document's own answers of layer 2: Sub. Contract of Sum: the sum of many words. The document's own answers of layer 2: Cmp. -/
import Derived.Test.YtjampleddeidaaaQRbd
import Derived.Test.YtjampleddeidaaaQWrl
import Derived.Test.YtjampleddeidaaaQWre
namespace Go.Proofs.Ytjampleddeidaaa
open Go.RowKit

end Go.Proofs.Ytjampleddeidaaa
namespace Go.Proofs.Ytjampleddeidaaa
open Go.RowKit

end Go.Proofs.Ytjampleddeidaaa
namespace Go.Proofs.Ytjampleddeidaaa
open Go.RowKit

end Go.Proofs.Ytjampleddeidaaa
namespace Go.Proofs.Ytjampleddeidaaa
open Go.RowKit

set_option maxRecDepth 100000 in
theorem cmp_bit (a b k : Nat) : cmpN (a % 2 ^ (k + 1)) (b % 2 ^ (k + 1)) = if bitN a k < bitN b k then -1 else if bitN b k < bitN a k then 1 else cmpN (a % 2 ^ k) (b % 2 ^ k) := by
  have e (n : Nat) : n % 2 ^ (k + 1) = n % 2 ^ k + 2 ^ k * bitN n k := by
    rw [Nat.pow_succ, Nat.mod_mul]
    rfl
  rw [e, e]
  have ha := Nat.mod_lt a (show 0 < 2 ^ k from Nat.two_pow_pos k)
  have hb := Nat.mod_lt b (show 0 < 2 ^ k from Nat.two_pow_pos k)
  have hx := bitN_lt a k
  have hy := bitN_lt b k
  unfold cmpN
  rcases (show bitN a k = 0 ∨ bitN a k = 1 by omega) with h | h <;> rcases (show bitN b k = 0 ∨ bitN b k = 1 by omega) with h' | h' <;> rw [h, h'] <;> simp <;> (try omega)

set_option maxRecDepth 100000 in
set_option maxHeartbeats 4000000 in
theorem refCmp_any (a b : Nat) (w : World) (ha : a < M256) (hb : b < M256) :
    Calls Try.prog 44 #[wv a, wv b] w fun e w' => e = .returned (.int .i64 (cmpN a b)) ∧ Ext w w' := by
  have HA := Lib.hid ha
  have HB := Lib.hid hb
  clear ha hb
  unfold wv
  go_enter Try.func44, Try.ntmps44
  have HK0 : Hid (Ks w [(w.heap.size, a), (w.heap.size + 1, b)] ((w.alloc (.cells (wc a) 30)).alloc (.cells (wc b) 30))) :=
    ⟨fun x hx => by
      simp only [List.mem_cons, List.not_mem_nil, or_false] at hx
      rcases hx with rfl | rfl
      · exact ((Cs.new _ _ _ _ rfl).alloc _)
      · exact (Cs.new _ _ _ _ (by simp)), (((Ext.refl w).alloc _).alloc _)⟩
  go_wp2_with fail
  go_loopw [5, 6, 7, 8, 9, 10, 11, 12, 13, 14, 15, 16, 17, 18, 19, 20, 21, 22, 23] (fun i _ _ _ _ _ _ _ _ _ _ _ _ _ _ _ _ _ _ wr => ∃ k : Nat, k ≤ 256 ∧ i = .int .i64 ((k : Int) - 1) ∧ Hid (Ks w [(w.heap.size, a), (w.heap.size + 1, b)] wr) ∧ Hid (cmpN a b = cmpN (a % 2 ^ k) (b % 2 ^ k))) (fun i _ _ _ _ _ _ _ _ _ _ _ _ _ _ _ _ _ _ _ => (intOf i + 1).toNat)
  case atStart =>
    refine ⟨256, by omega, rfl, HK0, ?_⟩
    show _ = _
    rw [← M256_pow, Nat.mod_eq_of_lt HA.out, Nat.mod_eq_of_lt HB.out]
  case round =>
    clear HK0
    obtain ⟨k, hk, rfl, HS, HC⟩ := hrel
    have HS := HS.out
    by_cases hlt : 0 < k
    · obtain ⟨j, rfl⟩ : ∃ j, k = j + 1 := ⟨k - 1, by omega⟩
      rw [show ((j + 1 : Nat) : Int) - 1 = (j : Int) by omega]
      have HD := Lib.hid (HC.out.trans (cmp_bit a b j))
      have hi1 : (0 : Int) ≤ (j : Int) := by omega
      clear HC
      have HS := HS.drew
      go_wp2_with fail
      go_region_held3 (fun w' => (w'.cell? ⟨w.heap.size, 0, none⟩ = some (.int .u64 (lb a 0 : Nat)) ∧ w'.cell? ⟨w.heap.size, 1, none⟩ = some (.int .u64 (lb a 1 : Nat)) ∧ w'.cell? ⟨w.heap.size, 2, none⟩ = some (.int .u64 (lb a 2 : Nat)) ∧ w'.cell? ⟨w.heap.size, 3, none⟩ = some (.int .u64 (lb a 3 : Nat))) ∧ (w'.cell? ⟨w.heap.size + 1, 0, none⟩ = some (.int .u64 (lb b 0 : Nat)) ∧ w'.cell? ⟨w.heap.size + 1, 1, none⟩ = some (.int .u64 (lb b 1 : Nat)) ∧ w'.cell? ⟨w.heap.size + 1, 2, none⟩ = some (.int .u64 (lb b 2 : Nat)) ∧ w'.cell? ⟨w.heap.size + 1, 3, none⟩ = some (.int .u64 (lb b 3 : Nat))))
        (exact ⟨(HS.at _ a (by simp)).f4, (HS.at _ b (by simp)).f4⟩)
        (first
          | (go_at_call 60; refine (bit_any _ _ _ (by first | exact HA.out | exact HB.out) (by omega)).mono ?_; rintro e wx ⟨rfl, he⟩; have HS := HS.ext he; clear he)
          | fail)
      by_cases h1 : bitN a j < bitN b j
      · have g1 : decide ((bitN a j : Int) < (bitN b j : Int)) = true := by simpa using h1
        have HV := Lib.hid (show cmpN a b = -1 by rw [HD.out, if_pos h1])
        clear HD
        go_wp2_with fail
        go_ret
        exact ⟨ret_int HV.out.symm, HS.2⟩
      · have g1 : decide ((bitN a j : Int) < (bitN b j : Int)) = false := by simpa using h1
        by_cases h2 : bitN b j < bitN a j
        · have g2 : decide ((bitN b j : Int) < (bitN a j : Int)) = true := by simpa using h2
          have HV := Lib.hid (show cmpN a b = 1 by rw [HD.out, if_neg h1, if_pos h2])
          clear HD
          go_wp2_with fail
          go_ret
          exact ⟨ret_int HV.out.symm, HS.2⟩
        · have g2 : decide ((bitN b j : Int) < (bitN a j : Int)) = false := by simpa using h2
          have HV := Lib.hid (show cmpN a b = cmpN (a % 2 ^ j) (b % 2 ^ j) by rw [HD.out, if_neg h1, if_neg h2])
          clear HD
          go_wp2_with fail
          refine ⟨⟨j, by omega, rfl, HS, HV⟩, by simp [intOf]⟩
    · obtain rfl : k = 0 := by omega
      have HC' := Lib.hid (show cmpN a b = 0 by rw [HC.out]; simp [cmpN, Nat.mod_one])
      clear HC
      go_wp2_with fail
      go_ret
      exact ⟨ret_int HC'.out.symm, HS.2⟩
end Go.Proofs.Ytjampleddeidaaa
