/- The document's own answers of layer 2: Add. The document's own answers of layer 2: Sub. Contract of Sum: the sum of many words. The document's own answers of layer 2: Cmp. -/
import Derived.Test.YtjampleddeidaaaRbd
import Derived.Test.YtjampleddeidaaaWrl
import Derived.Test.YtjampleddeidaaaWre
namespace Go.Proofs.Ytjampleddeidaaa
open Go.RowKit

/-- A word's block, which at last holds the word r. -/
def Rz (W : World) (g : Nat) (c : Bool) (r : Nat) : Prop := ∃ cs, Cs W g 30 cs ∧ cs.size = 4 ∧ (c = true → cs = wc r)
set_option maxRecDepth 100000 in
theorem Rz.ext {W W' : World} {g : Nat} {c c' : Bool} {r : Nat} (h : Rz W g c r) (he : Ext W W') (hc : c' = true → c = true) : Rz W' g c' r := by
  obtain ⟨cs, h1, h2, h3⟩ := h
  exact ⟨cs, h1.ext he, h2, fun e => h3 (hc e)⟩
set_option maxRecDepth 100000 in
theorem ofN_bitsL (s : Nat) : ofN (bitsL s 257) = s % M256 := by
  refine word_bits (ofN_lt _) (Nat.mod_lt _ (by decide)) fun j hj => ?_
  rw [ofN_tb, bitsL_get, if_pos (by omega), M256_pow, Nat.testBit_mod_two_pow, bitN_tb]
  cases s.testBit j <;> simp [hj]
set_option maxRecDepth 100000 in
theorem top_bit (a b : Nat) (ha : a < M256) (hb : b < M256) : ((bitN (a + b) 256 : Nat) == 1) = ovr a b := by
  unfold bitN ovr
  rw [← M256_pow]
  by_cases h : M256 ≤ a + b
  · have : (a + b) / M256 = 1 := by
      rw [Nat.div_eq_iff (by decide)]
      unfold M256 at *
      omega
    rw [this]
    simp [h]
  · rw [Nat.div_eq_of_lt (by omega)]
    simp [h]

end Go.Proofs.Ytjampleddeidaaa
namespace Go.Proofs.Ytjampleddeidaaa
open Go.RowKit

/-! ### A difference is what is missing to a sum -/
set_option maxRecDepth 100000 in
theorem sub_add (a b : Nat) (ha : a < M256) (hb : b < M256) : (subN a b + b) % M256 = a := by
  unfold subN M256 at *
  omega
set_option maxRecDepth 100000 in
theorem sub_over (a b : Nat) (ha : a < M256) (hb : b < M256) : decide (M256 ≤ subN a b + b) = und a b := by
  unfold subN und
  by_cases h : a < b
  · rw [show (a + M256 - b) % M256 = a + M256 - b from Nat.mod_eq_of_lt (by omega)]
    simp [h]; omega
  · rw [show (a + M256 - b) % M256 = a - b by unfold M256 at *; omega]
    simp [h]; omega
set_option maxRecDepth 100000 in
theorem bitN_low (s k : Nat) (hk : k < 256) : bitN (s % M256) k = bitN s k := by
  rw [bitN_tb, bitN_tb, M256_pow, Nat.testBit_mod_two_pow]
  simp [hk]
set_option maxRecDepth 100000 in
theorem sub_bit (a b k : Nat) (ha : a < M256) (hb : b < M256) (hk : k < 256) : bitN a k = sumN (subN a b) b k % 2 := by
  rw [← bitN_add]
  conv => lhs; rw [← sub_add a b ha hb]
  exact bitN_low _ _ hk
set_option maxRecDepth 100000 in
theorem ofN_bits256 (d : Nat) (hd : d < M256) : ofN (bitsL d 256) = d := by
  refine word_bits (ofN_lt _) hd fun j hj => ?_
  rw [ofN_tb, bitsL_get, if_pos hj, bitN_tb]
  cases d.testBit j <;> simp [hj]
set_option maxRecDepth 100000 in
theorem sub_top (a b : Nat) (ha : a < M256) (hb : b < M256) : (((carN (subN a b) b 256 : Nat) : Int) == 1) = und a b := by
  have hd : subN a b < M256 := Nat.mod_lt _ (by decide)
  rw [carN_top _ _ 256 (by rw [← M256_pow]; exact hd) (by rw [← M256_pow]; exact hb), ← sub_over a b ha hb]
  have h := top_bit (subN a b) b hd hb
  unfold ovr at h
  rw [← h]
  have := bitN_lt (subN a b + b) 256
  rcases (show bitN (subN a b + b) 256 = 0 ∨ bitN (subN a b + b) 256 = 1 by omega) with h | h <;> rw [h] <;> rfl

end Go.Proofs.Ytjampleddeidaaa
namespace Go.Proofs.Ytjampleddeidaaa
open Go.RowKit

/-- The slice v reads as the words l. -/
def Ws (w : World) (v : Value) (l : List Nat) : Prop :=
  ∃ A c, v = .slice A l.length c ∧ l.length ≤ c ∧ c ≤ maxLen ∧ (0 < l.length → ∃ b o, A = some ⟨b, o, none⟩ ∧ ∀ i, i < l.length → ∀ j, j < 4 → w.cell? ⟨b, o + i * 4 + j, none⟩ = some (.int .u64 (lb (l.getD i 0) j : Nat))) ∧ ∀ i, i < l.length → l.getD i 0 < M256

set_option maxRecDepth 100000 in
theorem Ws.ext {w w' : World} {v : Value} {l : List Nat} (h : Ws w v l) (he : Ext w w') : Ws w' v l := by
  obtain ⟨A, c, e, h1, h2, h3, h4⟩ := h
  refine ⟨A, c, e, h1, h2, fun hp => ?_, h4⟩
  obtain ⟨b, o, ea, hc⟩ := h3 hp
  exact ⟨b, o, ea, fun i hi j hj => he.cell (hc i hi j hj)⟩

/-- The sum of the words, and whether it did not fit, one by one. -/
def sumS (s : Nat × Bool) (x : Nat) : Nat × Bool := (addN s.1 x, s.2 || ovr s.1 x)
def sumW (l : List Nat) : Nat × Bool := l.foldl sumS (0, false)
set_option maxRecDepth 100000 in
theorem sumW_take (l : List Nat) (k : Nat) (h : k < l.length) : sumW (l.take (k + 1)) = sumS (sumW (l.take k)) (l.getD k 0) := by
  unfold sumW
  rw [List.take_succ_eq_append_getElem h, List.foldl_append]
  simp [List.getD, List.getElem?_eq_getElem h]
set_option maxRecDepth 100000 in
theorem sumW_lt (l : List Nat) : (sumW l).1 < M256 := by
  unfold sumW
  suffices h : ∀ s : Nat × Bool, s.1 < M256 → (l.foldl sumS s).1 < M256 from h (0, false) (by decide)
  induction l with
  | nil => exact fun s h => h
  | cons x l ih => exact fun s _ => ih _ (addN_lt _ _)

end Go.Proofs.Ytjampleddeidaaa
namespace Go.Proofs.Ytjampleddeidaaa
open Go.RowKit

set_option maxRecDepth 100000 in
theorem cmp_bit (a b k : Nat) : cmpN (a % 2 ^ (k + 1)) (b % 2 ^ (k + 1)) = if bitN a k < bitN b k then -1 else if bitN b k < bitN a k then 1 else cmpN (a % 2 ^ k) (b % 2 ^ k) := by
  have e (n : Nat) : n % 2 ^ (k + 1) = n % 2 ^ k + 2 ^ k * bitN n k := by
    rw [Nat.pow_succ, Nat.mod_mul]
    rfl
  rw [e, e]
  have ha := Nat.mod_lt a (show 0 < 2 ^ k from Nat.two_pow_pos k)
  have hb := Nat.mod_lt b (show 0 < 2 ^ k from Nat.two_pow_pos k)
  have hx := bitN_lt a k
  have hy := bitN_lt b k
  unfold cmpN
  rcases (show bitN a k = 0 ∨ bitN a k = 1 by omega) with h | h <;> rcases (show bitN b k = 0 ∨ bitN b k = 1 by omega) with h' | h' <;> rw [h, h'] <;> simp <;> (try omega)

set_option maxRecDepth 100000 in
set_option maxHeartbeats 4000000 in
theorem refCmp_any (a b : Nat) (w : World) (ha : a < M256) (hb : b < M256) :
    Calls Try.prog 44 #[wv a, wv b] w fun e w' => e = .returned (.int .i64 (cmpN a b)) ∧ Ext w w' := by
  have HA := Lib.hid ha
  have HB := Lib.hid hb
  clear ha hb
  unfold wv
  go_enter Try.func44, Try.ntmps44
  have HK0 : Hid (Ks w [(w.heap.size, a), (w.heap.size + 1, b)] ((w.alloc (.cells (wc a) 30)).alloc (.cells (wc b) 30))) :=
    ⟨fun x hx => by
      simp only [List.mem_cons, List.not_mem_nil, or_false] at hx
      rcases hx with rfl | rfl
      · exact ((Cs.new _ _ _ _ rfl).alloc _)
      · exact (Cs.new _ _ _ _ (by simp)), (((Ext.refl w).alloc _).alloc _)⟩
  go_wp2_with fail
  go_loopw [5, 6, 7, 8, 9, 10, 11, 12, 13, 14, 15, 16, 17, 18, 19, 20, 21, 22, 23] (fun i _ _ _ _ _ _ _ _ _ _ _ _ _ _ _ _ _ _ wr => ∃ k : Nat, k ≤ 256 ∧ i = .int .i64 ((k : Int) - 1) ∧ Hid (Ks w [(w.heap.size, a), (w.heap.size + 1, b)] wr) ∧ Hid (cmpN a b = cmpN (a % 2 ^ k) (b % 2 ^ k))) (fun i _ _ _ _ _ _ _ _ _ _ _ _ _ _ _ _ _ _ _ => (intOf i + 1).toNat)
  case atStart =>
    refine ⟨256, by omega, rfl, HK0, ?_⟩
    show _ = _
    rw [← M256_pow, Nat.mod_eq_of_lt HA.out, Nat.mod_eq_of_lt HB.out]
  case round =>
    clear HK0
    obtain ⟨k, hk, rfl, HS, HC⟩ := hrel
    have HS := HS.out
    by_cases hlt : 0 < k
    · obtain ⟨j, rfl⟩ : ∃ j, k = j + 1 := ⟨k - 1, by omega⟩
      rw [show ((j + 1 : Nat) : Int) - 1 = (j : Int) by omega]
      have HD := Lib.hid (HC.out.trans (cmp_bit a b j))
      have hi1 : (0 : Int) ≤ (j : Int) := by omega
      clear HC
      have HS := HS.drew
      go_wp2_with fail
      go_region_held3 (fun w' => (w'.cell? ⟨w.heap.size, 0, none⟩ = some (.int .u64 (lb a 0 : Nat)) ∧ w'.cell? ⟨w.heap.size, 1, none⟩ = some (.int .u64 (lb a 1 : Nat)) ∧ w'.cell? ⟨w.heap.size, 2, none⟩ = some (.int .u64 (lb a 2 : Nat)) ∧ w'.cell? ⟨w.heap.size, 3, none⟩ = some (.int .u64 (lb a 3 : Nat))) ∧ (w'.cell? ⟨w.heap.size + 1, 0, none⟩ = some (.int .u64 (lb b 0 : Nat)) ∧ w'.cell? ⟨w.heap.size + 1, 1, none⟩ = some (.int .u64 (lb b 1 : Nat)) ∧ w'.cell? ⟨w.heap.size + 1, 2, none⟩ = some (.int .u64 (lb b 2 : Nat)) ∧ w'.cell? ⟨w.heap.size + 1, 3, none⟩ = some (.int .u64 (lb b 3 : Nat))))
        (exact ⟨(HS.at _ a (by simp)).f4, (HS.at _ b (by simp)).f4⟩)
        (first
          | (go_at_call 60; refine (bit_any _ _ _ (by first | exact HA.out | exact HB.out) (by omega)).mono ?_; rintro e wx ⟨rfl, he⟩; have HS := HS.ext he; clear he)
          | fail)
      by_cases h1 : bitN a j < bitN b j
      · have g1 : decide ((bitN a j : Int) < (bitN b j : Int)) = true := by simpa using h1
        have HV := Lib.hid (show cmpN a b = -1 by rw [HD.out, if_pos h1])
        clear HD
        go_wp2_with fail
        go_ret
        exact ⟨ret_int HV.out.symm, HS.2⟩
      · have g1 : decide ((bitN a j : Int) < (bitN b j : Int)) = false := by simpa using h1
        by_cases h2 : bitN b j < bitN a j
        · have g2 : decide ((bitN b j : Int) < (bitN a j : Int)) = true := by simpa using h2
          have HV := Lib.hid (show cmpN a b = 1 by rw [HD.out, if_neg h1, if_pos h2])
          clear HD
          go_wp2_with fail
          go_ret
          exact ⟨ret_int HV.out.symm, HS.2⟩
        · have g2 : decide ((bitN b j : Int) < (bitN a j : Int)) = false := by simpa using h2
          have HV := Lib.hid (show cmpN a b = cmpN (a % 2 ^ j) (b % 2 ^ j) by rw [HD.out, if_neg h1, if_neg h2])
          clear HD
          go_wp2_with fail
          refine ⟨⟨j, by omega, rfl, HS, HV⟩, by simp [intOf]⟩
    · obtain rfl : k = 0 := by omega
      have HC' := Lib.hid (show cmpN a b = 0 by rw [HC.out]; simp [cmpN, Nat.mod_one])
      clear HC
      go_wp2_with fail
      go_ret
      exact ⟨ret_int HC'.out.symm, HS.2⟩
end Go.Proofs.Ytjampleddeidaaa
