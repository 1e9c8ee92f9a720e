/- The document's own answers of layer 2: Sub. -/
import Derived.Test.YtgmmkoahnednfaaRcb
namespace Go.Proofs.Ytgmmkoahnednfaa
open Go.RowKit

/-! ### A difference is what is missing to a sum -/
set_option maxRecDepth 100000 in
theorem sub_add (a b : Nat) (ha : a < M256) (hb : b < M256) : (subN a b + b) % M256 = a := by
  unfold subN M256 at *
  omega
set_option maxRecDepth 100000 in
theorem sub_over (a b : Nat) (ha : a < M256) (hb : b < M256) : decide (M256 ≤ subN a b + b) = und a b := by
  unfold subN und
  by_cases h : a < b
  · rw [show (a + M256 - b) % M256 = a + M256 - b from Nat.mod_eq_of_lt (by omega)]
    simp [h]; omega
  · rw [show (a + M256 - b) % M256 = a - b by unfold M256 at *; omega]
    simp [h]; omega
set_option maxRecDepth 100000 in
theorem bitN_low (s k : Nat) (hk : k < 256) : bitN (s % M256) k = bitN s k := by
  rw [bitN_tb, bitN_tb, M256_pow, Nat.testBit_mod_two_pow]
  simp [hk]
set_option maxRecDepth 100000 in
theorem sub_bit (a b k : Nat) (ha : a < M256) (hb : b < M256) (hk : k < 256) : bitN a k = sumN (subN a b) b k % 2 := by
  rw [← bitN_add]
  conv => lhs; rw [← sub_add a b ha hb]
  exact bitN_low _ _ hk
set_option maxRecDepth 100000 in
theorem ofN_bits256 (d : Nat) (hd : d < M256) : ofN (bitsL d 256) = d := by
  refine word_bits (ofN_lt _) hd fun j hj => ?_
  rw [ofN_tb, bitsL_get, if_pos hj, bitN_tb]
  cases d.testBit j <;> simp [hj]
set_option maxRecDepth 100000 in
theorem sub_top (a b : Nat) (ha : a < M256) (hb : b < M256) : (((carN (subN a b) b 256 : Nat) : Int) == 1) = und a b := by
  have hd : subN a b < M256 := Nat.mod_lt _ (by decide)
  rw [carN_top _ _ 256 (by rw [← M256_pow]; exact hd) (by rw [← M256_pow]; exact hb), ← sub_over a b ha hb]
  have h := top_bit (subN a b) b hd hb
  unfold ovr at h
  rw [← h]
  have := bitN_lt (subN a b + b) 256
  rcases (show bitN (subN a b + b) 256 = 0 ∨ bitN (subN a b + b) 256 = 1 by omega) with h | h <;> rw [h] <;> rfl

set_option maxRecDepth 100000 in
set_option maxHeartbeats 4000000 in
theorem refSub_any (a b : Nat) (w : World) (ha : a < M256) (hb : b < M256) :
    Calls Try.prog 17 #[wv a, wv b] w (RetWB w (subN a b) (und a b)) := by
  have HA := Lib.hid ha
  have HB := Lib.hid hb
  have HT := Lib.hid (sub_top a b ha hb)
  have HBT := Lib.hid (fun k (hk : k < 256) => sub_bit a b k ha hb hk)
  have hd : subN a b < M256 := Nat.mod_lt _ (by decide)
  have HD := Lib.hid hd
  have HOF := Lib.hid (ofN_bits256 _ hd)
  clear ha hb hd
  generalize subN a b = d at *
  generalize und a b = o at *
  have HK0 : Hid (Ks w [(w.heap.size, a), (w.heap.size + 1, b)] (((w.alloc (.cells (wc a) 27)).alloc (.cells (wc b) 27)).alloc (.cells #[.int .u64 0, .int .u64 0, .int .u64 0, .int .u64 0] 27))) :=
    ⟨fun x hx => by
      simp only [List.mem_cons, List.not_mem_nil, or_false] at hx
      rcases hx with rfl | rfl
      · exact ((Cs.new _ _ _ _ rfl).alloc _).alloc _
      · exact (Cs.new _ _ _ _ (by simp)).alloc _, (((Ext.refl w).alloc _).alloc _).alloc _⟩
  have HZ0 : Hid (Cs (((w.alloc (.cells (wc a) 27)).alloc (.cells (wc b) 27)).alloc (.cells #[.int .u64 0, .int .u64 0, .int .u64 0, .int .u64 0] 27)) (w.heap.size + 1 + 1) 27 (wc 0)) := Cs.new _ _ _ _ (by simp)
  unfold wv
  go_enter Try.func17, Try.ntmps17
  go_wp2_with fail
  go_loopw [6, 7, 8, 9, 10, 11, 12, 13, 14, 15, 16, 17, 18, 19, 20, 21, 22, 23, 24, 25, 26, 27, 28, 29, 30] (fun v c _ _ i _ _ _ _ _ _ _ _ _ _ _ _ _ _ _ _ _ _ _ _ wr => ∃ k : Nat, k ≤ 256 ∧ i = .int .i64 k ∧ c = .int .i64 (carN d b k : Nat) ∧ Hid (Ks w [(w.heap.size, a), (w.heap.size + 1, b)] wr) ∧ Hid (Cs wr (w.heap.size + 1 + 1) 27 (wc 0)) ∧ Hid (OwnI wr (w.heap.size + 1 + 1 + 1) 3 v (bitsL d k))) (fun _ _ _ _ i _ _ _ _ _ _ _ _ _ _ _ _ _ _ _ _ _ _ _ _ _ => 256 - (intOf i).toNat)
  case atStart => exact ⟨0, by omega, rfl, by rw [carN_zero]; rfl, HK0, HZ0, World.ownsRow_nil _ _ _ _⟩
  case round =>
    clear HK0 HZ0
    obtain ⟨k, hk, rfl, rfl, HS, HZ, HO⟩ := hrel
    have HS := HS.out
    by_cases hlt : k < 256
    · have hx := bitN_lt a k
      have hy := bitN_lt b k
      have hz := bitN_lt d k
      have hc := carN_lt d b k
      have hbk := HBT.out k hlt
      have hss : sumN d b k = bitN d k + bitN b k + carN d b k := rfl
      have HL := Lib.hid (bitsL_len d k)
      have HSU := Lib.hid (bitsL_succ d k)
      have hbs : w.heap.size + 1 + 1 + 1 ≤ wr.heap.size := HZ.out.lt
      have HS := HS.drew
      have HZ := Lib.hid (Cs.drew HZ.out)
      have HO := Lib.hid (show OwnI wr.drew _ _ _ _ from own_ext HO.out (Ext.refl wr).drew)
      have hm1 : IntKind.i64.wrap ((bitN a k : Int) - (bitN b k : Int)) = (bitN a k : Int) - (bitN b k : Int) := IntWalk.i64_in _ (by omega)
      by_cases hs2 : sumN d b k < 2
      · have HC := Lib.hid (show carN d b (k + 1) = 0 by rw [carN_succ]; omega)
        have hm2 : IntKind.i64.wrap ((bitN a k : Int) - (bitN b k : Int) - (carN d b k : Int)) = ((bitN d k : Nat) : Int) := by
          rw [IntWalk.i64_in _ (by omega)]
          omega
        clear hbk hss hs2
        go_wp2_with fail
        go_region_held3 (fun w' => (w'.cell? ⟨w.heap.size, 0, none⟩ = some (.int .u64 (lb a 0 : Nat)) ∧ w'.cell? ⟨w.heap.size, 1, none⟩ = some (.int .u64 (lb a 1 : Nat)) ∧ w'.cell? ⟨w.heap.size, 2, none⟩ = some (.int .u64 (lb a 2 : Nat)) ∧ w'.cell? ⟨w.heap.size, 3, none⟩ = some (.int .u64 (lb a 3 : Nat))) ∧ (w'.cell? ⟨w.heap.size + 1, 0, none⟩ = some (.int .u64 (lb b 0 : Nat)) ∧ w'.cell? ⟨w.heap.size + 1, 1, none⟩ = some (.int .u64 (lb b 1 : Nat)) ∧ w'.cell? ⟨w.heap.size + 1, 2, none⟩ = some (.int .u64 (lb b 2 : Nat)) ∧ w'.cell? ⟨w.heap.size + 1, 3, none⟩ = some (.int .u64 (lb b 3 : Nat))))
          (exact ⟨(HS.at _ a (by simp)).f4, (HS.at _ b (by simp)).f4⟩)
          (first
            | (go_at_call 60; refine (bit_any _ _ _ (by first | exact HA.out | exact HB.out) (by omega)).mono ?_; rintro e wx ⟨rfl, he⟩; have HS := HS.ext he; have HZ := Lib.hid (Cs.ext HZ.out he); have HO := Lib.hid (show OwnI wx _ _ _ _ from own_ext HO.out he); have hbs : w.heap.size + 1 + 1 + 1 ≤ wx.heap.size := HZ.out.lt; clear he)
            | fail)
        have HO2 := Lib.hid (World.ownsRow.alloc HO.out (.cells #[.int .i64 (bitN d k : Nat)] 3))
        have HS2 := Lib.hid (HS.al (.cells #[.int .i64 (bitN d k : Nat)] 3))
        have HZ2 := Lib.hid (HZ.out.alloc (.cells #[.int .i64 (bitN d k : Nat)] 3))
        clear HO HS HZ hm1 hm2 HBT
        have hN : decide ((bitN d k : Int) < 0) = false := by simp
        go_wp2_with (refine wpList_append_row rfl (.tmp 26) (.tmp 28) 84 rfl (w.heap.size + 1 + 1 + 1) 3 Try.underlying84 (.int .i64 0) 1 8 iinfo rfl (by decide) u6 _ _ rfl HO2.out _ 1 [iv (bitN d k)] rfl (Rs.new _ _ _ _ _ rfl (by decide)) (iv_one [bitN d k]) (by rw [HL.out]; omega) (by decide) (by simp; omega) ?_; intro v' w3 ho3 hg3 _; have HO3 := Lib.hid (OwnI.snoc ho3); have HS3 := Lib.hid (Ks.grownOwn HS2.out HO2.out hg3 (by omega) (fun x hx => by simp only [List.mem_cons, List.not_mem_nil, or_false] at hx; rcases hx with rfl | rfl <;> (dsimp only; omega))); have HZ3 := Lib.hid (show Cs w3 _ _ _ from own_block HO2.out hg3 (by omega) HZ2.out); clear ho3 hg3)
        rw [← HSU.out] at HO3
        go_roundw
        case rel => exact ⟨k + 1, by omega, by go_num, by rw [HC.out]; rfl, HS3, HZ3, HO3⟩
        case measure => simp [intOf]; omega
      · have HC := Lib.hid (show carN d b (k + 1) = 1 by rw [carN_succ]; omega)
        have hm2 : IntKind.i64.wrap ((bitN a k : Int) - (bitN b k : Int) - (carN d b k : Int)) = ((bitN d k : Nat) : Int) - 2 := by
          rw [IntWalk.i64_in _ (by omega)]
          omega
        clear hbk hss hs2
        go_wp2_with fail
        go_region_held3 (fun w' => (w'.cell? ⟨w.heap.size, 0, none⟩ = some (.int .u64 (lb a 0 : Nat)) ∧ w'.cell? ⟨w.heap.size, 1, none⟩ = some (.int .u64 (lb a 1 : Nat)) ∧ w'.cell? ⟨w.heap.size, 2, none⟩ = some (.int .u64 (lb a 2 : Nat)) ∧ w'.cell? ⟨w.heap.size, 3, none⟩ = some (.int .u64 (lb a 3 : Nat))) ∧ (w'.cell? ⟨w.heap.size + 1, 0, none⟩ = some (.int .u64 (lb b 0 : Nat)) ∧ w'.cell? ⟨w.heap.size + 1, 1, none⟩ = some (.int .u64 (lb b 1 : Nat)) ∧ w'.cell? ⟨w.heap.size + 1, 2, none⟩ = some (.int .u64 (lb b 2 : Nat)) ∧ w'.cell? ⟨w.heap.size + 1, 3, none⟩ = some (.int .u64 (lb b 3 : Nat))))
          (exact ⟨(HS.at _ a (by simp)).f4, (HS.at _ b (by simp)).f4⟩)
          (first
            | (go_at_call 60; refine (bit_any _ _ _ (by first | exact HA.out | exact HB.out) (by omega)).mono ?_; rintro e wx ⟨rfl, he⟩; have HS := HS.ext he; have HZ := Lib.hid (Cs.ext HZ.out he); have HO := Lib.hid (show OwnI wx _ _ _ _ from own_ext HO.out he); have hbs : w.heap.size + 1 + 1 + 1 ≤ wx.heap.size := HZ.out.lt; clear he)
            | fail)
        have hm3 : ((bitN d k : Nat) : Int) - 2 + 2 = ((bitN d k : Nat) : Int) := by omega
        have HO2 := Lib.hid (World.ownsRow.alloc HO.out (.cells #[.int .i64 (bitN d k : Nat)] 3))
        have HS2 := Lib.hid (HS.al (.cells #[.int .i64 (bitN d k : Nat)] 3))
        have HZ2 := Lib.hid (HZ.out.alloc (.cells #[.int .i64 (bitN d k : Nat)] 3))
        clear HO HS HZ hm1 hm2 HBT
        have hN : decide ((bitN d k : Int) - 2 < 0) = true := by simp; omega
        go_wp2_with (refine wpList_append_row rfl (.tmp 26) (.tmp 28) 84 rfl (w.heap.size + 1 + 1 + 1) 3 Try.underlying84 (.int .i64 0) 1 8 iinfo rfl (by decide) u6 _ _ rfl HO2.out _ 1 [iv (bitN d k)] rfl (Rs.new _ _ _ _ _ rfl (by decide)) (iv_one [bitN d k]) (by rw [HL.out]; omega) (by decide) (by simp; omega) ?_; intro v' w3 ho3 hg3 _; have HO3 := Lib.hid (OwnI.snoc ho3); have HS3 := Lib.hid (Ks.grownOwn HS2.out HO2.out hg3 (by omega) (fun x hx => by simp only [List.mem_cons, List.not_mem_nil, or_false] at hx; rcases hx with rfl | rfl <;> (dsimp only; omega))); have HZ3 := Lib.hid (show Cs w3 _ _ _ from own_block HO2.out hg3 (by omega) HZ2.out); clear ho3 hg3)
        rw [← HSU.out] at HO3
        go_roundw
        case rel => exact ⟨k + 1, by omega, by go_num, by rw [HC.out]; rfl, HS3, HZ3, HO3⟩
        case measure => simp [intOf]; omega
    · obtain rfl : k = 256 := by omega
      have HR := Lib.hid (show Rs wr 1 u6 (bitsL d 256).length ((bitsL d 256).map iv) from OwnI.rs HO.out)
      have HT2 := HT.out
      clear HO
      go_wp2_with fail
      refine (of_bits u6 (bitsL d 256) _ HR.out (by rw [bitsL_len]; omega)).mono ?_
      rintro e w2 ⟨rfl, he⟩
      rw [HOF.out]
      have HZ := Lib.hid (Cs.ext HZ.out he)
      have HE := Lib.hid (HS.2.trans he)
      clear he HS HR
      go_wp2_with (refine wpList_store_word rfl rfl 27 (.tmp 4) (.tmp 32) rfl winfo (w.heap.size + 1 + 1) (wc 0) d rfl rfl HZ.out rfl ?_; intro w4 k4 g4; have K4 := Lib.hid k4; have HE4 := Lib.hid (HE.out.grown g4 (by omega)); clear k4 g4)
      exact bodyPost_ret (results_word_tmp Try.results17 _ _ (w.heap.size + 1 + 1) _ rfl K4.out Try.underlying27 winfo) rfl ⟨rfl, HD.out, HE4.out⟩
end Go.Proofs.Ytgmmkoahnednfaa
