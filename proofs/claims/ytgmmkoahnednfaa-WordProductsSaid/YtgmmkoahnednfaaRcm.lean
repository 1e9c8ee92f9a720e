/- The document's own answers of layer 2: up, anyFrom. -/
import Derived.Test.YtgmmkoahnednfaaRcb
import Derived.Test.YtgmmkoahnednfaaWso
namespace Go.Proofs.Ytgmmkoahnednfaa
open Go.RowKit

set_option maxRecDepth 100000 in
theorem ofN_up (x b : Nat) (hb : b < 2) : ofN (b :: bitsL x 255) = (2 * x + b) % M256 := by
  refine word_bits (ofN_lt _) (Nat.mod_lt _ (by decide)) fun j hj => ?_
  rw [ofN_tb, M256_pow, Nat.testBit_mod_two_pow]
  cases j with
  | zero =>
    have : (2 * x + b).testBit 0 = decide (b = 1) := by
      rw [Nat.testBit_zero]
      congr 1
      apply propext
      omega
    rw [this]
    simp
  | succ j =>
    have e : (b :: bitsL x 255).getD (j + 1) 0 = bitN x j := by
      show (bitsL x 255).getD j 0 = _
      rw [bitsL_get, if_pos (by omega)]
    have e2 : (2 * x + b).testBit (j + 1) = x.testBit j := by
      rw [Nat.testBit_succ]
      congr 1
      omega
    rw [e, e2, bitN_tb]
    cases x.testBit j <;> simp
def upN (x b : Nat) : Nat := (2 * x + b) % M256
set_option maxRecDepth 100000 in
theorem upN_lt (x b : Nat) : upN x b < M256 := Nat.mod_lt _ (by decide)
set_option maxRecDepth 100000 in
/-- A new block of one number, as a row of the call's own. -/
theorem own_one (w : World) (base g : Nat) (t : TypeId) (v : Value) (hg : g = w.heap.size) (hb : base ≤ g) : (w.alloc (.cells #[v] t)).ownsRow base t 1 (.slice (some ⟨g, 0, none⟩) 1 1) 1 [v] :=
  hg ▸ ⟨rfl, .inr ⟨_, 1, #[v], rfl, hg ▸ hb, heap_alloc_new _ _, Nat.le_refl _, by unfold maxLen; omega, by simp, by simp⟩⟩

set_option maxRecDepth 100000 in
set_option maxHeartbeats 2000000 in
theorem refUp_any (x b : Nat) (w : World) (hx : x < M256) (hb : b < 2) :
    Calls Try.prog 68 #[wv x, .int .i64 b] w fun e w' => e = .returned (wv (upN x b)) ∧ Ext w w' := by
  have HX := Lib.hid hx
  have HU := Lib.hid (ofN_up x b hb)
  clear hx
  unfold wv
  go_enter Try.func68, Try.ntmps68
  have HK : Hid (Ks w [(w.heap.size, x)] ((w.alloc (.cells (wc x) 27)).alloc (.cells #[.int .u64 0, .int .u64 0, .int .u64 0, .int .u64 0] 27))) :=
    ⟨fun y hy => by
      simp only [List.mem_cons, List.not_mem_nil, or_false] at hy
      subst hy
      exact (Cs.new _ _ _ _ rfl).alloc _, ((Ext.refl w).alloc _).alloc _⟩
  have HZ : Hid (Cs ((w.alloc (.cells (wc x) 27)).alloc (.cells #[.int .u64 0, .int .u64 0, .int .u64 0, .int .u64 0] 27)) (w.heap.size + 1) 27 (wc 0)) := Cs.new _ _ _ _ (by simp)
  have HO := Lib.hid (own_one ((w.alloc (.cells (wc x) 27)).alloc (.cells #[.int .u64 0, .int .u64 0, .int .u64 0, .int .u64 0] 27)) (w.heap.size + 2) (w.heap.size + 1 + 1) 3 (.int .i64 (b : Nat)) (by simp) (by omega))
  have HK2 := Lib.hid (HK.out.al (.cells #[.int .i64 (b : Nat)] 3))
  have HZ2 := Lib.hid (HZ.out.alloc (.cells #[.int .i64 (b : Nat)] 3))
  clear HK HZ
  go_wp2_with ((with_reducible refine wpList_load_wordG ?_ 27 25 (.tmp 2) rfl Try.underlying27 winfo w.heap.size x ?_ ?_ ?_); (exact rfl); (exact rfl); (exact HK2.out.at _ _ (by simp)))
  refine (bits_any x 255 _ HX.out (by omega)).mono ?_
  rintro e w3 ⟨v3, rfl, ho3, he3⟩
  have HO3 := Lib.hid (own_ext HO.out he3)
  have HR3 := Lib.hid ho3.rs
  have HZ3 := Lib.hid (HZ2.out.ext he3)
  have HE3 := Lib.hid (HK2.out.2.trans he3)
  have HSZ := Lib.hid (show w.heap.size + 2 ≤ w3.heap.size by have := he3.size; simp at this; omega)
  clear ho3 he3 HO HK2 HZ2
  go_wp2_with (refine wpList_append_row rfl (.tmp 6) (.tmp 8) 84 rfl (w.heap.size + 2) 3 Try.underlying84 (.int .i64 0) 1 8 iinfo rfl (by decide) _ 1 _ rfl HO3.out v3 255 ((bitsL x 255).map iv) rfl (by have := HR3.out; rwa [bitsL_len] at this) (iv_one _) (by omega) (by decide) HSZ.out ?_; intro v' w4 ho4 hg4 _; have HR4 := Lib.hid (Rs.of_own ho4); have HZ4 := Lib.hid (HZ3.out.kept hg4 (fun e => by have := (World.ownsRow.lt HO3.out (w.heap.size + 1) e.symm).1; omega)); have HE4 := Lib.hid (Ext.appendR HE3.out (own_mono HO3.out (by omega)) hg4); clear ho4 hg4)
  refine (of_bits _ (b :: bitsL x 255) _ (by rw [List.length_cons, bitsL_len]; exact HR4.out) (by rw [List.length_cons, bitsL_len]; omega)).mono ?_
  rintro e w5 ⟨rfl, he5⟩
  rw [HU.out]
  have HZ5 := Lib.hid (HZ4.out.ext he5)
  have HE5 := Lib.hid (HE4.out.trans he5)
  clear he5
  go_wp2_with (refine wpList_store_word rfl rfl 27 (.tmp 4) (.tmp 10) rfl winfo (w.heap.size + 1) (wc 0) (upN x b) rfl rfl HZ5.out rfl ?_; intro w6 k6 g6; have K6 := Lib.hid k6; have HE6 := Lib.hid (HE5.out.grown g6 (by omega)); clear k6 g6)
  exact bodyPost_ret (results_word Try.results68 _ _ (w.heap.size + 1) _ rfl K6.out Try.underlying27 winfo) rfl ⟨rfl, HE6.out⟩

/-- Is there a bit from one on? -/
def anyL (l : List Nat) (m : Nat) : Bool := l.zipIdx.any fun p => decide (m ≤ p.2) && p.1 == 1
def anyT (X k m : Nat) : Bool := (List.range k).any fun j => decide (m ≤ j) && bitN X j == 1
set_option maxRecDepth 100000 in
theorem anyT_succ (X k m : Nat) : anyT X (k + 1) m = (anyT X k m || (decide (m ≤ k) && bitN X k == 1)) := by simp [anyT, List.range_succ]

set_option maxRecDepth 100000 in
set_option maxHeartbeats 2000000 in
theorem refAny_any (v : Value) (X M m : Nat) (w : World) (h : Rs w 1 v M ((bitsL X M).map iv)) (hm : m ≤ 1000) (hM : M ≤ 1000) :
    Calls Try.prog 65 #[v, .int .i64 m] w fun e w' => e = .returned (.bool (anyT X M m)) ∧ Ext w w' := by
  obtain ⟨_, A, c, rfl, hc1, hc2, hcell⟩ := h
  have HC := Lib.hid hcell
  unfold maxLen at hc2
  clear hcell
  go_enter Try.func65, Try.ntmps65
  go_wp2_with fail
  go_loop [5, 6, 9, 10, 11, 12, 13, 14, 15, 16, 17, 18, 19, 20, 21] (fun _ _ i _ _ _ _ _ _ _ _ _ _ _ _ => ∃ k : Nat, k ≤ M ∧ i = .int .i64 k ∧ Hid (anyT X k m = false)) (fun _ _ i _ _ _ _ _ _ _ _ _ _ _ _ => M - (intOf i).toNat)
  case atStart => exact ⟨0, by omega, rfl, Lib.hid rfl⟩
  case round =>
    obtain ⟨k, hk, rfl, HF⟩ := hrel
    by_cases hlt : k < M
    · obtain ⟨b, o, rfl, hc⟩ := HC.out (by omega)
      have hcell := hc k (iv (bitN X k)) (by simp [bitsL, hlt])
      unfold iv at hcell
      clear hc
      have HS := Lib.hid (anyT_succ X k m)
      have hb := bitN_lt X k
      by_cases hmk : m ≤ k
      · have d1 : decide ((m : Int) ≤ (k : Int)) = true := by simp; omega
        by_cases hb1 : bitN X k = 1
        · rw [hb1] at hcell
          have HT := Lib.hid (show anyT X M m = true by
            unfold anyT
            rw [List.any_eq_true]
            exact ⟨k, by simpa using hlt, by simp [hmk, hb1]⟩)
          clear hb1 hb
          go_wp2_with fail
          go_ret
          exact ⟨by rw [HT.out]; rfl, Ext.refl w⟩
        · have hb0 : bitN X k = 0 := by omega
          rw [hb0] at hcell
          have HN := Lib.hid (show anyT X (k + 1) m = false by rw [HS.out, HF.out, hb0]; simp)
          clear hb1 hb0 hb
          go_wp2_with fail
          go_round
          case rel => exact ⟨k + 1, by omega, by go_num, HN⟩
          case measure => simp [intOf]; omega
      · have HN := Lib.hid (show anyT X (k + 1) m = false by rw [HS.out, HF.out]; simp [hmk])
        go_wp2_with fail
        go_round
        case rel => exact ⟨k + 1, by omega, by go_num, HN⟩
        case measure => simp [intOf]; omega
    · obtain rfl : k = M := by omega
      go_wp2_with fail
      go_ret
      exact ⟨by rw [HF.out]; rfl, Ext.refl w⟩
end Go.Proofs.Ytgmmkoahnednfaa
