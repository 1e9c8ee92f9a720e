/- The document's own answers of layer 2: Mul. -/
import Derived.Test.YtgmmkoahnednfaaRcm
import Derived.Test.YtgmmkoahnednfaaWrn
namespace Go.Proofs.Ytgmmkoahnednfaa
open Go.RowKit

set_option maxRecDepth 100000 in
theorem list_nat_ext {l r : List Nat} (hl : l.length = r.length) (h : ∀ j, l.getD j 0 = r.getD j 0) : l = r := by
  apply List.ext_getElem hl
  intro i h1 h2
  have := h i
  rwa [List.getD, List.getElem?_eq_getElem h1, List.getD, List.getElem?_eq_getElem h2] at this
set_option maxRecDepth 100000 in
theorem bitN_shift (a k j : Nat) : bitN (a * 2 ^ k) j = if j < k then 0 else bitN a (j - k) := by
  rw [bitN_tb, bitN_tb, Nat.testBit_mul_two_pow]
  by_cases h : j < k
  · rw [if_pos h]
    simp; omega
  · rw [if_neg h]
    simp [show k ≤ j by omega]
set_option maxRecDepth 100000 in
theorem bitsL_shift (a k : Nat) : List.replicate k 0 ++ bitsL a 256 = bitsL (a * 2 ^ k) (k + 256) := by
  apply list_nat_ext (by simp [bitsL_len])
  intro j
  rw [bitsL_get, bitN_shift, List.getD_eq_getElem?_getD, List.getElem?_append, List.length_replicate]
  by_cases h : j < k
  · rw [if_pos h, if_pos (by omega), if_pos h, List.getElem?_replicate, if_pos h]; rfl
  · rw [if_neg h, if_neg h, ← List.getD_eq_getElem?_getD, bitsL_get]
    by_cases h2 : j - k < 256
    · rw [if_pos h2, if_pos (by omega)]
    · rw [if_neg h2, if_neg (by omega)]
set_option maxRecDepth 100000 in
theorem bitN_over (X m : Nat) (h : X < 2 ^ m) : bitN X m = 0 := by
  unfold bitN
  rw [Nat.div_eq_of_lt h]
set_option maxRecDepth 100000 in
theorem bitsL_pad (X m : Nat) (h : X < 2 ^ m) : bitsL X m ++ [0] = bitsL X (m + 1) := by rw [bitsL_succ, bitN_over X m h]
set_option maxRecDepth 100000 in
theorem ofN_bits (X m : Nat) (hm : 256 ≤ m) : ofN (bitsL X m) = X % M256 := by
  refine word_bits (ofN_lt _) (Nat.mod_lt _ (by decide)) fun j hj => ?_
  rw [ofN_tb, bitsL_get, if_pos (by omega), M256_pow, Nat.testBit_mod_two_pow, bitN_tb]
  cases X.testBit j <;> simp [hj]
set_option maxRecDepth 100000 in
theorem anyT_iff (X N : Nat) (h : X < 2 ^ N) : anyT X N 256 = decide (M256 ≤ X) := by
  rw [M256_pow, Bool.eq_iff_iff, decide_eq_true_eq]
  unfold anyT
  rw [List.any_eq_true]
  constructor
  · rintro ⟨j, hj, hp⟩
    simp only [Bool.and_eq_true, decide_eq_true_eq, beq_iff_eq] at hp
    have h1 : X.testBit j = true := by
      have := bitN_tb X j
      rw [hp.2] at this
      cases hq : X.testBit j with
      | true => rfl
      | false => rw [hq] at this; cases this
    have := Nat.ge_two_pow_of_testBit h1
    exact Nat.le_trans (Nat.pow_le_pow_right (by decide) hp.1) this
  · intro hle
    obtain ⟨j, hj, hb⟩ := Nat.exists_ge_and_testBit_of_ge_two_pow hle
    refine ⟨j, ?_, ?_⟩
    · rw [List.mem_range]
      rcases Nat.lt_or_ge j N with h' | h'
      · exact h'
      · have h2 := Nat.ge_two_pow_of_testBit hb
        have h3 : 2 ^ N ≤ 2 ^ j := Nat.pow_le_pow_right (by decide) h'
        exact absurd (Nat.le_trans h3 h2) (Nat.not_le.2 h)
    · simp [hj, bitN_tb, hb]
set_option maxRecDepth 100000 in
theorem mulbit_step (a b k : Nat) : a * (b % 2 ^ (k + 1)) = a * (b % 2 ^ k) + bitN b k * (a * 2 ^ k) := by
  rw [Nat.pow_succ, Nat.mod_mul, Nat.mul_add]
  unfold bitN
  congr 1
  ac_rfl
set_option maxRecDepth 100000 in
theorem bitsL_zero (m : Nat) : bitsL 0 m = List.replicate m 0 := by
  induction m with
  | zero => rfl
  | succ m ih =>
    rw [bitsL_succ, ih, List.replicate_succ']
    simp [bitN]
set_option maxRecDepth 100000 in
theorem bitsL_take (X m : Nat) : (bitsL X (m + 1)).take m = bitsL X m := by
  rw [bitsL_succ]
  exact List.take_left' (bitsL_len X m)
set_option maxRecDepth 100000 in
theorem mul_lt (a b k N : Nat) (ha : a < M256) (hk : k ≤ 256) (hN : 512 < N) : a * (b % 2 ^ k) < 2 ^ N ∧ a * 2 ^ k < 2 ^ (k + 256) := by
  rw [M256_pow] at ha
  have h1 : b % 2 ^ k < 2 ^ k := Nat.mod_lt _ (Nat.two_pow_pos k)
  obtain ⟨p, hp⟩ : ∃ p, p = 256 := ⟨_, rfl⟩
  rw [← hp] at ha hk
  have h2 : 2 ^ k ≤ 2 ^ p := Nat.pow_le_pow_right (by decide) hk
  constructor
  · have h3 : a * (b % 2 ^ k) ≤ 2 ^ p * 2 ^ p := Nat.mul_le_mul (by omega) (by omega)
    rw [← Nat.pow_add] at h3
    exact Nat.lt_of_le_of_lt h3 (Nat.pow_lt_pow_right (by decide) (by omega))
  · rw [← hp, Nat.add_comm, Nat.pow_add]
    exact Nat.mul_lt_mul_of_pos_right ha (Nat.two_pow_pos k)

set_option maxRecDepth 100000 in
theorem wpList_make_ints {w : World} {ops : Array Oper} {rest : List Oper} {o : Oper} {a : Act} {Q : Exit → Act → World → Prop} (hg : Region.wanted o (yielded ops a.tmps) = true) (l c : Operand) (hop : o.op = .makeSlice 84 l c) (n : Nat) (hn : n ≤ 1000)
    (hl : a.eval l = .int .i64 (n : Int)) (hc : a.eval c = .int .i64 (n : Int)) (h : wpList Try.prog ops Q rest (a.put o.dst (.slice (some ⟨w.heap.size, 0, none⟩) n n)) (w.alloc (.cells (Array.replicate n (iv 0)) 3))) : wpList Try.prog ops Q (o :: rest) a w := by
  refine wpList_step fun K hK => ?_
  rw [if_pos hg]
  have hrun : (execOp a.eval o).run Try.prog w = .ok (.value (.slice (some ⟨w.heap.size, 0, none⟩) n n)) (w.alloc (.cells (Array.replicate n (iv 0)) 3)) := by
    simp only [execOp, hop, hl, hc]
    simp [go_sem, run_make_ints n w hn]
  unfold Oper.wp
  rw [hrun]
  exact hK _ _ h
set_option maxRecDepth 100000 in
theorem own_zeros (w : World) (n base g : Nat) (hg : g = w.heap.size) (hb : base ≤ g) (hn : n ≤ 1000) : (w.alloc (.cells (Array.replicate n (iv 0)) 3)).ownsRow base 3 1 (.slice (some ⟨g, 0, none⟩) n n) n ((List.replicate n 0).map iv) := by
  subst hg
  refine ⟨by simp, .inr ⟨_, n, Array.replicate n (iv 0), rfl, hb, heap_alloc_new _ _, Nat.le_refl _, by unfold maxLen; omega, by simp, ?_⟩⟩
  simp

/-- A slice's length. -/
def lenV : Value → Nat
  | .slice _ n _ => n
  | _ => 0
set_option maxRecDepth 100000 in
theorem lenV_slice (A : Option Addr) (n c : Nat) : lenV (.slice A n c) = n := rfl

set_option maxRecDepth 100000 in
set_option maxHeartbeats 1000000 in
theorem refMul_any (a b : Nat) (w : World) (ha : a < M256) (hb : b < M256) :
    Calls Try.prog 23 #[wv a, wv b] w (RetWB w (mulN a b) (mulO a b)) := by
  have HA := Lib.hid ha
  have HB := Lib.hid hb
  clear ha hb
  have HK : Hid (Ks w [(w.heap.size, a), (w.heap.size + 1, b)] (((w.alloc (.cells (wc a) 27)).alloc (.cells (wc b) 27)).alloc (.cells #[.int .u64 0, .int .u64 0, .int .u64 0, .int .u64 0] 27))) :=
    ⟨fun x hx => by
      simp only [List.mem_cons, List.not_mem_nil, or_false] at hx
      rcases hx with rfl | rfl
      · exact ((Cs.new _ _ _ _ rfl).alloc _).alloc _
      · exact (Cs.new _ _ _ _ (by simp)).alloc _, (((Ext.refl w).alloc _).alloc _).alloc _⟩
  have HZ : Hid (Cs (((w.alloc (.cells (wc a) 27)).alloc (.cells (wc b) 27)).alloc (.cells #[.int .u64 0, .int .u64 0, .int .u64 0, .int .u64 0] 27)) (w.heap.size + 1 + 1) 27 (wc 0)) := Cs.new _ _ _ _ (by simp)
  have HO := Lib.hid (own_zeros (((w.alloc (.cells (wc a) 27)).alloc (.cells (wc b) 27)).alloc (.cells #[.int .u64 0, .int .u64 0, .int .u64 0, .int .u64 0] 27)) 513 0 (w.heap.size + 1 + 1 + 1) (by simp) (Nat.zero_le _) (by omega))
  have HK2 := Lib.hid (HK.out.al (.cells (Array.replicate 513 (iv 0)) 3))
  have HZ2 := Lib.hid (HZ.out.alloc (.cells (Array.replicate 513 (iv 0)) 3))
  clear HK HZ
  unfold wv
  go_enter Try.func23, Try.ntmps23
  go_wp2_with (first
    | ((with_reducible refine wpList_make_ints ?_ _ _ rfl 513 (by decide) ?_ ?_ ?_); (exact rfl); (exact rfl); (exact rfl))
    | ((with_reducible refine wpList_load_wordG ?_ 27 25 (.tmp 2) rfl Try.underlying27 winfo w.heap.size a ?_ ?_ ?_); (exact rfl); (exact rfl); (exact HK2.out.at _ _ (by simp))))
  refine (bits_any a 256 _ HA.out (by omega)).mono ?_
  rintro e w3 ⟨v7, rfl, ho3, he3⟩
  have HR7 := Lib.hid (show Rs w3 1 v7 256 ((bitsL a 256).map iv) by have := ho3.rs; rwa [bitsL_len] at this)
  have HR6 := Lib.hid ((Rs.of_own HO.out).ext he3)
  have HS3 := Lib.hid (HK2.out.ext he3)
  have HZ3 := Lib.hid (HZ2.out.ext he3)
  clear ho3 he3 HO HK2 HZ2
  have HX0 := Lib.hid (show (List.replicate 513 0).map iv = (bitsL (a * (b % 2 ^ 0)) 513).map iv by
    rw [Nat.pow_zero, Nat.mod_one, Nat.mul_zero, bitsL_zero])
  rw [HX0.out] at HR6
  clear HX0
  go_wp2_with fail
  go_loopw [6, 8, 9, 13, 14, 15, 16, 17, 18, 19, 20, 21, 22, 23, 24, 25, 26, 27, 28, 29, 30, 31, 32, 33, 34] (fun v6 _ _ i _ _ _ _ _ _ _ _ _ _ _ _ _ _ _ _ _ _ _ _ _ wr => ∃ k : Nat, k ≤ 256 ∧ i = .int .i64 k ∧ Hid (Rs wr 1 v6 513 ((bitsL (a * (b % 2 ^ k)) 513).map iv)) ∧ Hid (Rs wr 1 v7 256 ((bitsL a 256).map iv)) ∧ Hid (Ks w [(w.heap.size, a), (w.heap.size + 1, b)] wr) ∧ Hid (Cs wr (w.heap.size + 1 + 1) 27 (wc 0))) (fun _ _ _ i _ _ _ _ _ _ _ _ _ _ _ _ _ _ _ _ _ _ _ _ _ _ => 256 - (intOf i).toNat)
  case atStart => exact ⟨0, by omega, rfl, HR6, HR7, HS3, HZ3⟩
  case round =>
    clear HR6 HR7 HS3 HZ3
    obtain ⟨k, hk, rfl, HR6, HR7, HS, HZ⟩ := hrel
    by_cases hlt : k < 256
    · have HST := Lib.hid (mulbit_step a b k)
      have HLT := Lib.hid (mul_lt a b k 513 HA.out (by omega) (by omega))
      go_wp2_with ((with_reducible refine wpList_load_wordG ?_ 27 25 (.tmp 3) rfl Try.underlying27 winfo (w.heap.size + 1) b ?_ ?_ ?_); (exact rfl); (exact rfl); (exact HS.out.at _ _ (by simp)))
      refine (bit_any b k _ HB.out (by omega)).mono ?_
      rintro e w4 ⟨rfl, he4⟩
      have HR6 := Lib.hid (HR6.out.ext he4)
      have HR7 := Lib.hid (HR7.out.ext he4)
      have HS := Lib.hid (HS.out.ext he4)
      have HZ := Lib.hid (HZ.out.ext he4)
      clear he4
      have hbl := bitN_lt b k
      by_cases hb0 : bitN b k = 0
      · have HX := Lib.hid (show a * (b % 2 ^ k) = a * (b % 2 ^ (k + 1)) by rw [HST.out, hb0]; omega)
        rw [hb0]
        clear hb0 hbl HST HLT
        go_wp2_with fail
        go_roundw
        case rel => exact ⟨k + 1, by omega, by go_num, by rw [← HX.out]; exact HR6, HR7, HS, HZ⟩
        case measure => simp [intOf]; omega
      · have hb1 : bitN b k = 1 := by omega
        have HX := Lib.hid (show a * (b % 2 ^ k) + a * 2 ^ k = a * (b % 2 ^ (k + 1)) by rw [HST.out, hb1]; omega)
        rw [hb1]
        clear hb0 hb1 hbl HST
        have HO := Lib.hid (own_zeros w4 k w4.heap.size w4.heap.size rfl (Nat.le_refl _) (by omega))
        have HR7b := Lib.hid (HR7.out.ext ((Ext.refl w4).alloc (.cells (Array.replicate k (iv 0)) 3)))
        have HEb := Lib.hid ((Ext.refl w4).alloc (.cells (Array.replicate k (iv 0)) 3))
        go_wp2_with (first
          | ((with_reducible refine wpList_make_ints ?_ _ _ rfl k ?_ ?_ ?_ ?_); (exact rfl); (omega); (exact rfl); (exact rfl))
          | (refine wpList_append_row rfl (.tmp 21) (.tmp 22) 84 rfl w4.heap.size 3 Try.underlying84 (.int .i64 0) 1 8 iinfo rfl (by decide) _ k _ rfl HO.out v7 256 ((bitsL a 256).map iv) rfl HR7b.out (iv_one _) (by omega) (by decide) (by simp) ?_; intro v' w5 ho5 hg5 _; rw [← List.map_append, bitsL_shift] at ho5; have HO5 := Lib.hid ho5; have HE5 := Lib.hid (HEb.out.appendR HO.out hg5); clear ho5 hg5))
        have HY := Lib.hid (show a * 2 ^ k < 2 ^ (k + 256) from HLT.out.2)
        clear HO HR7b HEb
        go_loopw [9, 24, 25, 26, 27, 28, 29] (fun v9 _ _ _ _ _ _ wq => ∃ m : Nat, k + 256 ≤ m ∧ m ≤ 513 ∧ Hid (wq.ownsRow w4.heap.size 3 1 v9 m ((bitsL (a * 2 ^ k) m).map iv)) ∧ Hid (Ext w4 wq)) (fun v9 _ _ _ _ _ _ _ => 513 - lenV v9)
        case atStart => exact ⟨k + 256, by omega, by omega, HO5, HE5⟩
        case round =>
          clear HO5 HE5
          obtain ⟨m, hm1, hm2, HO, HE⟩ := hrel
          obtain ⟨A9, c9, rfl, hm3⟩ : ∃ A c, u9 = .slice A m c ∧ c ≤ maxLen := by
            obtain ⟨_, A, c, e, _, h2, _⟩ := Rs.of_own HO.out
            exact ⟨A, c, e, h2⟩
          by_cases hm : m < 513
          · have HO2 := Lib.hid (World.ownsRow.alloc HO.out (.cells #[.int .i64 0] 3))
            have HE2 := Lib.hid (HE.out.alloc (.cells #[.int .i64 0] 3))
            have HP := Lib.hid (bitsL_pad (a * 2 ^ k) m (Nat.lt_of_lt_of_le HY.out (Nat.pow_le_pow_right (by decide) hm1)))
            have hsz := HE.out.size
            have hdm : decide ((m : Int) < 513) = true := by simp; omega
            have hlen9 : m + 1 ≤ 1099511627776 := by omega
            have HR0 := Lib.hid (show Rs (wr.alloc (.cells #[.int .i64 0] 3)) 1 (.slice (some ⟨wr.heap.size, 0, none⟩) 1 1) 1 ([0].map iv) from Rs.new wr ([0].map iv) 3 1 1 rfl (by decide))
            clear HO HE
            unfold maxLen at hm3
            go_wp2_with ((with_reducible refine wpList_append_row ?_ (.tmp 27) (.tmp 28) 84 ?_ w4.heap.size 3 Try.underlying84 (.int .i64 0) 1 8 iinfo ?_ ?_ (.slice A9 m c9) m ((bitsL (a * 2 ^ k) m).map iv) ?_ HO2.out (.slice (some ⟨wr.heap.size, 0, none⟩) 1 1) 1 ([0].map iv) ?_ HR0.out (iv_one _) ?_ ?_ ?_ ?_); (exact rfl); (exact rfl); (exact rfl); (decide); (exact rfl); (exact rfl); (omega); (decide); (simp; omega); intro v' w6 ho6 hg6 _; rw [← List.map_append, HP.out] at ho6; have HO6 := Lib.hid ho6; have HE6 := Lib.hid (HE2.out.appendR HO2.out hg6); obtain ⟨A', c', rfl⟩ : ∃ A c, v' = .slice A (m + 1) c := (by obtain ⟨_, A, c, e, _⟩ := Rs.of_own ho6; exact ⟨A, c, e⟩); clear ho6 hg6)
            go_roundw
            case rel => exact ⟨m + 1, by omega, by omega, HO6, HE6⟩
            case measure => rw [lenV_slice, lenV_slice]; omega
          · obtain rfl : m = 513 := by omega
            have HR6 := Lib.hid (HR6.out.ext HE.out)
            have HR7 := Lib.hid (HR7.out.ext HE.out)
            have HS := Lib.hid (HS.out.ext HE.out)
            have HZ := Lib.hid (HZ.out.ext HE.out)
            have HR9 := Lib.hid (Rs.of_own HO.out)
            have HY5 := Lib.hid (Nat.lt_of_lt_of_le HY.out (Nat.pow_le_pow_right (by decide) hm1))
            clear HO HE hm hm1 hm2
            go_wp2_with fail
            refine (refadd_any _ _ (a * (b % 2 ^ k)) (a * 2 ^ k) 513 _ HR6.out HR9.out HLT.out.1 HY5.out (by omega) (by omega)).mono ?_
            rw [HX.out]
            rintro e w7 ⟨v32, rfl, ho7, he7⟩
            have hr := ho7.rs
            rw [bitsL_len] at hr
            obtain ⟨A', c', rfl, hc1, hc2⟩ : ∃ A c, v32 = .slice A (513 + 1) c ∧ 513 + 1 ≤ c ∧ c ≤ maxLen := by
              obtain ⟨_, A, c, e, h1, h2, _⟩ := hr
              exact ⟨A, c, e, h1, h2⟩
            have hr2 := hr.take 513 (by omega)
            rw [Nat.mul_one, ← List.map_take, bitsL_take] at hr2
            have HR6 := Lib.hid hr2
            have HR7 := Lib.hid (HR7.out.ext he7)
            have HS := Lib.hid (HS.out.ext he7)
            have HZ := Lib.hid (HZ.out.ext he7)
            unfold maxLen at hc2
            clear ho7 he7 hr hr2 HR9 HY5 HX
            go_wp2_with fail
            go_roundw
            case rel => exact ⟨k + 1, by omega, by go_num, HR6, HR7, HS, HZ⟩
            case measure => simp [intOf]; omega
    · obtain rfl : k = 256 := by omega
      have hX : a * (b % 2 ^ 256) = a * b := by
        have hb := HB.out
        rw [M256_pow] at hb
        rw [Nat.mod_eq_of_lt hb]
      have HLT := Lib.hid (show a * b < 2 ^ 513 by rw [← hX]; exact (mul_lt a b 256 513 HA.out (by omega) (by omega)).1)
      rw [hX] at HR6
      clear hX hlt hk
      have HQ := Lib.hid (ofN_bits (a * b) 513 (by omega))
      have HT := Lib.hid (anyT_iff (a * b) 513 HLT.out)
      go_wp2_with fail
      refine (of_bits _ (bitsL (a * b) 513) _ (by rw [bitsL_len]; exact HR6.out) (by rw [bitsL_len]; omega)).mono ?_
      rintro e w4 ⟨rfl, he4⟩
      rw [HQ.out]
      have HR6 := Lib.hid (HR6.out.ext he4)
      have HS := Lib.hid (HS.out.ext he4)
      have HZ := Lib.hid (HZ.out.ext he4)
      clear he4
      go_wp2_with fail
      refine (refAny_any _ (a * b) 513 256 _ HR6.out (by omega) (by omega)).mono ?_
      rintro e w5 ⟨rfl, he5⟩
      rw [HT.out]
      have HS := Lib.hid (HS.out.ext he5)
      have HZ := Lib.hid (HZ.out.ext he5)
      clear he5 HR6 HQ HT HLT
      have hmn : a * b % M256 = mulN a b := rfl
      have hmo : decide (M256 ≤ a * b) = mulO a b := rfl
      rw [hmn, hmo]
      clear hmn hmo
      go_wp2_with (refine wpList_store_word rfl rfl 27 (.tmp 4) (.tmp 36) rfl winfo (w.heap.size + 1 + 1) (wc 0) (mulN a b) rfl rfl HZ.out rfl ?_; intro w6 k6 g6; have K6 := Lib.hid k6; have HE6 := Lib.hid (HS.out.2.grown g6 (by omega)); clear k6 g6)
      exact bodyPost_ret (results_word_tmp Try.results23 _ _ (w.heap.size + 1 + 1) _ rfl K6.out Try.underlying27 winfo) rfl ⟨rfl, mulN_lt a b, HE6.out⟩
end Go.Proofs.Ytgmmkoahnednfaa
