/- The document's own answers of layer 2: Not, Moves. -/
import Derived.Test.YtiadabjmkabcfaaRbb
namespace Go.Proofs.Ytiadabjmkabcfaa
open Go.RowKit

set_option maxRecDepth 100000 in
set_option maxHeartbeats 1000000 in
theorem refNot_any (a : Nat) (w : World) (ha : a < M256) :
    Calls Try.prog 34 #[wv a] w fun e w' => e = .returned (wv (ofN (mapL (fun j => 1 - bitN a j) 256))) ∧ Ext w w' := by
  have HA := Lib.hid ha
  clear ha
  unfold wv
  go_enter Try.func34, Try.ntmps34
  go_wp2
  go_loopw [3, 4, 5, 6, 7, 8, 9, 10, 11, 12, 13, 14, 15] (fun v _ i _ _ _ _ _ _ _ _ _ _ wr => ∃ k : Nat, k ≤ 256 ∧ i = .int .i64 k ∧ Hid (Wd wr w.heap.size 27 a) ∧ Hid (Cs wr (w.heap.size + 1) 27 (wc 0)) ∧ Hid (OwnI wr (w.heap.size + 1 + 1) 3 v (mapL (fun j => 1 - bitN a j) k)) ∧ Hid (Ext w wr)) (fun _ _ i _ _ _ _ _ _ _ _ _ _ _ => 256 - (intOf i).toNat)
  case atStart => exact ⟨0, by omega, rfl, (show Wd _ w.heap.size 27 a from (Cs.new _ _ _ _ rfl).alloc _), (show Cs _ (w.heap.size + 1) _ (wc 0) from Cs.new _ _ _ _ (by simp)), World.ownsRow_nil _ _ _ _, ((Ext.refl w).alloc _).alloc _⟩
  case round =>
    obtain ⟨k, hk, rfl, h0, hz, h1, he⟩ := hrel
    by_cases hlt : k < 256
    · have hx := bitN_lt a k
      have hm : (1 : Int) - (bitN a k : Int) = ((1 - bitN a k : Nat) : Int) := by omega
      have HM := Lib.hid hm
      clear hm
      go_wp2_with ((with_reducible refine wpList_load_wordG ?_ 27 25 (.tmp 1) rfl Try.underlying27 winfo w.heap.size a ?_ ?_ ?_); (exact rfl); (exact rfl); (exact h0.out))
      refine (bit_any a k _ HA.out (by omega)).mono ?_
      rintro e w2 ⟨rfl, he2⟩
      have H0 := Lib.hid (Wd.ext h0.out he2)
      have HZ := Lib.hid (Cs.ext hz.out he2)
      have H1 := Lib.hid (World.ownsRow.alloc (own_ext h1.out he2) (.cells #[.int .i64 (1 - (bitN a k : Int))] 3))
      have HE := Lib.hid (he.out.trans he2)
      have hsz : w.heap.size + 1 + 1 ≤ w2.heap.size := by have := HZ.out.lt; omega
      have HL := Lib.hid (mapL_len (fun j => 1 - bitN a j) k)
      have HSU := Lib.hid (show mapL (fun j => 1 - bitN a j) (k + 1) = mapL (fun j => 1 - bitN a j) k ++ [1 - bitN a k] from mapL_succ _ k)
      have HV := Lib.hid (show [Value.int .i64 (1 - (bitN a k : Int))] = [iv (1 - bitN a k)] by unfold iv; rw [HM.out])
      clear he2 he h0 h1 hz HM
      go_wp2_with (refine wpList_append_row rfl (.tmp 8) (.tmp 13) 69 rfl (w.heap.size + 1 + 1) 3 Try.underlying69 (.int .i64 0) 1 8 iinfo rfl (by decide) u3 _ _ rfl H1.out _ 1 [.int .i64 (1 - (bitN a k : Int))] rfl (Rs.new _ _ _ _ _ rfl (by decide)) (by rw [HV.out]; exact iv_one [1 - bitN a k]) (by rw [HL.out]; omega) (by decide) (by simp; omega) ?_; intro v' w3 ho3 hg3 _; rw [HV.out] at ho3; have H3 := Lib.hid (OwnI.snoc ho3); have HE3 := Lib.hid ((HE.out.alloc _).appendR (own_mono H1.out (by omega)) hg3); have H03 := Lib.hid (show Wd w3 _ _ _ from own_block H1.out hg3 (by omega) ((H0.out.cs.alloc _).wd)); have HZ3 := Lib.hid (show Cs w3 _ _ _ from own_block H1.out hg3 (by omega) (HZ.out.alloc _)); clear ho3 hg3)
      rw [← HSU.out] at H3
      go_roundw
      case rel => exact ⟨k + 1, by omega, by go_num, H03, HZ3, H3, HE3⟩
      case measure => simp [intOf]; omega
    · obtain rfl : k = 256 := by omega
      go_wp2_with fail
      refine (of_bits u3 _ _ (OwnI.rs h1.out) (by rw [mapL_len]; omega)).mono ?_
      rintro e w2 ⟨rfl, he2⟩
      have HZ := Lib.hid (Cs.ext hz.out he2)
      have HE := Lib.hid (he.out.trans he2)
      clear he2 he
      go_wp2_with (refine wpList_store_word rfl rfl 27 (.tmp 2) (.tmp 17) rfl winfo (w.heap.size + 1) (wc 0) _ rfl rfl HZ.out rfl ?_; intro w4 k4 g4; have K4 := Lib.hid k4; have HE4 := Lib.hid (HE.out.grown g4 (by omega)); clear k4 g4)
      exact bodyPost_ret (results_word Try.results34 _ _ (w.heap.size + 1) _ rfl K4.out Try.underlying27 winfo) rfl ⟨rfl, HE4.out⟩

theorem lbs_zero (n : Nat) (h : n < 18446744073709551616) : lb n 0 = n ∧ lb n 1 = 0 ∧ lb n 2 = 0 ∧ lb n 3 = 0 := by
  rw [lb0, lb1, lb2, lb3]
  omega
theorem lbs_sum (n : Nat) (hn : n < M256) (h1 : lb n 1 = 0) (h2 : lb n 2 = 0) (h3 : lb n 3 = 0) : lb n 0 = n := by
  unfold M256 at hn
  rw [lb1] at h1
  rw [lb2] at h2
  rw [lb3] at h3
  rw [lb0]
  omega
set_option maxHeartbeats 1000000 in
theorem moves_any (n : Nat) (w : World) (hn : n < M256) :
    Calls Try.prog 35 #[wv n] w fun e w' => e = .returned (.int .i64 (min n 256 : Nat)) ∧ Ext w w' := by
  have HE := Lib.hid (((Ext.refl w).alloc (.cells (wc n) 27)))
  have hw : Wd (w.alloc (.cells (wc n) 27)) w.heap.size 27 n := Cs.new w _ _ _ rfl
  obtain ⟨c0, c1, c2, c3⟩ := hw.cs.four
  clear hw
  by_cases h : n ≤ 256
  · obtain ⟨e0, e1, e2, e3⟩ := lbs_zero n (by omega)
    rw [e0] at c0
    rw [e1] at c1
    rw [e2] at c2
    rw [e3] at c3
    have HM := Lib.hid (show min n 256 = n by omega)
    have d0 : decide ((256 : Int) < (n : Int)) = false := decide_eq_false (by omega)
    clear e0 e1 e2 e3
    unfold wv
    go_enter Try.func35, Try.ntmps35
    go_wp2
    go_ret
    exact ⟨ret_int (by rw [HM.out]), HE.out⟩
  · have HM := Lib.hid (show min n 256 = 256 by omega)
    have hl := lbs_sum n hn
    have key : 0 < lb n 1 ∨ (lb n 1 = 0 ∧ 0 < lb n 2) ∨ (lb n 1 = 0 ∧ lb n 2 = 0 ∧ 0 < lb n 3) ∨ (lb n 1 = 0 ∧ lb n 2 = 0 ∧ lb n 3 = 0 ∧ 256 < lb n 0) := by
      rcases Nat.eq_zero_or_pos (lb n 1) with h1 | h1
      · rcases Nat.eq_zero_or_pos (lb n 2) with h2 | h2
        · rcases Nat.eq_zero_or_pos (lb n 3) with h3 | h3
          · exact .inr (.inr (.inr ⟨h1, h2, h3, by have := hl h1 h2 h3; omega⟩))
          · exact .inr (.inr (.inl ⟨h1, h2, h3⟩))
        · exact .inr (.inl ⟨h1, h2⟩)
      · exact .inl h1
    clear hl h hn
    rcases key with h1 | ⟨h1, h2⟩ | ⟨h1, h2, h3⟩ | ⟨h1, h2, h3, h4⟩
    · have d1 : ¬ lb n 1 = 0 := by omega
      clear h1
      unfold wv
      go_enter Try.func35, Try.ntmps35
      go_wp2
      go_ret
      exact ⟨by rw [HM.out]; rfl, HE.out⟩
    · rw [h1] at c1
      have d2 : ¬ lb n 2 = 0 := by omega
      clear h1 h2
      unfold wv
      go_enter Try.func35, Try.ntmps35
      go_wp2
      go_ret
      exact ⟨by rw [HM.out]; rfl, HE.out⟩
    · rw [h1] at c1
      rw [h2] at c2
      have d3 : ¬ lb n 3 = 0 := by omega
      clear h1 h2 h3
      unfold wv
      go_enter Try.func35, Try.ntmps35
      go_wp2
      go_ret
      exact ⟨by rw [HM.out]; rfl, HE.out⟩
    · rw [h1] at c1
      rw [h2] at c2
      rw [h3] at c3
      have d4 : decide ((256 : Int) < ((lb n 0 : Nat) : Int)) = true := decide_eq_true (by omega)
      clear h1 h2 h3 h4
      unfold wv
      go_enter Try.func35, Try.ntmps35
      go_wp2
      go_ret
      exact ⟨by rw [HM.out]; rfl, HE.out⟩
end Go.Proofs.Ytiadabjmkabcfaa
