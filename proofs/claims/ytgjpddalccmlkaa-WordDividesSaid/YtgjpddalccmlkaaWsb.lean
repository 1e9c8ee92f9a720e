/- The law WordDivides: what is divided, multiplied and added, is the word again. -/
import Derived.Test.YtgjpddalccmlkaaWrl
namespace Go.Proofs.Ytgjpddalccmlkaa
open Go.ChangeShapes Go.WideShapes Go.ChangeAt Go.RowKit

theorem quo_lt (a b : Nat) (ha : a < M256) : quoN a b < M256 := Nat.lt_of_le_of_lt (Nat.div_le_self _ _) ha
theorem rem_lt (a b : Nat) (ha : a < M256) : remN a b < M256 := by
  unfold remN
  split
  · decide
  · exact Nat.lt_of_le_of_lt (Nat.mod_le _ _) ha
theorem quo_mul (a b : Nat) (ha : a < M256) : mulN (quoN a b) b = quoN a b * b ∧ mulO (quoN a b) b = false := by
  have h : quoN a b * b ≤ a := Nat.div_mul_le_self a b
  unfold mulN mulO
  refine ⟨Nat.mod_eq_of_lt (by omega), ?_⟩
  rw [decide_eq_false_iff_not]
  omega
theorem div_back (a b : Nat) (ha : a < M256) (hb : b ≠ 0) : addN (mulN (quoN a b) b) (remN a b) = a ∧ ovr (mulN (quoN a b) b) (remN a b) = false := by
  rw [(quo_mul a b ha).1]
  unfold addN ovr remN quoN
  rw [if_neg hb]
  have h := Nat.div_add_mod a b
  rw [Nat.mul_comm] at h
  rw [h]
  refine ⟨Nat.mod_eq_of_lt ha, ?_⟩
  rw [decide_eq_false_iff_not]
  omega
theorem rem_cmp (a b : Nat) (hb : b ≠ 0) : decide (cmpN (remN a b) b < 0) = true := by
  have h : a % b < b := Nat.mod_lt _ (by omega)
  unfold cmpN remN
  rw [if_neg hb, if_pos h]
  rfl

set_option maxRecDepth 100000 in
set_option maxHeartbeats 2000000 in
theorem divides_walk (a b : Nat) (w : World) (ha : a < M256) (hb : b < M256) : Calls Try.prog 9 #[wv a, wv b] w (RetT w) := by
  have kq := quo_lt a b ha
  have kr := rem_lt a b ha
  unfold wv
  go_enter Try.func9, Try.ntmps9
  go_wp2_with fail
  refine (wakes_any _).mono ?_
  rintro e w1 ⟨rfl, he1⟩
  have HS : Ks w [(w.heap.size, a), (w.heap.size + 1, b)] w1 :=
    ⟨fun x hx => by
      simp only [List.mem_cons, List.not_mem_nil, or_false] at hx
      rcases hx with rfl | rfl
      · exact Cs.ext ((Cs.new _ _ _ _ rfl).alloc _) he1
      · exact Cs.ext (Cs.new _ _ _ _ (by simp)) he1, Ext.trans (((Ext.refl w).alloc _).alloc _) he1⟩
  clear he1
  go_wp2_with (first
    | ((with_reducible refine wpList_load_wordG ?_ 27 25 (.tmp 2) rfl Try.underlying27 winfo (w.heap.size) (a) ?_ ?_ ?_); (exact rfl); (exact rfl); (exact HS.at (w.heap.size) (a) (by simp)))
    | ((with_reducible refine wpList_load_wordG ?_ 27 25 (.tmp 3) rfl Try.underlying27 winfo (w.heap.size + 1) (b) ?_ ?_ ?_); (exact rfl); (exact rfl); (exact HS.at (w.heap.size + 1) (b) (by simp))))
  refine (div_any a b _ ha hb).mono ?_
  rintro e w2 ⟨rfl, he⟩
  have HS := HS.ext he
  clear he
  by_cases hb0 : b = 0
  · have hq0 : quoN a b = 0 := by unfold quoN; rw [hb0, Nat.div_zero]
    have hr0 : remN a b = 0 := by unfold remN; rw [if_pos hb0]
    rw [hq0, hr0]
    have hbb : (b == 0) = true := by simp [hb0]
    clear hq0 hr0 hb0 kq kr
    go_wp2_with (first
      | ((with_reducible refine wpList_store_word rfl rfl 27 (.tmp 5) (.tmp 17) rfl winfo w2.heap.size (wc 0) 0 ?_ ?_ ?_ ?_ ?_); (exact rfl); (exact rfl); (exact (Cs.new _ _ _ _ rfl).alloc _); (exact rfl); intro w3 k3 g3)
      | ((with_reducible refine wpList_store_word rfl rfl 27 (.tmp 6) (.tmp 18) rfl winfo (w2.heap.size + 1) (wc 0) 0 ?_ ?_ ?_ ?_ ?_); (exact rfl); (exact rfl); (exact (Cs.new _ _ _ _ (by simp)).kept g3 (some_ne (by omega))); (exact rfl); intro w4 k4 g4; have HS := HS.put2 g3 k3 g4 k4; clear k3 g3 k4 g4)
      | ((with_reducible refine wpList_load_wordG ?_ 27 25 (.tmp 3) rfl Try.underlying27 winfo (w.heap.size + 1) (b) ?_ ?_ ?_); (exact rfl); (exact rfl); (exact HS.at (w.heap.size + 1) (b) (by simp)))
      | ((with_reducible refine wpList_eql_word ?_ (.tmp 19) (.tmp 20) rfl (b) (0) (hb) (by decide) ?_ ?_ ?_); (exact rfl); (exact rfl); (exact rfl); rw [hbb])
      | ((with_reducible refine wpList_load_wordG ?_ 27 25 (.tmp 5) rfl Try.underlying27 winfo (w2.heap.size) (0) ?_ ?_ ?_); (exact rfl); (exact rfl); (exact HS.at (w2.heap.size) (0) (by simp)))
      | ((with_reducible refine wpList_load_wordG ?_ 27 25 (.tmp 6) rfl Try.underlying27 winfo (w2.heap.size + 1) (0) ?_ ?_ ?_); (exact rfl); (exact rfl); (exact HS.at (w2.heap.size + 1) (0) (by simp)))
      | ((with_reducible refine wpList_eql_word ?_ (.tmp 22) (.tmp 23) rfl (0) (0) (by decide) (by decide) ?_ ?_ ?_); (exact rfl); (exact rfl); (exact rfl); rw [show ((0 : Nat) == 0) = true from rfl])
      | ((with_reducible refine wpList_eql_word ?_ (.tmp 26) (.tmp 27) rfl (0) (0) (by decide) (by decide) ?_ ?_ ?_); (exact rfl); (exact rfl); (exact rfl); rw [show ((0 : Nat) == 0) = true from rfl]))
    go_ret
    exact ⟨rfl, HS.2⟩
  · have HM := Lib.hid (quo_mul a b ha)
    have HD := Lib.hid (div_back a b ha hb0)
    have HC := Lib.hid (rem_cmp a b hb0)
    have hbb : (b == 0) = false := by simpa using hb0
    have haa : (a == a) = true := by simp
    clear hb0
    generalize quoN a b = q at *
    generalize remN a b = r at *
    go_wp2_with (first
      | ((with_reducible refine wpList_store_word rfl rfl 27 (.tmp 5) (.tmp 17) rfl winfo w2.heap.size (wc 0) q ?_ ?_ ?_ ?_ ?_); (exact rfl); (exact rfl); (exact (Cs.new _ _ _ _ rfl).alloc _); (exact rfl); intro w3 k3 g3)
      | ((with_reducible refine wpList_store_word rfl rfl 27 (.tmp 6) (.tmp 18) rfl winfo (w2.heap.size + 1) (wc 0) r ?_ ?_ ?_ ?_ ?_); (exact rfl); (exact rfl); (exact (Cs.new _ _ _ _ (by simp)).kept g3 (some_ne (by omega))); (exact rfl); intro w4 k4 g4; have HS := HS.put2 g3 k3 g4 k4; clear k3 g3 k4 g4)
      | ((with_reducible refine wpList_load_wordG ?_ 27 25 (.tmp 3) rfl Try.underlying27 winfo (w.heap.size + 1) (b) ?_ ?_ ?_); (exact rfl); (exact rfl); (exact HS.at (w.heap.size + 1) (b) (by simp)))
      | ((with_reducible refine wpList_eql_word ?_ (.tmp 19) (.tmp 20) rfl (b) (0) (hb) (by decide) ?_ ?_ ?_); (exact rfl); (exact rfl); (exact rfl); rw [hbb])
      | ((with_reducible refine wpList_load_wordG ?_ 27 25 (.tmp 5) rfl Try.underlying27 winfo (w2.heap.size) (q) ?_ ?_ ?_); (exact rfl); (exact rfl); (exact HS.at (w2.heap.size) (q) (by simp))))
    refine (mul_w q b _ kq hb).mono ?_
    rintro e w5 ⟨rfl, km, he⟩
    rw [HM.out.2]
    have HS := HS.ext he
    clear he
    generalize mulN q b = p at *
    go_wp2_with (first
      | ((with_reducible refine wpList_store_word rfl rfl 27 (.tmp 7) (.tmp 34) rfl winfo (w5.heap.size) (wc 0) (p) ?_ ?_ ?_ ?_ ?_); (exact rfl); (exact rfl); (exact heap_alloc_new _ _); (exact rfl); intro w6 kz gz; have HS := HS.put gz kz; clear kz gz)
      | ((with_reducible refine wpList_load_wordG ?_ 27 25 (.tmp 7) rfl Try.underlying27 winfo (w5.heap.size) (p) ?_ ?_ ?_); (exact rfl); (exact rfl); (exact HS.at (w5.heap.size) (p) (by simp)))
      | ((with_reducible refine wpList_load_wordG ?_ 27 25 (.tmp 6) rfl Try.underlying27 winfo (w2.heap.size + 1) (r) ?_ ?_ ?_); (exact rfl); (exact rfl); (exact HS.at (w2.heap.size + 1) (r) (by simp))))
    refine (add_w p r _ km kr).mono ?_
    rintro e w7 ⟨rfl, ks, he⟩
    rw [HD.out.2, HD.out.1]
    have HS := HS.ext he
    clear he
    go_wp2_with (first
      | ((with_reducible refine wpList_store_word rfl rfl 27 (.tmp 9) (.tmp 40) rfl winfo (w7.heap.size) (wc 0) (a) ?_ ?_ ?_ ?_ ?_); (exact rfl); (exact rfl); (exact heap_alloc_new _ _); (exact rfl); intro w8 kz gz; have HS := HS.put gz kz; clear kz gz)
      | ((with_reducible refine wpList_load_wordG ?_ 27 25 (.tmp 9) rfl Try.underlying27 winfo (w7.heap.size) (a) ?_ ?_ ?_); (exact rfl); (exact rfl); (exact HS.at (w7.heap.size) (a) (by simp)))
      | ((with_reducible refine wpList_load_wordG ?_ 27 25 (.tmp 2) rfl Try.underlying27 winfo (w.heap.size) (a) ?_ ?_ ?_); (exact rfl); (exact rfl); (exact HS.at (w.heap.size) (a) (by simp)))
      | ((with_reducible refine wpList_eql_word ?_ (.tmp 49) (.tmp 50) rfl (a) (a) (ha) (ha) ?_ ?_ ?_); (exact rfl); (exact rfl); (exact rfl); rw [haa])
      | ((with_reducible refine wpList_load_wordG ?_ 27 25 (.tmp 6) rfl Try.underlying27 winfo (w2.heap.size + 1) (r) ?_ ?_ ?_); (exact rfl); (exact rfl); (exact HS.at (w2.heap.size + 1) (r) (by simp)))
      | ((with_reducible refine wpList_load_wordG ?_ 27 25 (.tmp 3) rfl Try.underlying27 winfo (w.heap.size + 1) (b) ?_ ?_ ?_); (exact rfl); (exact rfl); (exact HS.at (w.heap.size + 1) (b) (by simp))))
    refine (cmp_any r b _ kr hb).mono ?_
    rintro e w9 ⟨rfl, he⟩
    have HS := HS.ext he
    clear he
    have hc := HC.out
    go_wp2_with fail
    go_ret
    exact ⟨rfl, HS.2⟩

theorem divides_told (W : World) (args : Array Value) (h : Told Try.f9 W args) : Calls Try.prog 9 args W (RetT W) := by
  obtain ⟨H, enc, base, ds, p, hval, hA⟩ := h
  rw [Try.params9] at hA hval
  obtain ⟨v0, v1, d0, d1, p0, p1, rfl, rfl, rfl, h0, h1⟩ := trodAll_two hA
  obtain ⟨a, ha, rfl⟩ := word_came (hval 0 _ v0 rfl rfl) h0
  obtain ⟨b, hb, rfl⟩ := word_came (hval 1 _ v1 rfl rfl) h1
  exact divides_walk a b W ha hb

theorem divides_spec (H : Type) : ∀ ds : List (DataW H), ds.length = Try.f9.params.toList.length → Rows.wordDividesSpec.fn H ds = { results := [.lit (.bool true)], args := ds }
  | [_, _], _ => rfl
  | [], h | [_], h | _ :: _ :: _ :: _, h => by rw [Try.params9] at h; simp at h

set_option maxRecDepth 100000 in
theorem wordDivides_holds : Rows.WordDividesSaid :=
  OpenClaim.holds_of_wide 9 Try.f9 rfl rfl rfl rfl rfl rfl rfl ⟨rfl, rfl, rfl, rfl, rfl⟩ rfl rfl rfl rfl rfl (by kernel_rfl) Try.func9 (by kernel_rfl)
    (of_decide_eq_true (by kernel_rfl)) (by unfold Func.isWrapper; first | (rw [if_pos (by decide +kernel)]; kernel_rfl) | (rw [if_neg (by decide +kernel)]; exact ⟨rfl, rfl⟩))
    (fun os started H enc _ => law_lifted started (by kernel_rfl) Try.func9 rfl rfl (divides_spec H) (of_decide_eq_true (by kernel_rfl))
      (ChangeSpec.witness6 (enc := enc) (C := Try.checked) false ⟨#[], #[.agg #[.int .u64 0, .int .u64 0, .int .u64 0, .int .u64 0], .agg #[.int .u64 0, .int .u64 0, .int .u64 0, .int .u64 0]], []⟩ 8 (by kernel_rfl) (by kernel_rfl) (by kernel_rfl) (by kernel_rfl)) divides_told)
end Go.Proofs.Ytgjpddalccmlkaa
