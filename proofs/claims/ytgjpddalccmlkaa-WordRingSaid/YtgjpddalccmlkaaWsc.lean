/- The law WordRing: sums and products hang on no order; products of a sum are the sum of products. -/
import Derived.Test.YtgjpddalccmlkaaWrl
namespace Go.Proofs.Ytgjpddalccmlkaa
open Go.ChangeShapes Go.WideShapes Go.ChangeAt Go.RowKit

theorem add_comm' (a b : Nat) : addN a b = addN b a := by unfold addN; rw [Nat.add_comm]
theorem ovr_comm (a b : Nat) : ovr a b = ovr b a := by unfold ovr; rw [Nat.add_comm]
theorem add_assoc' (a b c : Nat) : addN (addN a b) c = addN a (addN b c) := by unfold addN; rw [Nat.mod_add_mod, Nat.add_mod_mod, Nat.add_assoc]
theorem add_sub (a b : Nat) (ha : a < M256) (hb : b < M256) : subN (addN a b) b = a := by
  unfold subN addN M256 at *
  omega
theorem add_und (a b : Nat) (ha : a < M256) (hb : b < M256) : und (addN a b) b = ovr a b := by
  unfold und ovr addN
  rw [Bool.eq_iff_iff]
  simp only [decide_eq_true_eq]
  unfold M256 at *
  omega
theorem mul_comm' (a b : Nat) : mulN a b = mulN b a := by unfold mulN; rw [Nat.mul_comm]
theorem mulO_comm (a b : Nat) : mulO a b = mulO b a := by unfold mulO; rw [Nat.mul_comm]
theorem mul_assoc' (a b c : Nat) : mulN (mulN a b) c = mulN a (mulN b c) := by unfold mulN; rw [Nat.mod_mul_mod, Nat.mul_mod_mod, Nat.mul_assoc]
theorem add_mul' (a b c : Nat) : mulN (addN a b) c = addN (mulN a c) (mulN b c) := by unfold mulN addN; rw [Nat.mod_mul_mod, Nat.mod_add_mod, Nat.add_mod_mod, Nat.add_mul]
theorem mul_one' (a : Nat) (ha : a < M256) : mulN a 1 = a := by unfold mulN; rw [Nat.mul_one, Nat.mod_eq_of_lt ha]
theorem mulO_one (a : Nat) (ha : a < M256) : mulO a 1 = false := by unfold mulO; rw [Nat.mul_one, decide_eq_false_iff_not]; omega

set_option maxRecDepth 100000 in
set_option maxHeartbeats 8000000 in
theorem ring_walk (a b c : Nat) (w : World) (ha : a < M256) (hb : b < M256) (hc : c < M256) : Calls Try.prog 8 #[wv a, wv b, wv c] w (RetT w) := by
  have H1 := Lib.hid (show addN b a = addN a b from add_comm' b a)
  have H2 := Lib.hid (show ovr b a = ovr a b from ovr_comm b a)
  have H3 := Lib.hid (show addN a (addN b c) = addN (addN a b) c from (add_assoc' a b c).symm)
  have H4 := Lib.hid (show subN (addN a b) b = a from add_sub a b ha hb)
  have H5 := Lib.hid (show und (addN a b) b = ovr a b from add_und a b ha hb)
  have H6 := Lib.hid (show mulN b a = mulN a b from mul_comm' b a)
  have H7 := Lib.hid (show mulO b a = mulO a b from mulO_comm b a)
  have H8 := Lib.hid (show mulN a (mulN b c) = mulN (mulN a b) c from (mul_assoc' a b c).symm)
  have H9 := Lib.hid (show addN (mulN a c) (mulN b c) = mulN (addN a b) c from (add_mul' a b c).symm)
  have H10 := Lib.hid (mul_one' a ha)
  have H11 := Lib.hid (mulO_one a ha)
  unfold wv
  go_enter Try.func8, Try.ntmps8
  go_wp2_with fail
  refine (wakes_any _).mono ?_
  rintro e w1 ⟨rfl, he1⟩
  have HS : Ks w [(w.heap.size, a), (w.heap.size + 1, b), (w.heap.size + 1 + 1, c)] w1 :=
    ⟨fun x hx => by
      simp only [List.mem_cons, List.not_mem_nil, or_false] at hx
      rcases hx with rfl | rfl | rfl
      · exact Cs.ext (((Cs.new _ _ _ _ rfl).alloc _).alloc _) he1
      · exact Cs.ext ((Cs.new _ _ _ _ (by simp)).alloc _) he1
      · exact Cs.ext (Cs.new _ _ _ _ (by simp)) he1, Ext.trans ((((Ext.refl w).alloc _).alloc _).alloc _) he1⟩
  clear he1
  go_wp2_with (first
    | ((with_reducible refine wpList_load_wordG ?_ 27 25 (.tmp 3) rfl Try.underlying27 winfo (w.heap.size) (a) ?_ ?_ ?_); (exact rfl); (exact rfl); (exact HS.at (w.heap.size) (a) (by simp)))
    | ((with_reducible refine wpList_load_wordG ?_ 27 25 (.tmp 4) rfl Try.underlying27 winfo (w.heap.size + 1) (b) ?_ ?_ ?_); (exact rfl); (exact rfl); (exact HS.at (w.heap.size + 1) (b) (by simp))))
  refine (add_w a b _ ha hb).mono ?_
  rintro e c1 ⟨rfl, k1, he⟩
  generalize addN a b = ab at *
  generalize ovr a b = o1 at *
  have HS := HS.ext he
  clear he
  go_wp2_with (first
    | ((with_reducible refine wpList_store_word rfl rfl 27 (.tmp 7) (.tmp 41) rfl winfo (c1.heap.size) (wc 0) (ab) ?_ ?_ ?_ ?_ ?_); (exact rfl); (exact rfl); (exact heap_alloc_new _ _); (exact rfl); intro s1 kz gz; have HS := HS.put gz kz; clear kz gz)
    | ((with_reducible refine wpList_load_wordG ?_ 27 25 (.tmp 4) rfl Try.underlying27 winfo (w.heap.size + 1) (b) ?_ ?_ ?_); (exact rfl); (exact rfl); (exact HS.at (w.heap.size + 1) (b) (by simp)))
    | ((with_reducible refine wpList_load_wordG ?_ 27 25 (.tmp 3) rfl Try.underlying27 winfo (w.heap.size) (a) ?_ ?_ ?_); (exact rfl); (exact rfl); (exact HS.at (w.heap.size) (a) (by simp))))
  refine (add_w b a _ hb ha).mono ?_
  rintro e c2 ⟨rfl, k2, he⟩
  rw [H1.out, H2.out]
  have HS := HS.ext he
  clear he
  go_wp2_with (first
    | ((with_reducible refine wpList_store_word rfl rfl 27 (.tmp 9) (.tmp 47) rfl winfo (c2.heap.size) (wc 0) (ab) ?_ ?_ ?_ ?_ ?_); (exact rfl); (exact rfl); (exact heap_alloc_new _ _); (exact rfl); intro s2 kz gz; have HS := HS.put gz kz; clear kz gz)
    | ((with_reducible refine wpList_load_wordG ?_ 27 25 (.tmp 4) rfl Try.underlying27 winfo (w.heap.size + 1) (b) ?_ ?_ ?_); (exact rfl); (exact rfl); (exact HS.at (w.heap.size + 1) (b) (by simp)))
    | ((with_reducible refine wpList_load_wordG ?_ 27 25 (.tmp 5) rfl Try.underlying27 winfo (w.heap.size + 1 + 1) (c) ?_ ?_ ?_); (exact rfl); (exact rfl); (exact HS.at (w.heap.size + 1 + 1) (c) (by simp))))
  refine (add_w b c _ hb hc).mono ?_
  rintro e c3 ⟨rfl, k3, he⟩
  generalize addN b c = bc at *
  generalize ovr b c = o3 at *
  have HS := HS.ext he
  clear he
  go_wp2_with (first
    | ((with_reducible refine wpList_store_word rfl rfl 27 (.tmp 11) (.tmp 53) rfl winfo (c3.heap.size) (wc 0) (bc) ?_ ?_ ?_ ?_ ?_); (exact rfl); (exact rfl); (exact heap_alloc_new _ _); (exact rfl); intro s3 kz gz; have HS := HS.put gz kz; clear kz gz)
    | ((with_reducible refine wpList_load_wordG ?_ 27 25 (.tmp 7) rfl Try.underlying27 winfo (c1.heap.size) (ab) ?_ ?_ ?_); (exact rfl); (exact rfl); (exact HS.at (c1.heap.size) (ab) (by simp)))
    | ((with_reducible refine wpList_load_wordG ?_ 27 25 (.tmp 5) rfl Try.underlying27 winfo (w.heap.size + 1 + 1) (c) ?_ ?_ ?_); (exact rfl); (exact rfl); (exact HS.at (w.heap.size + 1 + 1) (c) (by simp))))
  refine (add_w ab c _ k1 hc).mono ?_
  rintro e c4 ⟨rfl, k4, he⟩
  generalize addN ab c = x1 at *
  generalize ovr ab c = o4 at *
  have HS := HS.ext he
  clear he
  go_wp2_with (first
    | ((with_reducible refine wpList_store_word rfl rfl 27 (.tmp 13) (.tmp 59) rfl winfo (c4.heap.size) (wc 0) (x1) ?_ ?_ ?_ ?_ ?_); (exact rfl); (exact rfl); (exact heap_alloc_new _ _); (exact rfl); intro s4 kz gz; have HS := HS.put gz kz; clear kz gz)
    | ((with_reducible refine wpList_load_wordG ?_ 27 25 (.tmp 3) rfl Try.underlying27 winfo (w.heap.size) (a) ?_ ?_ ?_); (exact rfl); (exact rfl); (exact HS.at (w.heap.size) (a) (by simp)))
    | ((with_reducible refine wpList_load_wordG ?_ 27 25 (.tmp 11) rfl Try.underlying27 winfo (c3.heap.size) (bc) ?_ ?_ ?_); (exact rfl); (exact rfl); (exact HS.at (c3.heap.size) (bc) (by simp))))
  refine (add_w a bc _ ha k3).mono ?_
  rintro e c5 ⟨rfl, k5, he⟩
  rw [H3.out]
  generalize ovr a bc = o5 at *
  have HS := HS.ext he
  clear he
  go_wp2_with (first
    | ((with_reducible refine wpList_store_word rfl rfl 27 (.tmp 15) (.tmp 65) rfl winfo (c5.heap.size) (wc 0) (x1) ?_ ?_ ?_ ?_ ?_); (exact rfl); (exact rfl); (exact heap_alloc_new _ _); (exact rfl); intro s5 kz gz; have HS := HS.put gz kz; clear kz gz)
    | ((with_reducible refine wpList_load_wordG ?_ 27 25 (.tmp 7) rfl Try.underlying27 winfo (c1.heap.size) (ab) ?_ ?_ ?_); (exact rfl); (exact rfl); (exact HS.at (c1.heap.size) (ab) (by simp)))
    | ((with_reducible refine wpList_load_wordG ?_ 27 25 (.tmp 9) rfl Try.underlying27 winfo (c2.heap.size) (ab) ?_ ?_ ?_); (exact rfl); (exact rfl); (exact HS.at (c2.heap.size) (ab) (by simp)))
    | ((with_reducible refine wpList_neq_word ?_ (.tmp 67) (.tmp 68) rfl (ab) (ab) (k1) (k1) ?_ ?_ ?_); (exact rfl); (exact rfl); (exact rfl); rw [show (ab != ab) = false by simp])
    | ((with_reducible refine wpList_load_wordG ?_ 27 25 (.tmp 13) rfl Try.underlying27 winfo (c4.heap.size) (x1) ?_ ?_ ?_); (exact rfl); (exact rfl); (exact HS.at (c4.heap.size) (x1) (by simp)))
    | ((with_reducible refine wpList_load_wordG ?_ 27 25 (.tmp 15) rfl Try.underlying27 winfo (c5.heap.size) (x1) ?_ ?_ ?_); (exact rfl); (exact rfl); (exact HS.at (c5.heap.size) (x1) (by simp)))
    | ((with_reducible refine wpList_neq_word ?_ (.tmp 76) (.tmp 77) rfl (x1) (x1) (k4) (k4) ?_ ?_ ?_); (exact rfl); (exact rfl); (exact rfl); rw [show (x1 != x1) = false by simp])
    | ((with_reducible refine wpList_load_wordG ?_ 27 25 (.tmp 7) rfl Try.underlying27 winfo (c1.heap.size) (ab) ?_ ?_ ?_); (exact rfl); (exact rfl); (exact HS.at (c1.heap.size) (ab) (by simp)))
    | ((with_reducible refine wpList_load_wordG ?_ 27 25 (.tmp 4) rfl Try.underlying27 winfo (w.heap.size + 1) (b) ?_ ?_ ?_); (exact rfl); (exact rfl); (exact HS.at (w.heap.size + 1) (b) (by simp))))
  refine (sub_w ab b _ k1 hb).mono ?_
  rintro e c6 ⟨rfl, k6, he⟩
  rw [H4.out, H5.out]
  have HS := HS.ext he
  clear he
  go_wp2_with (first
    | ((with_reducible refine wpList_store_word rfl rfl 27 (.tmp 17) (.tmp 84) rfl winfo (c6.heap.size) (wc 0) (a) ?_ ?_ ?_ ?_ ?_); (exact rfl); (exact rfl); (exact heap_alloc_new _ _); (exact rfl); intro s6 kz gz; have HS := HS.put gz kz; clear kz gz)
    | ((with_reducible refine wpList_load_wordG ?_ 27 25 (.tmp 17) rfl Try.underlying27 winfo (c6.heap.size) (a) ?_ ?_ ?_); (exact rfl); (exact rfl); (exact HS.at (c6.heap.size) (a) (by simp)))
    | ((with_reducible refine wpList_load_wordG ?_ 27 25 (.tmp 3) rfl Try.underlying27 winfo (w.heap.size) (a) ?_ ?_ ?_); (exact rfl); (exact rfl); (exact HS.at (w.heap.size) (a) (by simp)))
    | ((with_reducible refine wpList_neq_word ?_ (.tmp 86) (.tmp 87) rfl (a) (a) (ha) (ha) ?_ ?_ ?_); (exact rfl); (exact rfl); (exact rfl); rw [show (a != a) = false by simp])
    | ((with_reducible refine wpList_load_wordG ?_ 27 25 (.tmp 3) rfl Try.underlying27 winfo (w.heap.size) (a) ?_ ?_ ?_); (exact rfl); (exact rfl); (exact HS.at (w.heap.size) (a) (by simp)))
    | ((with_reducible refine wpList_load_wordG ?_ 27 25 (.tmp 4) rfl Try.underlying27 winfo (w.heap.size + 1) (b) ?_ ?_ ?_); (exact rfl); (exact rfl); (exact HS.at (w.heap.size + 1) (b) (by simp))))
  refine (mul_w a b _ ha hb).mono ?_
  rintro e c7 ⟨rfl, k7, he⟩
  generalize mulN a b = p at *
  generalize mulO a b = o6 at *
  have HS := HS.ext he
  clear he
  go_wp2_with (first
    | ((with_reducible refine wpList_store_word rfl rfl 27 (.tmp 19) (.tmp 98) rfl winfo (c7.heap.size) (wc 0) (p) ?_ ?_ ?_ ?_ ?_); (exact rfl); (exact rfl); (exact heap_alloc_new _ _); (exact rfl); intro s7 kz gz; have HS := HS.put gz kz; clear kz gz)
    | ((with_reducible refine wpList_load_wordG ?_ 27 25 (.tmp 4) rfl Try.underlying27 winfo (w.heap.size + 1) (b) ?_ ?_ ?_); (exact rfl); (exact rfl); (exact HS.at (w.heap.size + 1) (b) (by simp)))
    | ((with_reducible refine wpList_load_wordG ?_ 27 25 (.tmp 3) rfl Try.underlying27 winfo (w.heap.size) (a) ?_ ?_ ?_); (exact rfl); (exact rfl); (exact HS.at (w.heap.size) (a) (by simp))))
  refine (mul_w b a _ hb ha).mono ?_
  rintro e c8 ⟨rfl, k8, he⟩
  rw [H6.out, H7.out]
  have HS := HS.ext he
  clear he
  go_wp2_with (first
    | ((with_reducible refine wpList_store_word rfl rfl 27 (.tmp 20) (.tmp 104) rfl winfo (c8.heap.size) (wc 0) (p) ?_ ?_ ?_ ?_ ?_); (exact rfl); (exact rfl); (exact heap_alloc_new _ _); (exact rfl); intro s8 kz gz; have HS := HS.put gz kz; clear kz gz)
    | ((with_reducible refine wpList_load_wordG ?_ 27 25 (.tmp 19) rfl Try.underlying27 winfo (c7.heap.size) (p) ?_ ?_ ?_); (exact rfl); (exact rfl); (exact HS.at (c7.heap.size) (p) (by simp)))
    | ((with_reducible refine wpList_load_wordG ?_ 27 25 (.tmp 5) rfl Try.underlying27 winfo (w.heap.size + 1 + 1) (c) ?_ ?_ ?_); (exact rfl); (exact rfl); (exact HS.at (w.heap.size + 1 + 1) (c) (by simp))))
  refine (mul_w p c _ k7 hc).mono ?_
  rintro e c9 ⟨rfl, k9, he⟩
  generalize mulN p c = pc1 at *
  generalize mulO p c = o7 at *
  have HS := HS.ext he
  clear he
  go_wp2_with (first
    | ((with_reducible refine wpList_store_word rfl rfl 27 (.tmp 21) (.tmp 110) rfl winfo (c9.heap.size) (wc 0) (pc1) ?_ ?_ ?_ ?_ ?_); (exact rfl); (exact rfl); (exact heap_alloc_new _ _); (exact rfl); intro s9 kz gz; have HS := HS.put gz kz; clear kz gz)
    | ((with_reducible refine wpList_load_wordG ?_ 27 25 (.tmp 4) rfl Try.underlying27 winfo (w.heap.size + 1) (b) ?_ ?_ ?_); (exact rfl); (exact rfl); (exact HS.at (w.heap.size + 1) (b) (by simp)))
    | ((with_reducible refine wpList_load_wordG ?_ 27 25 (.tmp 5) rfl Try.underlying27 winfo (w.heap.size + 1 + 1) (c) ?_ ?_ ?_); (exact rfl); (exact rfl); (exact HS.at (w.heap.size + 1 + 1) (c) (by simp))))
  refine (mul_w b c _ hb hc).mono ?_
  rintro e c10 ⟨rfl, k10, he⟩
  generalize mulN b c = r at *
  generalize mulO b c = o8 at *
  have HS := HS.ext he
  clear he
  go_wp2_with (first
    | ((with_reducible refine wpList_store_word rfl rfl 27 (.tmp 23) (.tmp 116) rfl winfo (c10.heap.size) (wc 0) (r) ?_ ?_ ?_ ?_ ?_); (exact rfl); (exact rfl); (exact heap_alloc_new _ _); (exact rfl); intro s10 kz gz; have HS := HS.put gz kz; clear kz gz)
    | ((with_reducible refine wpList_load_wordG ?_ 27 25 (.tmp 3) rfl Try.underlying27 winfo (w.heap.size) (a) ?_ ?_ ?_); (exact rfl); (exact rfl); (exact HS.at (w.heap.size) (a) (by simp)))
    | ((with_reducible refine wpList_load_wordG ?_ 27 25 (.tmp 23) rfl Try.underlying27 winfo (c10.heap.size) (r) ?_ ?_ ?_); (exact rfl); (exact rfl); (exact HS.at (c10.heap.size) (r) (by simp))))
  refine (mul_w a r _ ha k10).mono ?_
  rintro e c11 ⟨rfl, k11, he⟩
  rw [H8.out]
  generalize mulO a r = o9 at *
  have HS := HS.ext he
  clear he
  go_wp2_with (first
    | ((with_reducible refine wpList_store_word rfl rfl 27 (.tmp 25) (.tmp 122) rfl winfo (c11.heap.size) (wc 0) (pc1) ?_ ?_ ?_ ?_ ?_); (exact rfl); (exact rfl); (exact heap_alloc_new _ _); (exact rfl); intro s11 kz gz; have HS := HS.put gz kz; clear kz gz)
    | ((with_reducible refine wpList_load_wordG ?_ 27 25 (.tmp 19) rfl Try.underlying27 winfo (c7.heap.size) (p) ?_ ?_ ?_); (exact rfl); (exact rfl); (exact HS.at (c7.heap.size) (p) (by simp)))
    | ((with_reducible refine wpList_load_wordG ?_ 27 25 (.tmp 20) rfl Try.underlying27 winfo (c8.heap.size) (p) ?_ ?_ ?_); (exact rfl); (exact rfl); (exact HS.at (c8.heap.size) (p) (by simp)))
    | ((with_reducible refine wpList_neq_word ?_ (.tmp 124) (.tmp 125) rfl (p) (p) (k7) (k7) ?_ ?_ ?_); (exact rfl); (exact rfl); (exact rfl); rw [show (p != p) = false by simp])
    | ((with_reducible refine wpList_load_wordG ?_ 27 25 (.tmp 21) rfl Try.underlying27 winfo (c9.heap.size) (pc1) ?_ ?_ ?_); (exact rfl); (exact rfl); (exact HS.at (c9.heap.size) (pc1) (by simp)))
    | ((with_reducible refine wpList_load_wordG ?_ 27 25 (.tmp 25) rfl Try.underlying27 winfo (c11.heap.size) (pc1) ?_ ?_ ?_); (exact rfl); (exact rfl); (exact HS.at (c11.heap.size) (pc1) (by simp)))
    | ((with_reducible refine wpList_neq_word ?_ (.tmp 133) (.tmp 134) rfl (pc1) (pc1) (k9) (k9) ?_ ?_ ?_); (exact rfl); (exact rfl); (exact rfl); rw [show (pc1 != pc1) = false by simp])
    | ((with_reducible refine wpList_load_wordG ?_ 27 25 (.tmp 7) rfl Try.underlying27 winfo (c1.heap.size) (ab) ?_ ?_ ?_); (exact rfl); (exact rfl); (exact HS.at (c1.heap.size) (ab) (by simp)))
    | ((with_reducible refine wpList_load_wordG ?_ 27 25 (.tmp 5) rfl Try.underlying27 winfo (w.heap.size + 1 + 1) (c) ?_ ?_ ?_); (exact rfl); (exact rfl); (exact HS.at (w.heap.size + 1 + 1) (c) (by simp))))
  refine (mul_w ab c _ k1 hc).mono ?_
  rintro e c12 ⟨rfl, k12, he⟩
  generalize mulN ab c = abc at *
  generalize mulO ab c = o10 at *
  have HS := HS.ext he
  clear he
  go_wp2_with (first
    | ((with_reducible refine wpList_store_word rfl rfl 27 (.tmp 27) (.tmp 141) rfl winfo (c12.heap.size) (wc 0) (abc) ?_ ?_ ?_ ?_ ?_); (exact rfl); (exact rfl); (exact heap_alloc_new _ _); (exact rfl); intro s12 kz gz; have HS := HS.put gz kz; clear kz gz)
    | ((with_reducible refine wpList_load_wordG ?_ 27 25 (.tmp 3) rfl Try.underlying27 winfo (w.heap.size) (a) ?_ ?_ ?_); (exact rfl); (exact rfl); (exact HS.at (w.heap.size) (a) (by simp)))
    | ((with_reducible refine wpList_load_wordG ?_ 27 25 (.tmp 5) rfl Try.underlying27 winfo (w.heap.size + 1 + 1) (c) ?_ ?_ ?_); (exact rfl); (exact rfl); (exact HS.at (w.heap.size + 1 + 1) (c) (by simp))))
  refine (mul_w a c _ ha hc).mono ?_
  rintro e c13 ⟨rfl, k13, he⟩
  generalize mulN a c = ac at *
  generalize mulO a c = o11 at *
  have HS := HS.ext he
  clear he
  go_wp2_with (first
    | ((with_reducible refine wpList_store_word rfl rfl 27 (.tmp 29) (.tmp 147) rfl winfo (c13.heap.size) (wc 0) (ac) ?_ ?_ ?_ ?_ ?_); (exact rfl); (exact rfl); (exact heap_alloc_new _ _); (exact rfl); intro s13 kz gz; have HS := HS.put gz kz; clear kz gz)
    | ((with_reducible refine wpList_load_wordG ?_ 27 25 (.tmp 29) rfl Try.underlying27 winfo (c13.heap.size) (ac) ?_ ?_ ?_); (exact rfl); (exact rfl); (exact HS.at (c13.heap.size) (ac) (by simp)))
    | ((with_reducible refine wpList_load_wordG ?_ 27 25 (.tmp 23) rfl Try.underlying27 winfo (c10.heap.size) (r) ?_ ?_ ?_); (exact rfl); (exact rfl); (exact HS.at (c10.heap.size) (r) (by simp))))
  refine (add_w ac r _ k13 k10).mono ?_
  rintro e c14 ⟨rfl, k14, he⟩
  rw [H9.out]
  generalize ovr ac r = o12 at *
  have HS := HS.ext he
  clear he
  go_wp2_with (first
    | ((with_reducible refine wpList_store_word rfl rfl 27 (.tmp 31) (.tmp 153) rfl winfo (c14.heap.size) (wc 0) (abc) ?_ ?_ ?_ ?_ ?_); (exact rfl); (exact rfl); (exact heap_alloc_new _ _); (exact rfl); intro s14 kz gz; have HS := HS.put gz kz; clear kz gz))
  have HS := HS.sub [(c14.heap.size, abc), (c12.heap.size, abc), (w.heap.size, a)] (by simp)
  have HQ := Lib.hid (show (mulN a 1 == a) = true by rw [H10.out]; simp)
  have NF := HS.fresh
  have hsz := HS.2.size
  have e1 : wv (mulN a 1) = lit (mulN a 1) := rfl
  have hz0 : ∀ (W : World) (g : Nat), Zb W g → W.cell? ⟨g, 0, none⟩ = some (.int .u64 0) := fun _ _ h => h.c0
  have hz1 : ∀ (W : World) (g : Nat), Zb W g → W.cell? ⟨g, 1, none⟩ = some (.int .u64 0) := fun _ _ h => h.c1
  have hz2 : ∀ (W : World) (g : Nat), Zb W g → W.cell? ⟨g, 2, none⟩ = some (.int .u64 0) := fun _ _ h => h.c2
  have hz3 : ∀ (W : World) (g : Nat), Zb W g → W.cell? ⟨g, 3, none⟩ = some (.int .u64 0) := fun _ _ h => h.c3
  have hzf : ∀ (W : World) (g i : Nat), Zb W g → W.frozen? ⟨g, i, none⟩ = false := fun _ _ i h => h.f i
  go_region_held3 (fun w' => (w'.cell? ⟨w.heap.size, 0, none⟩ = some (.int .u64 (lb a 0 : Nat)) ∧ w'.cell? ⟨w.heap.size, 1, none⟩ = some (.int .u64 (lb a 1 : Nat)) ∧ w'.cell? ⟨w.heap.size, 2, none⟩ = some (.int .u64 (lb a 2 : Nat)) ∧ w'.cell? ⟨w.heap.size, 3, none⟩ = some (.int .u64 (lb a 3 : Nat))))
    (((refine Wd.f4 (Ks.at (w := w) (l := [(c14.heap.size, abc), (c12.heap.size, abc), (w.heap.size, a)]) ?_ (w.heap.size) a (by simp))); (repeat (first | exact HS | (with_reducible refine Ks.drew ?_) | (with_reducible refine Ks.al ?_ _) | (refine Ks.ext ?_ (by assumption)) | (refine Ks.sc ?_ _ _ (by first | assumption | omega) (by assumption))))))
    (first
      | (go_at_call 40; refine (of_w 1 _ rfl _ (by decide)).mono ?_; rintro e wo ⟨rfl, hlt1, heO⟩; have NO : ∀ x ∈ [(c14.heap.size, abc), (c12.heap.size, abc), (w.heap.size, a)], x.1 ≠ wo.heap.size := Ks.fresh (w := w) (W := wo) (by repeat (first | exact HS | (with_reducible refine Ks.drew ?_) | (with_reducible refine Ks.al ?_ _) | (refine Ks.ext ?_ (by assumption)) | (refine Ks.sc ?_ _ _ (by first | assumption | omega) (by assumption)))); have hO : w.heap.size ≤ wo.heap.size := Ext.size (show Ks w [(c14.heap.size, abc), (c12.heap.size, abc), (w.heap.size, a)] wo by repeat (first | exact HS | (with_reducible refine Ks.drew ?_) | (with_reducible refine Ks.al ?_ _) | (refine Ks.ext ?_ (by assumption)) | (refine Ks.sc ?_ _ _ (by first | assumption | omega) (by assumption)))).2; (first | have zO := Zb.ext (Zb.new _) heO | have zO := Zb.ext (Zb.drew (Zb.new _)) heO | skip))
      | (go_at_call 23; refine (mul_w _ _ _ (by assumption) (by assumption)).mono ?_; rintro e wm ⟨rfl, hlt2, heM⟩; (first | have zM := Zb.ext (Zb.new _) heM | have zM := Zb.ext zO heM | skip)))
  all_goals
    rw [H11.out]
    clear e1 hz0 hz1 hz2 hz3 hzf
    go_wp2_with (first
      | ((with_reducible refine wpList_load_wordG ?_ 27 25 (.tmp 27) rfl Try.underlying27 winfo (c12.heap.size) (abc) ?_ ?_ ?_); (exact rfl); (exact rfl); (exact Ks.at (w := w) (l := [(c14.heap.size, abc), (c12.heap.size, abc), (w.heap.size, a)]) (by repeat (first | exact HS | (with_reducible refine Ks.drew ?_) | (with_reducible refine Ks.al ?_ _) | (refine Ks.ext ?_ (by assumption)) | (refine Ks.sc ?_ _ _ (by first | assumption | omega) (by assumption)))) (c12.heap.size) (abc) (by simp)))
      | ((with_reducible refine wpList_load_wordG ?_ 27 25 (.tmp 31) rfl Try.underlying27 winfo (c14.heap.size) (abc) ?_ ?_ ?_); (exact rfl); (exact rfl); (exact Ks.at (w := w) (l := [(c14.heap.size, abc), (c12.heap.size, abc), (w.heap.size, a)]) (by repeat (first | exact HS | (with_reducible refine Ks.drew ?_) | (with_reducible refine Ks.al ?_ _) | (refine Ks.ext ?_ (by assumption)) | (refine Ks.sc ?_ _ _ (by first | assumption | omega) (by assumption)))) (c14.heap.size) (abc) (by simp)))
      | ((with_reducible refine wpList_load_wordG ?_ 27 25 (.tmp 3) rfl Try.underlying27 winfo (w.heap.size) (a) ?_ ?_ ?_); (exact rfl); (exact rfl); (exact Ks.at (w := w) (l := [(c14.heap.size, abc), (c12.heap.size, abc), (w.heap.size, a)]) (by repeat (first | exact HS | (with_reducible refine Ks.drew ?_) | (with_reducible refine Ks.al ?_ _) | (refine Ks.ext ?_ (by assumption)) | (refine Ks.sc ?_ _ _ (by first | assumption | omega) (by assumption)))) (w.heap.size) (a) (by simp)))
      | ((with_reducible refine wpList_load_wordG ?_ 27 25 (.tmp 33) rfl Try.underlying27 winfo (s14.heap.size) (mulN a 1) ?_ ?_ ?_); (exact rfl); (exact rfl); (exact zM.laid _))
      | ((with_reducible refine wpList_load_wordG ?_ 27 25 (.tmp 33) rfl Try.underlying27 winfo (wo.heap.size) (mulN a 1) ?_ ?_ ?_); (exact rfl); (exact rfl); (exact zM.laid _))
      | ((with_reducible refine wpList_load_wordG ?_ 27 25 (.tmp 33) rfl Try.underlying27 winfo (wm.heap.size) (mulN a 1) ?_ ?_ ?_); (exact rfl); (exact rfl); (exact Cs.new _ _ _ _ rfl))
      | ((with_reducible refine wpList_eql_word ?_ (.tmp 161) (.tmp 162) rfl (abc) (abc) (k12) (k12) ?_ ?_ ?_); (exact rfl); (exact rfl); (exact rfl); rw [show (abc == abc) = true by simp])
      | ((with_reducible refine wpList_eql_word ?_ (.tmp 165) (.tmp 166) rfl (mulN a 1) (a) (mulN_lt a 1) (ha) ?_ ?_ ?_); (exact rfl); (exact rfl); (exact rfl); rw [HQ.out]))
    go_ret
    exact ⟨rfl, (show Ks w [(c14.heap.size, abc), (c12.heap.size, abc), (w.heap.size, a)] _ by repeat (first | exact HS | (with_reducible refine Ks.drew ?_) | (with_reducible refine Ks.al ?_ _) | (refine Ks.ext ?_ (by assumption)) | (refine Ks.sc ?_ _ _ (by first | assumption | omega) (by assumption)))).2⟩

theorem ring_told (W : World) (args : Array Value) (h : Told Try.f8 W args) : Calls Try.prog 8 args W (RetT W) := by
  obtain ⟨H, enc, base, ds, p, hval, hA⟩ := h
  rw [Try.params8] at hA hval
  obtain ⟨v0, v1, v2, d0, d1, d2, p0, p1, p2, rfl, rfl, rfl, h0, h1, h2⟩ := trodAll_three hA
  obtain ⟨a, ha, rfl⟩ := word_came (hval 0 _ v0 rfl rfl) h0
  obtain ⟨b, hb, rfl⟩ := word_came (hval 1 _ v1 rfl rfl) h1
  obtain ⟨c, hc, rfl⟩ := word_came (hval 2 _ v2 rfl rfl) h2
  exact ring_walk a b c W ha hb hc

theorem ring_spec (H : Type) : ∀ ds : List (DataW H), ds.length = Try.f8.params.toList.length → Rows.wordRingSpec.fn H ds = { results := [.lit (.bool true)], args := ds }
  | [_, _, _], _ => rfl
  | [], h | [_], h | [_, _], h | _ :: _ :: _ :: _ :: _, h => by rw [Try.params8] at h; simp at h

set_option maxRecDepth 100000 in
theorem wordRing_holds : Rows.WordRingSaid :=
  OpenClaim.holds_of_wide 8 Try.f8 rfl rfl rfl rfl rfl rfl rfl ⟨rfl, rfl, rfl, rfl, rfl⟩ rfl rfl rfl rfl rfl (by kernel_rfl) Try.func8 (by kernel_rfl)
    (of_decide_eq_true (by kernel_rfl)) (by unfold Func.isWrapper; first | (rw [if_pos (by decide +kernel)]; kernel_rfl) | (rw [if_neg (by decide +kernel)]; exact ⟨rfl, rfl⟩))
    (fun os started H enc _ => law_lifted started (by kernel_rfl) Try.func8 rfl rfl (ring_spec H) (of_decide_eq_true (by kernel_rfl))
      (ChangeSpec.witness6 (enc := enc) (C := Try.checked) false ⟨#[], #[.agg #[.int .u64 0, .int .u64 0, .int .u64 0, .int .u64 0], .agg #[.int .u64 0, .int .u64 0, .int .u64 0, .int .u64 0], .agg #[.int .u64 0, .int .u64 0, .int .u64 0, .int .u64 0]], []⟩ 8 (by kernel_rfl) (by kernel_rfl) (by kernel_rfl) (by kernel_rfl)) ring_told)
end Go.Proofs.Ytgjpddalccmlkaa
