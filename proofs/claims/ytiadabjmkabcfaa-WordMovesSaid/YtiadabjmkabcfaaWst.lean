/- The law WordMoves: a word moved is its product with a power of two, or how many times that is in it. -/
import Derived.Test.YtiadabjmkabcfaaWrs
import Derived.Test.YtiadabjmkabcfaaInw
import Derived.Deep.DeepCutAuto
namespace Go.Proofs.Ytiadabjmkabcfaa
open Go.ChangeShapes Go.WideShapes Go.ChangeAt Go.RowKit

theorem shl_one (n : Nat) (hn : n < 256) : shlN 1 n = 2 ^ n := by
  unfold shlN
  rw [if_pos hn, Nat.one_mul, M256_pow, Nat.mod_eq_of_lt (Nat.pow_lt_pow_right (by decide) hn)]
theorem shl_mul (a n : Nat) : mulN a (shlN 1 n) = shlN a n := by
  by_cases h : n < 256
  · rw [shl_one n h]
    unfold mulN shlN
    rw [if_pos h]
  · unfold mulN shlN
    rw [if_neg h, if_neg h]
    rfl
theorem shr_div (a n : Nat) (h : n < 256) : shrN a n = quoN a (shlN 1 n) := by
  rw [shl_one n h]
  unfold shrN quoN
  rw [if_pos h]
theorem shl_far (a n : Nat) (h : ¬ n < 256) : shlN a n = 0 := by unfold shlN; rw [if_neg h]
theorem shr_far (a n : Nat) (h : ¬ n < 256) : shrN a n = 0 := by unfold shrN; rw [if_neg h]
theorem shl_shl (a n m : Nat) : shlN (shlN a n) m = shlN a (n + m) := by
  by_cases h : n + m < 256
  · unfold shlN
    rw [if_pos (show m < 256 by omega), if_pos (show n < 256 by omega), if_pos h, Nat.mod_mul_mod, Nat.mul_assoc, ← Nat.pow_add]
  · rw [shl_far a (n + m) h]
    by_cases hm : m < 256
    · by_cases hn : n < 256
      · unfold shlN
        rw [if_pos hm, if_pos hn, Nat.mod_mul_mod, Nat.mul_assoc, ← Nat.pow_add, M256_pow]
        obtain ⟨k, hk⟩ : ∃ k, n + m = 256 + k := ⟨n + m - 256, by omega⟩
        rw [hk, Nat.pow_add, Nat.mul_left_comm]
        exact Nat.mul_mod_right _ _
      · rw [shl_far a n hn]
        unfold shlN
        rw [if_pos hm, Nat.zero_mul]
        rfl
    · exact shl_far _ m hm
theorem shr_shr (a n m : Nat) (ha : a < M256) : shrN (shrN a n) m = shrN a (n + m) := by
  by_cases h : n + m < 256
  · unfold shrN
    rw [if_pos (show m < 256 by omega), if_pos (show n < 256 by omega), if_pos h, Nat.div_div_eq_div_mul, ← Nat.pow_add]
  · rw [shr_far a (n + m) h]
    by_cases hm : m < 256
    · by_cases hn : n < 256
      · unfold shrN
        rw [if_pos hm, if_pos hn, Nat.div_div_eq_div_mul, ← Nat.pow_add]
        exact Nat.div_eq_of_lt (Nat.lt_of_lt_of_le ha (by rw [M256_pow]; exact Nat.pow_le_pow_right (by decide) (by omega)))
      · rw [shr_far a n hn]
        unfold shrN
        rw [if_pos hm, Nat.zero_div]
    · exact shr_far _ m hm

/-- One more word. -/
theorem Ks.one {w : World} {l : List (Nat × Nat)} {W : World} {g n : Nat} (h : Ks w l W) (k : Wd W g 27 n) : Ks w ((g, n) :: l) W :=
  ⟨fun x hx => by
    rcases List.mem_cons.1 hx with rfl | hx
    · exact k
    · exact h.1 x hx, h.2⟩

set_option maxRecDepth 100000 in
set_option maxHeartbeats 8000000 in
theorem moves_walk (a n0 m0 n m : Nat) (w : World) (ha : a < M256) (hn0 : ((n0 : Int) % 300) = (n : Int)) (hm0 : ((m0 : Int) % 300) = (m : Int)) (hn : n < 300) (hm : m < 300) : Calls Try.prog 10 #[wv a, .int .u64 n0, .int .u64 m0] w (RetT w) := by
  have HNM := Lib.hid (And.intro hn hm)
  clear hn hm
  unfold wv
  go_enter Try.func10, Try.ntmps10
  go_wp2_with fail
  refine (wakes_any _).mono ?_
  rintro e w1 ⟨rfl, he1⟩
  have HS : Ks w [(w.heap.size, a)] w1 :=
    ⟨fun x hx => by
      simp only [List.mem_cons, List.not_mem_nil, or_false] at hx
      rcases hx with rfl
      exact Cs.ext (Cs.new _ _ _ _ rfl) he1, Ext.trans ((Ext.refl w).alloc _) he1⟩
  clear he1
  go_wp2_with fail
  refine (of_w n _ rfl _ (by have := HNM.out.1; omega)).mono ?_
  rintro e w2 ⟨rfl, kn, he⟩
  have HS := HS.ext he
  clear he
  go_wp2_with fail
  refine (of_w m _ rfl _ (by have := HNM.out.2; omega)).mono ?_
  rintro e w3 ⟨rfl, km, he⟩
  have HS := HS.ext he
  clear he
  go_upto_region 5 with (first
    | ((with_reducible refine wpList_store_word rfl rfl 27 (.tmp 7) (.tmp 21) rfl winfo (w3.heap.size) (wc 0) n ?_ ?_ ?_ ?_ ?_); (exact rfl); (exact rfl); (exact (Cs.new _ _ _ _ rfl).alloc _); (exact rfl); intro w4 k4 g4)
    | ((with_reducible refine wpList_store_word rfl rfl 27 (.tmp 8) (.tmp 23) rfl winfo (w3.heap.size + 1) (wc 0) m ?_ ?_ ?_ ?_ ?_); (exact rfl); (exact rfl); (exact (Cs.new _ _ _ _ (by simp)).kept g4 (some_ne (by omega))); (exact rfl); intro w5 k5 g5))
  have HS := HS.put2 g4 k4 g5 k5
  clear g4 k4 g5 k5
  go_cut [9] (fun s9 wq => ∃ g9 : Nat, s9 = .pointer (some ⟨g9, 0, none⟩) ∧ Hid (Ks w ((g9, shlN 1 n) :: [(w3.heap.size, n), (w3.heap.size + 1, m), (w.heap.size, a)]) wq))
  case first =>
    refine wp_named fun a0 ha0 => ?_
    obtain ⟨fr, hfr⟩ : ∃ fr : (Nat → Value) → Act, ∀ V, fr V = ((((a0.put (some 24) (V 0)).put (some 25) (V 1)).put (some 26) (V 2)).put (some 9) (V 3)) := ⟨fun V => ((((a0.put (some 24) (V 0)).put (some 25) (V 1)).put (some 26) (V 2)).put (some 9) (V 3)), fun _ => rfl⟩
    rw [ha0] at hfr
    simp only [Act.put, List.setIfInBounds_toArray, List.set_cons_zero, List.set_cons_succ] at hfr
    have HFR := Lib.hid hfr
    clear hfr
    refine wp_region_inv (by kernel_rfl) (by kernel_rfl) (fun L A W => ∃ V : Nat → Value, A = fr V ∧ Ks w [(w3.heap.size, n), (w3.heap.size + 1, m), (w.heap.size, a)] W ∧ Vals (fun j => ([some (wv 1), some (wv (n)), some (wv (shlN 1 n)), none, none] : List (Option Value)).getD j none) L V ∧ (L 3 = true → Nb w [(w3.heap.size, n), (w3.heap.size + 1, m), (w.heap.size, a)] W (V 3) (L 4) (shlN 1 n))) ?_ ⟨?_, ?_, ?_, ?_, ?_, trivial⟩ ?_
    · refine ⟨fun j => a0.tmps.getD (([24, 25, 26, 9, 0] : List Nat).getD j 0) undef, ?_, HS.drew, Vals.no _ _ _ (fun j hj => by simp at hj; simp [List.getD, List.getElem?_eq_none, hj]), fun h => absurd h (by decide)⟩
      rw [HFR.out, ha0]
      rfl
    all_goals clear ha0
    · rintro L A W K hL hC hW ⟨V, rfl, HS, HV, f3⟩ hK
      have H := Lib.hid (show ∀ W', Ext W W' → K (fr (upd V 0 (wv 1))) W' from fun W' he => hK _ _ ⟨upd V 0 (wv 1), rfl, HS.ext he, HV.up 0 _ (fun x hx => Option.some.inj hx), fun h => Nb.weak (Nb.ext (f3 (more_ne h rfl)) he) (fun h => more_ne h rfl)⟩)
      clear hK hC hW hL HV f3
      rw [HFR.out]
      go_wp2_with fail
      refine (of_w 1 _ rfl _ (by decide)).mono ?_
      rintro e wx ⟨rfl, hlt, he⟩
      have := H.out _ he
      clear H
      go_wp2_with fail
      show K _ _
      rw [HFR.out] at this
      exact this
    · rintro L A W K hL hC hW ⟨V, rfl, HS, HV, f3⟩ hK
      have H := Lib.hid (show ∀ W', Ext W W' → K (fr (upd V 1 (wv (n)))) W' from fun W' he => hK _ _ ⟨upd V 1 (wv (n)), rfl, HS.ext he, HV.up 1 _ (fun x hx => Option.some.inj hx), fun h => Nb.weak (Nb.ext (f3 (more_ne h rfl)) he) (fun h => more_ne h rfl)⟩)
      clear hK hC hW hL HV f3
      rw [HFR.out]
      refine wpList_load_wordG rfl 27 25 (.tmp 7) rfl Try.underlying27 winfo (w3.heap.size) (n) rfl (HS.at (w3.heap.size) (n) (by simp)) ?_
      show K _ _
      have := H.out _ (Ext.refl _)
      rw [HFR.out] at this
      exact this
    · rintro L A W K hL hC hW ⟨V, rfl, HS, HV, f3⟩ hK
      have e0 : V 0 = wv 1 := HV 0 _ rfl (hW 0 rfl)
      have e1 : V 1 = wv (n) := HV 1 _ rfl (hW 1 rfl)
      have u0 : (upd V 2 (wv (shlN 1 n))) 0 = wv 1 := e0
      have u1 : (upd V 2 (wv (shlN 1 n))) 1 = wv (n) := e1
      have HU := Lib.hid (show (upd V 2 (wv (shlN 1 n))) 0 = wv 1 ∧ (upd V 2 (wv (shlN 1 n))) 1 = wv (n) from ⟨u0, u1⟩)
      clear u0 u1
      have H := Lib.hid (show ∀ W', Ext W W' → K (fr (upd V 2 (wv (shlN 1 n)))) W' from fun W' he => hK _ _ ⟨upd V 2 (wv (shlN 1 n)), rfl, HS.ext he, HV.up 2 _ (fun x hx => Option.some.inj hx), fun h => Nb.weak (Nb.ext (f3 (more_ne h rfl)) he) (fun h => more_ne h rfl)⟩)
      clear hK hC hW hL HV f3
      rw [HFR.out]
      rw [e0, e1]
      clear e0 e1
      go_wp2_with fail
      refine (shl_w 1 n _ (by decide) (by have := HNM.out.1; unfold M256; omega)).mono ?_
      rintro e wx ⟨rfl, hlt, he⟩
      have := H.out _ he
      clear H
      go_wp2_with fail
      show K _ _
      rw [HFR.out] at this
      obtain ⟨u0, u1⟩ := HU.out
      rw [u0, u1] at this
      exact this
    · rintro L A W K hL hC hW ⟨V, rfl, HS, HV, f3⟩ hK
      have H := Lib.hid (hK _ _ ⟨upd V 3 (.pointer (some ⟨W.heap.size, 0, none⟩)), rfl, HS.al _, HV.up 3 _ (fun x hx => absurd hx (by intro h; cases h)), fun _ => Nb.new HS _ (by show More L 3 4 = false; unfold More; rw [if_neg (by decide)]; exact hC.no hL 4 _ rfl rfl) _⟩)
      clear hK hC hW hL HV f3
      rw [HFR.out]
      go_wp2_with fail
      show K _ _
      have := H.out
      rw [HFR.out] at this
      exact this
    · rintro L A W K hL hC hW ⟨V, rfl, HS, HV, f3⟩ hK
      have e2 : V 2 = wv (shlN 1 n) := HV 2 _ rfl (hW 2 rfl)
      have u2 : (V) 2 = wv (shlN 1 n) := e2
      have HU := Lib.hid (show (V) 2 = wv (shlN 1 n) from u2)
      clear u2
      rw [HFR.out]
      rw [e2]
      refine wpList_store_nb rfl rfl (.tmp 9) (.tmp 26) rfl winfo HS (f3 (hW 3 rfl)) rfl rfl ?_
      intro W' g hg HS' hn hgr
      show K _ _
      have := hK _ _ ⟨V, rfl, HS', HV.st 4 rfl, fun _ => hn _⟩
      rw [HFR.out] at this
      obtain u2 := HU.out
      rw [u2] at this
      exact this
    · rintro L A W hL ⟨V, rfl, HS, HV, f3⟩
      have e0 : V 0 = wv 1 := HV 0 _ rfl (hL 0 (by simp))
      have e1 : V 1 = wv (n) := HV 1 _ rfl (hL 1 (by simp))
      have e2 : V 2 = wv (shlN 1 n) := HV 2 _ rfl (hL 2 (by simp))
      obtain ⟨g9, p9, hb9, hn9, k9⟩ := Nb.done (Nb.weak (f3 (hL 3 (by simp))) (fun _ => hL 4 (by simp)))
      rw [HFR.out]
      rw [e0, e1, e2, p9]
      clear hL HV e0 e1 e2 p9 f3
      go_wp2_with fail
      go_meet
      exact ⟨g9, rfl, HS.cons k9⟩
  case rest =>
    obtain ⟨g9, rfl, HC⟩ := hcut
    generalize hwc : wc = w6 at *
    clear hwc wc
    have HS := HC.out
    clear HC
    go_wp2_with (first
      | ((with_reducible refine wpList_load_wordG ?_ 27 25 (.tmp 3) rfl Try.underlying27 winfo (w.heap.size) (a) ?_ ?_ ?_); (exact rfl); (exact rfl); (exact HS.at (w.heap.size) (a) (by simp)))
      | ((with_reducible refine wpList_load_wordG ?_ 27 25 (.tmp 9) rfl Try.underlying27 winfo (g9) (shlN 1 n) ?_ ?_ ?_); (exact rfl); (exact rfl); (exact HS.at (g9) (shlN 1 n) (by simp))))
    refine (mul_w a (shlN 1 n) _ ha (shlN_lt _ _)).mono ?_
    rintro e w7 ⟨rfl, kp, he⟩
    rw [shl_mul] at *
    generalize mulO a (shlN 1 n) = o1 at *
    have HS := HS.ext he
    clear he
    go_wp2_with (first
      | ((with_reducible refine wpList_store_word rfl rfl 27 (.tmp 10) (.tmp 31) rfl winfo (w7.heap.size) (wc 0) (shlN a n) ?_ ?_ ?_ ?_ ?_); (exact rfl); (exact rfl); (exact heap_alloc_new _ _); (exact rfl); intro w8 kz gz; have HS := HS.put gz kz; clear kz gz)
      | ((with_reducible refine wpList_load_wordG ?_ 27 25 (.tmp 3) rfl Try.underlying27 winfo (w.heap.size) (a) ?_ ?_ ?_); (exact rfl); (exact rfl); (exact HS.at (w.heap.size) (a) (by simp)))
      | ((with_reducible refine wpList_load_wordG ?_ 27 25 (.tmp 9) rfl Try.underlying27 winfo (g9) (shlN 1 n) ?_ ?_ ?_); (exact rfl); (exact rfl); (exact HS.at (g9) (shlN 1 n) (by simp))))
    refine (div_any a (shlN 1 n) _ ha (shlN_lt _ _)).mono ?_
    rintro e w9 ⟨rfl, he⟩
    have HS := HS.ext he
    clear he
    have kq : quoN a (shlN 1 n) < M256 := Nat.lt_of_le_of_lt (Nat.div_le_self _ _) ha
    have HQ := Lib.hid (show n < 256 → shrN a n = quoN a (shlN 1 n) from shr_div a n)
    have HP := Lib.hid (show ¬ n < 256 → shlN 1 n = 0 from shl_far 1 n)
    have kP : shlN 1 n < M256 := shlN_lt _ _
    generalize shlN 1 n = P at *
    generalize quoN a P = Q at *
    generalize remN a P = R at *
    go_upto_region 8 with (first
      | ((with_reducible refine wpList_store_word rfl rfl 27 (.tmp 12) (.tmp 37) rfl winfo (w9.heap.size) (wc 0) Q ?_ ?_ ?_ ?_ ?_); (exact rfl); (exact rfl); (exact (Cs.new _ _ _ _ rfl).alloc _); (exact rfl); intro w10 k4 g4)
      | ((with_reducible refine wpList_store_word rfl rfl 27 (.tmp 13) (.tmp 38) rfl winfo (w9.heap.size + 1) (wc 0) R ?_ ?_ ?_ ?_ ?_); (exact rfl); (exact rfl); (exact (Cs.new _ _ _ _ (by simp)).kept g4 (some_ne (by omega))); (exact rfl); intro w11 k5 g5))
    have HS := HS.put2 g4 k4 g5 k5
    clear g4 k4 g5 k5
    have HS := HS.sub [(w.heap.size, a), (w3.heap.size, n), (w3.heap.size + 1, m), (w7.heap.size, shlN a n), (w9.heap.size, Q), (g9, P)] (by simp)
    go_cut [70] (fun s70 wq => s70 = .bool false ∧ Hid (Ks w [(w.heap.size, a), (w3.heap.size, n), (w3.heap.size + 1, m)] wq))
    case first =>
      by_cases hn : n < 256
      · have h1 : decide ((n : Int) < 256) = true := by simp; omega
        have h2 : decide ((256 : Int) ≤ (n : Int)) = false := by simp; omega
        have HQ1 := HQ.out hn
        clear hn HQ HP
        subst HQ1
        refine wp_named fun a0 ha0 => ?_
        obtain ⟨fr, hfr⟩ : ∃ fr : (Nat → Value) → Act, ∀ V, fr V = ((((((((((((((((((((((((((((((((a0.put (some 39) (V 0)).put (some 40) (V 1)).put (some 41) (V 2)).put (some 42) (V 3)).put (some 43) (V 4)).put (some 44) (V 5)).put (some 45) (V 6)).put (some 46) (V 7)).put (some 47) (V 8)).put (some 48) (V 9)).put (some 49) (V 10)).put (some 50) (V 11)).put (some 51) (V 12)).put (some 52) (V 13)).put (some 53) (V 14)).put (some 54) (V 15)).put (some 55) (V 16)).put (some 56) (V 17)).put (some 57) (V 18)).put (some 58) (V 19)).put (some 59) (V 20)).put (some 60) (V 21)).put (some 61) (V 22)).put (some 62) (V 23)).put (some 63) (V 24)).put (some 64) (V 25)).put (some 65) (V 26)).put (some 66) (V 27)).put (some 67) (V 28)).put (some 68) (V 29)).put (some 69) (V 30)).put (some 70) (V 31)) := ⟨fun V => ((((((((((((((((((((((((((((((((a0.put (some 39) (V 0)).put (some 40) (V 1)).put (some 41) (V 2)).put (some 42) (V 3)).put (some 43) (V 4)).put (some 44) (V 5)).put (some 45) (V 6)).put (some 46) (V 7)).put (some 47) (V 8)).put (some 48) (V 9)).put (some 49) (V 10)).put (some 50) (V 11)).put (some 51) (V 12)).put (some 52) (V 13)).put (some 53) (V 14)).put (some 54) (V 15)).put (some 55) (V 16)).put (some 56) (V 17)).put (some 57) (V 18)).put (some 58) (V 19)).put (some 59) (V 20)).put (some 60) (V 21)).put (some 61) (V 22)).put (some 62) (V 23)).put (some 63) (V 24)).put (some 64) (V 25)).put (some 65) (V 26)).put (some 66) (V 27)).put (some 67) (V 28)).put (some 68) (V 29)).put (some 69) (V 30)).put (some 70) (V 31)), fun _ => rfl⟩
        rw [ha0] at hfr
        simp only [Act.put, List.setIfInBounds_toArray, List.set_cons_zero, List.set_cons_succ] at hfr
        have HFR := Lib.hid hfr
        clear hfr
        refine wp_region_inv (by kernel_rfl) (by kernel_rfl) (fun L A W => ∃ V : Nat → Value, A = fr V ∧ Ks w [(w.heap.size, a), (w3.heap.size, n), (w3.heap.size + 1, m), (w7.heap.size, shlN a n), (w9.heap.size, shrN a n), (g9, P)] W ∧ Vals (fun j => ([some (wv (a)), some (wv (n)), some (wv (shlN a n)), some (wv (shlN a n)), some (.bool false), some (.bool false), some (.int .u64 n), some (.bool true), some (.bool true), some (wv (a)), some (wv (n)), some (wv (shrN a n)), some (wv (shrN a n)), some (.bool false), some (.bool false), some (.bool false), some (.bool false), some (.int .u64 n), some (.bool false), some (.bool false), some (undef), some (undef), some (undef), some (undef), some (undef), some (undef), some (undef), some (undef), some (undef), some (undef), some (.bool false), some (.bool false)] : List (Option Value)).getD j none) L V) ?_ ⟨?_, ?_, ?_, ?_, ?_, ?_, ?_, ?_, ?_, ?_, ?_, ?_, ?_, ?_, ?_, ?_, ?_, ?_, ?_, ?_, ?_, ?_, ?_, ?_, ?_, ?_, ?_, ?_, ?_, ?_, ?_, ?_, trivial⟩ ?_
        · refine ⟨fun j => a0.tmps.getD (([39, 40, 41, 42, 43, 44, 45, 46, 47, 48, 49, 50, 51, 52, 53, 54, 55, 56, 57, 58, 59, 60, 61, 62, 63, 64, 65, 66, 67, 68, 69, 70] : List Nat).getD j 0) undef, ?_, HS.drew, Vals.no _ _ _ (fun j hj => by simp at hj; simp [List.getD, List.getElem?_eq_none, hj])⟩
          rw [HFR.out, ha0]
          rfl
        all_goals clear ha0
        · rintro L A W K hL hC hW ⟨V, rfl, HS, HV⟩ hK
          have H := Lib.hid (show ∀ W', Ext W W' → K (fr (upd V 0 (wv (a)))) W' from fun W' he => hK _ _ ⟨upd V 0 (wv (a)), rfl, HS.ext he, HV.up 0 _ (fun x hx => Option.some.inj hx)⟩)
          clear hK hC hW hL HV 
          rw [HFR.out]
          refine wpList_load_wordG rfl 27 25 (.tmp 3) rfl Try.underlying27 winfo (w.heap.size) (a) rfl (HS.at (w.heap.size) (a) (by simp)) ?_
          show K _ _
          have := H.out _ (Ext.refl _)
          rw [HFR.out] at this
          exact this
        · rintro L A W K hL hC hW ⟨V, rfl, HS, HV⟩ hK
          have H := Lib.hid (show ∀ W', Ext W W' → K (fr (upd V 1 (wv (n)))) W' from fun W' he => hK _ _ ⟨upd V 1 (wv (n)), rfl, HS.ext he, HV.up 1 _ (fun x hx => Option.some.inj hx)⟩)
          clear hK hC hW hL HV 
          rw [HFR.out]
          refine wpList_load_wordG rfl 27 25 (.tmp 7) rfl Try.underlying27 winfo (w3.heap.size) (n) rfl (HS.at (w3.heap.size) (n) (by simp)) ?_
          show K _ _
          have := H.out _ (Ext.refl _)
          rw [HFR.out] at this
          exact this
        · rintro L A W K hL hC hW ⟨V, rfl, HS, HV⟩ hK
          have e0 : V 0 = wv (a) := HV 0 _ rfl (hW 0 rfl)
          have e1 : V 1 = wv (n) := HV 1 _ rfl (hW 1 rfl)
          have u0 : (upd V 2 (wv (shlN a n))) 0 = wv (a) := e0
          have u1 : (upd V 2 (wv (shlN a n))) 1 = wv (n) := e1
          have HU := Lib.hid (show (upd V 2 (wv (shlN a n))) 0 = wv (a) ∧ (upd V 2 (wv (shlN a n))) 1 = wv (n) from ⟨u0, u1⟩)
          clear u0 u1
          have H := Lib.hid (show ∀ W', Ext W W' → K (fr (upd V 2 (wv (shlN a n)))) W' from fun W' he => hK _ _ ⟨upd V 2 (wv (shlN a n)), rfl, HS.ext he, HV.up 2 _ (fun x hx => Option.some.inj hx)⟩)
          clear hK hC hW hL HV 
          rw [HFR.out]
          rw [e0, e1]
          clear e0 e1
          go_wp2_with fail
          refine (shl_w a n _ ha kn).mono ?_
          rintro e wx ⟨rfl, hlt, he⟩
          have := H.out _ he
          clear H
          go_wp2_with fail
          show K _ _
          rw [HFR.out] at this
          obtain ⟨u0, u1⟩ := HU.out
          rw [u0, u1] at this
          exact this
        · rintro L A W K hL hC hW ⟨V, rfl, HS, HV⟩ hK
          have H := Lib.hid (show ∀ W', Ext W W' → K (fr (upd V 3 (wv (shlN a n)))) W' from fun W' he => hK _ _ ⟨upd V 3 (wv (shlN a n)), rfl, HS.ext he, HV.up 3 _ (fun x hx => Option.some.inj hx)⟩)
          clear hK hC hW hL HV 
          rw [HFR.out]
          refine wpList_load_wordG rfl 27 25 (.tmp 10) rfl Try.underlying27 winfo (w7.heap.size) (shlN a n) rfl (HS.at (w7.heap.size) (shlN a n) (by simp)) ?_
          show K _ _
          have := H.out _ (Ext.refl _)
          rw [HFR.out] at this
          exact this
        · rintro L A W K hL hC hW ⟨V, rfl, HS, HV⟩ hK
          have e2 : V 2 = wv (shlN a n) := HV 2 _ rfl (hW 2 rfl)
          have e3 : V 3 = wv (shlN a n) := HV 3 _ rfl (hW 3 rfl)
          have u2 : (upd V 4 (.bool false)) 2 = wv (shlN a n) := e2
          have u3 : (upd V 4 (.bool false)) 3 = wv (shlN a n) := e3
          have HU := Lib.hid (show (upd V 4 (.bool false)) 2 = wv (shlN a n) ∧ (upd V 4 (.bool false)) 3 = wv (shlN a n) from ⟨u2, u3⟩)
          clear u2 u3
          have H := Lib.hid (show ∀ W', Ext W W' → K (fr (upd V 4 (.bool false))) W' from fun W' he => hK _ _ ⟨upd V 4 (.bool false), rfl, HS.ext he, HV.up 4 _ (fun x hx => Option.some.inj hx)⟩)
          clear hK hC hW hL HV 
          rw [HFR.out]
          rw [e2, e3]
          clear e2 e3
          refine wpList_neq_word rfl (.tmp 41) (.tmp 42) rfl (shlN a n) (shlN a n) (kp) (kp) rfl rfl ?_
          rw [show ((shlN a n) != (shlN a n)) = false from bne_self_eq_false _]
          show K _ _
          have := H.out _ (Ext.refl _)
          rw [HFR.out] at this
          obtain ⟨u2, u3⟩ := HU.out
          rw [u2, u3] at this
          exact this
        · rintro L A W K hL hC hW ⟨V, rfl, HS, HV⟩ hK
          have e4 : V 4 = .bool false := HV 4 _ rfl (hW 4 rfl)
          have u4 : (upd V 5 (.bool false)) 4 = .bool false := e4
          have HU := Lib.hid (show (upd V 5 (.bool false)) 4 = .bool false from u4)
          clear u4
          have H := Lib.hid (show ∀ W', Ext W W' → K (fr (upd V 5 (.bool false))) W' from fun W' he => hK _ _ ⟨upd V 5 (.bool false), rfl, HS.ext he, HV.up 5 _ (fun x hx => Option.some.inj hx)⟩)
          clear hK hC hW hL HV 
          rw [HFR.out]
          rw [e4]
          clear e4
          go_wp2_with fail
          show K _ _
          have := H.out _ (Ext.refl _)
          rw [HFR.out] at this
          obtain u4 := HU.out
          rw [u4] at this
          exact this
        · rintro L A W K hL hC hW ⟨V, rfl, HS, HV⟩ hK
          have e5 : V 5 = .bool false := HV 5 _ rfl (hW 5 rfl)
          have u5 : (upd V 6 (.int .u64 n)) 5 = .bool false := e5
          have HU := Lib.hid (show (upd V 6 (.int .u64 n)) 5 = .bool false from u5)
          clear u5
          have H := Lib.hid (show ∀ W', Ext W W' → K (fr (upd V 6 (.int .u64 n))) W' from fun W' he => hK _ _ ⟨upd V 6 (.int .u64 n), rfl, HS.ext he, HV.up 6 _ (fun x hx => Option.some.inj hx)⟩)
          clear hK hC hW hL HV 
          rw [HFR.out]
          rw [e5]
          clear e5
          go_wp2_with fail
          show K _ _
          have := H.out _ (Ext.refl _)
          rw [HFR.out] at this
          obtain u5 := HU.out
          rw [u5] at this
          exact this
        · rintro L A W K hL hC hW ⟨V, rfl, HS, HV⟩ hK
          have e5 : V 5 = .bool false := HV 5 _ rfl (hW 5 rfl)
          have e6 : V 6 = .int .u64 n := HV 6 _ rfl (hW 6 rfl)
          have u5 : (upd V 7 (.bool true)) 5 = .bool false := e5
          have u6 : (upd V 7 (.bool true)) 6 = .int .u64 n := e6
          have HU := Lib.hid (show (upd V 7 (.bool true)) 5 = .bool false ∧ (upd V 7 (.bool true)) 6 = .int .u64 n from ⟨u5, u6⟩)
          clear u5 u6
          have H := Lib.hid (show ∀ W', Ext W W' → K (fr (upd V 7 (.bool true))) W' from fun W' he => hK _ _ ⟨upd V 7 (.bool true), rfl, HS.ext he, HV.up 7 _ (fun x hx => Option.some.inj hx)⟩)
          clear hK hC hW hL HV 
          rw [HFR.out]
          rw [e5, e6]
          clear e5 e6
          go_wp2_with fail
          show K _ _
          have := H.out _ (Ext.refl _)
          rw [HFR.out] at this
          obtain ⟨u5, u6⟩ := HU.out
          rw [u5, u6] at this
          exact this
        · rintro L A W K hL hC hW ⟨V, rfl, HS, HV⟩ hK
          have e5 : V 5 = .bool false := HV 5 _ rfl (hW 5 rfl)
          have e7 : V 7 = .bool true := HV 7 _ rfl (hW 7 rfl)
          have u5 : (upd V 8 (.bool true)) 5 = .bool false := e5
          have u7 : (upd V 8 (.bool true)) 7 = .bool true := e7
          have HU := Lib.hid (show (upd V 8 (.bool true)) 5 = .bool false ∧ (upd V 8 (.bool true)) 7 = .bool true from ⟨u5, u7⟩)
          clear u5 u7
          have H := Lib.hid (show ∀ W', Ext W W' → K (fr (upd V 8 (.bool true))) W' from fun W' he => hK _ _ ⟨upd V 8 (.bool true), rfl, HS.ext he, HV.up 8 _ (fun x hx => Option.some.inj hx)⟩)
          clear hK hC hW hL HV 
          rw [HFR.out]
          rw [e5, e7]
          clear e5 e7
          go_wp2_with fail
          show K _ _
          have := H.out _ (Ext.refl _)
          rw [HFR.out] at this
          obtain ⟨u5, u7⟩ := HU.out
          rw [u5, u7] at this
          exact this
        · rintro L A W K hL hC hW ⟨V, rfl, HS, HV⟩ hK
          have e8 : V 8 = .bool true := HV 8 _ rfl (hW 8 rfl)
          have u8 : (upd V 9 (wv (a))) 8 = .bool true := e8
          have HU := Lib.hid (show (upd V 9 (wv (a))) 8 = .bool true from u8)
          clear u8
          have H := Lib.hid (show ∀ W', Ext W W' → K (fr (upd V 9 (wv (a)))) W' from fun W' he => hK _ _ ⟨upd V 9 (wv (a)), rfl, HS.ext he, HV.up 9 _ (fun x hx => Option.some.inj hx)⟩)
          clear hK hC hW hL HV 
          rw [HFR.out]
          rw [e8]
          clear e8
          refine wpList_load_wordG rfl 27 25 (.tmp 3) rfl Try.underlying27 winfo (w.heap.size) (a) rfl (HS.at (w.heap.size) (a) (by simp)) ?_
          show K _ _
          have := H.out _ (Ext.refl _)
          rw [HFR.out] at this
          obtain u8 := HU.out
          rw [u8] at this
          exact this
        · rintro L A W K hL hC hW ⟨V, rfl, HS, HV⟩ hK
          have e8 : V 8 = .bool true := HV 8 _ rfl (hW 8 rfl)
          have u8 : (upd V 10 (wv (n))) 8 = .bool true := e8
          have HU := Lib.hid (show (upd V 10 (wv (n))) 8 = .bool true from u8)
          clear u8
          have H := Lib.hid (show ∀ W', Ext W W' → K (fr (upd V 10 (wv (n)))) W' from fun W' he => hK _ _ ⟨upd V 10 (wv (n)), rfl, HS.ext he, HV.up 10 _ (fun x hx => Option.some.inj hx)⟩)
          clear hK hC hW hL HV 
          rw [HFR.out]
          rw [e8]
          clear e8
          refine wpList_load_wordG rfl 27 25 (.tmp 7) rfl Try.underlying27 winfo (w3.heap.size) (n) rfl (HS.at (w3.heap.size) (n) (by simp)) ?_
          show K _ _
          have := H.out _ (Ext.refl _)
          rw [HFR.out] at this
          obtain u8 := HU.out
          rw [u8] at this
          exact this
        · rintro L A W K hL hC hW ⟨V, rfl, HS, HV⟩ hK
          have e8 : V 8 = .bool true := HV 8 _ rfl (hW 8 rfl)
          have e9 : V 9 = wv (a) := HV 9 _ rfl (hW 9 rfl)
          have e10 : V 10 = wv (n) := HV 10 _ rfl (hW 10 rfl)
          have u8 : (upd V 11 (wv (shrN a n))) 8 = .bool true := e8
          have u9 : (upd V 11 (wv (shrN a n))) 9 = wv (a) := e9
          have u10 : (upd V 11 (wv (shrN a n))) 10 = wv (n) := e10
          have HU := Lib.hid (show (upd V 11 (wv (shrN a n))) 8 = .bool true ∧ (upd V 11 (wv (shrN a n))) 9 = wv (a) ∧ (upd V 11 (wv (shrN a n))) 10 = wv (n) from ⟨u8, u9, u10⟩)
          clear u8 u9 u10
          have H := Lib.hid (show ∀ W', Ext W W' → K (fr (upd V 11 (wv (shrN a n)))) W' from fun W' he => hK _ _ ⟨upd V 11 (wv (shrN a n)), rfl, HS.ext he, HV.up 11 _ (fun x hx => Option.some.inj hx)⟩)
          clear hK hC hW hL HV 
          rw [HFR.out]
          rw [e8, e9, e10]
          clear e8 e9 e10
          go_wp2_with fail
          refine (shr_w a n _ ha kn).mono ?_
          rintro e wx ⟨rfl, hlt, he⟩
          have := H.out _ he
          clear H
          go_wp2_with fail
          show K _ _
          rw [HFR.out] at this
          obtain ⟨u8, u9, u10⟩ := HU.out
          rw [u8, u9, u10] at this
          exact this
        · rintro L A W K hL hC hW ⟨V, rfl, HS, HV⟩ hK
          have e8 : V 8 = .bool true := HV 8 _ rfl (hW 8 rfl)
          have u8 : (upd V 12 (wv (shrN a n))) 8 = .bool true := e8
          have HU := Lib.hid (show (upd V 12 (wv (shrN a n))) 8 = .bool true from u8)
          clear u8
          have H := Lib.hid (show ∀ W', Ext W W' → K (fr (upd V 12 (wv (shrN a n)))) W' from fun W' he => hK _ _ ⟨upd V 12 (wv (shrN a n)), rfl, HS.ext he, HV.up 12 _ (fun x hx => Option.some.inj hx)⟩)
          clear hK hC hW hL HV 
          rw [HFR.out]
          rw [e8]
          clear e8
          refine wpList_load_wordG rfl 27 25 (.tmp 12) rfl Try.underlying27 winfo (w9.heap.size) (shrN a n) rfl (HS.at (w9.heap.size) (shrN a n) (by simp)) ?_
          show K _ _
          have := H.out _ (Ext.refl _)
          rw [HFR.out] at this
          obtain u8 := HU.out
          rw [u8] at this
          exact this
        · rintro L A W K hL hC hW ⟨V, rfl, HS, HV⟩ hK
          have e8 : V 8 = .bool true := HV 8 _ rfl (hW 8 rfl)
          have e11 : V 11 = wv (shrN a n) := HV 11 _ rfl (hW 11 rfl)
          have e12 : V 12 = wv (shrN a n) := HV 12 _ rfl (hW 12 rfl)
          have u8 : (upd V 13 (.bool false)) 8 = .bool true := e8
          have u11 : (upd V 13 (.bool false)) 11 = wv (shrN a n) := e11
          have u12 : (upd V 13 (.bool false)) 12 = wv (shrN a n) := e12
          have HU := Lib.hid (show (upd V 13 (.bool false)) 8 = .bool true ∧ (upd V 13 (.bool false)) 11 = wv (shrN a n) ∧ (upd V 13 (.bool false)) 12 = wv (shrN a n) from ⟨u8, u11, u12⟩)
          clear u8 u11 u12
          have H := Lib.hid (show ∀ W', Ext W W' → K (fr (upd V 13 (.bool false))) W' from fun W' he => hK _ _ ⟨upd V 13 (.bool false), rfl, HS.ext he, HV.up 13 _ (fun x hx => Option.some.inj hx)⟩)
          clear hK hC hW hL HV 
          rw [HFR.out]
          rw [e8, e11, e12]
          clear e8 e11 e12
          refine wpList_neq_word rfl (.tmp 50) (.tmp 51) rfl (shrN a n) (shrN a n) (kq) (kq) rfl rfl ?_
          rw [show ((shrN a n) != (shrN a n)) = false from bne_self_eq_false _]
          show K _ _
          have := H.out _ (Ext.refl _)
          rw [HFR.out] at this
          obtain ⟨u8, u11, u12⟩ := HU.out
          rw [u8, u11, u12] at this
          exact this
        · rintro L A W K hL hC hW ⟨V, rfl, HS, HV⟩ hK
          have e5 : V 5 = .bool false := HV 5 _ rfl (hW 5 rfl)
          have e8 : V 8 = .bool true := HV 8 _ rfl (hW 8 rfl)
          have e13 : V 13 = .bool false := HV 13 _ rfl (hW 13 rfl)
          have u5 : (upd V 14 (.bool false)) 5 = .bool false := e5
          have u8 : (upd V 14 (.bool false)) 8 = .bool true := e8
          have u13 : (upd V 14 (.bool false)) 13 = .bool false := e13
          have HU := Lib.hid (show (upd V 14 (.bool false)) 5 = .bool false ∧ (upd V 14 (.bool false)) 8 = .bool true ∧ (upd V 14 (.bool false)) 13 = .bool false from ⟨u5, u8, u13⟩)
          clear u5 u8 u13
          have H := Lib.hid (show ∀ W', Ext W W' → K (fr (upd V 14 (.bool false))) W' from fun W' he => hK _ _ ⟨upd V 14 (.bool false), rfl, HS.ext he, HV.up 14 _ (fun x hx => Option.some.inj hx)⟩)
          clear hK hC hW hL HV 
          rw [HFR.out]
          rw [e5, e8, e13]
          clear e5 e8 e13
          go_wp2_with fail
          show K _ _
          have := H.out _ (Ext.refl _)
          rw [HFR.out] at this
          obtain ⟨u5, u8, u13⟩ := HU.out
          rw [u5, u8, u13] at this
          exact this
        · rintro L A W K hL hC hW ⟨V, rfl, HS, HV⟩ hK
          have e5 : V 5 = .bool false := HV 5 _ rfl (hW 5 rfl)
          have e14 : V 14 = .bool false := HV 14 _ rfl (hW 14 rfl)
          have u5 : (upd V 15 (.bool false)) 5 = .bool false := e5
          have u14 : (upd V 15 (.bool false)) 14 = .bool false := e14
          have HU := Lib.hid (show (upd V 15 (.bool false)) 5 = .bool false ∧ (upd V 15 (.bool false)) 14 = .bool false from ⟨u5, u14⟩)
          clear u5 u14
          have H := Lib.hid (show ∀ W', Ext W W' → K (fr (upd V 15 (.bool false))) W' from fun W' he => hK _ _ ⟨upd V 15 (.bool false), rfl, HS.ext he, HV.up 15 _ (fun x hx => Option.some.inj hx)⟩)
          clear hK hC hW hL HV 
          rw [HFR.out]
          rw [e5, e14]
          clear e5 e14
          go_wp2_with fail
          show K _ _
          have := H.out _ (Ext.refl _)
          rw [HFR.out] at this
          obtain ⟨u5, u14⟩ := HU.out
          rw [u5, u14] at this
          exact this
        · rintro L A W K hL hC hW ⟨V, rfl, HS, HV⟩ hK
          have e15 : V 15 = .bool false := HV 15 _ rfl (hW 15 rfl)
          have u15 : (upd V 16 (.bool false)) 15 = .bool false := e15
          have HU := Lib.hid (show (upd V 16 (.bool false)) 15 = .bool false from u15)
          clear u15
          have H := Lib.hid (show ∀ W', Ext W W' → K (fr (upd V 16 (.bool false))) W' from fun W' he => hK _ _ ⟨upd V 16 (.bool false), rfl, HS.ext he, HV.up 16 _ (fun x hx => Option.some.inj hx)⟩)
          clear hK hC hW hL HV 
          rw [HFR.out]
          rw [e15]
          clear e15
          go_wp2_with fail
          show K _ _
          have := H.out _ (Ext.refl _)
          rw [HFR.out] at this
          obtain u15 := HU.out
          rw [u15] at this
          exact this
        · rintro L A W K hL hC hW ⟨V, rfl, HS, HV⟩ hK
          have e16 : V 16 = .bool false := HV 16 _ rfl (hW 16 rfl)
          have u16 : (upd V 17 (.int .u64 n)) 16 = .bool false := e16
          have HU := Lib.hid (show (upd V 17 (.int .u64 n)) 16 = .bool false from u16)
          clear u16
          have H := Lib.hid (show ∀ W', Ext W W' → K (fr (upd V 17 (.int .u64 n))) W' from fun W' he => hK _ _ ⟨upd V 17 (.int .u64 n), rfl, HS.ext he, HV.up 17 _ (fun x hx => Option.some.inj hx)⟩)
          clear hK hC hW hL HV 
          rw [HFR.out]
          rw [e16]
          clear e16
          go_wp2_with fail
          show K _ _
          have := H.out _ (Ext.refl _)
          rw [HFR.out] at this
          obtain u16 := HU.out
          rw [u16] at this
          exact this
        · rintro L A W K hL hC hW ⟨V, rfl, HS, HV⟩ hK
          have e16 : V 16 = .bool false := HV 16 _ rfl (hW 16 rfl)
          have e17 : V 17 = .int .u64 n := HV 17 _ rfl (hW 17 rfl)
          have u16 : (upd V 18 (.bool false)) 16 = .bool false := e16
          have u17 : (upd V 18 (.bool false)) 17 = .int .u64 n := e17
          have HU := Lib.hid (show (upd V 18 (.bool false)) 16 = .bool false ∧ (upd V 18 (.bool false)) 17 = .int .u64 n from ⟨u16, u17⟩)
          clear u16 u17
          have H := Lib.hid (show ∀ W', Ext W W' → K (fr (upd V 18 (.bool false))) W' from fun W' he => hK _ _ ⟨upd V 18 (.bool false), rfl, HS.ext he, HV.up 18 _ (fun x hx => Option.some.inj hx)⟩)
          clear hK hC hW hL HV 
          rw [HFR.out]
          rw [e16, e17]
          clear e16 e17
          go_wp2_with fail
          show K _ _
          have := H.out _ (Ext.refl _)
          rw [HFR.out] at this
          obtain ⟨u16, u17⟩ := HU.out
          rw [u16, u17] at this
          exact this
        · rintro L A W K hL hC hW ⟨V, rfl, HS, HV⟩ hK
          have e16 : V 16 = .bool false := HV 16 _ rfl (hW 16 rfl)
          have e18 : V 18 = .bool false := HV 18 _ rfl (hW 18 rfl)
          have u16 : (upd V 19 (.bool false)) 16 = .bool false := e16
          have u18 : (upd V 19 (.bool false)) 18 = .bool false := e18
          have HU := Lib.hid (show (upd V 19 (.bool false)) 16 = .bool false ∧ (upd V 19 (.bool false)) 18 = .bool false from ⟨u16, u18⟩)
          clear u16 u18
          have H := Lib.hid (show ∀ W', Ext W W' → K (fr (upd V 19 (.bool false))) W' from fun W' he => hK _ _ ⟨upd V 19 (.bool false), rfl, HS.ext he, HV.up 19 _ (fun x hx => Option.some.inj hx)⟩)
          clear hK hC hW hL HV 
          rw [HFR.out]
          rw [e16, e18]
          clear e16 e18
          go_wp2_with fail
          show K _ _
          have := H.out _ (Ext.refl _)
          rw [HFR.out] at this
          obtain ⟨u16, u18⟩ := HU.out
          rw [u16, u18] at this
          exact this
        · rintro L A W K hL hC hW ⟨V, rfl, HS, HV⟩ hK
          have e19 : V 19 = .bool false := HV 19 _ rfl (hW 19 rfl)
          have u19 : (upd V 20 (undef)) 19 = .bool false := e19
          have HU := Lib.hid (show (upd V 20 (undef)) 19 = .bool false from u19)
          clear u19
          have H := Lib.hid (show ∀ W', Ext W W' → K (fr (upd V 20 (undef))) W' from fun W' he => hK _ _ ⟨upd V 20 (undef), rfl, HS.ext he, HV.up 20 _ (fun x hx => Option.some.inj hx)⟩)
          clear hK hC hW hL HV 
          rw [HFR.out]
          rw [e19]
          clear e19
          go_wp2_with fail
          show K _ _
          have := H.out _ (Ext.refl _)
          rw [HFR.out] at this
          obtain u19 := HU.out
          rw [u19] at this
          exact this
        · rintro L A W K hL hC hW ⟨V, rfl, HS, HV⟩ hK
          have e19 : V 19 = .bool false := HV 19 _ rfl (hW 19 rfl)
          have u19 : (upd V 21 (undef)) 19 = .bool false := e19
          have HU := Lib.hid (show (upd V 21 (undef)) 19 = .bool false from u19)
          clear u19
          have H := Lib.hid (show ∀ W', Ext W W' → K (fr (upd V 21 (undef))) W' from fun W' he => hK _ _ ⟨upd V 21 (undef), rfl, HS.ext he, HV.up 21 _ (fun x hx => Option.some.inj hx)⟩)
          clear hK hC hW hL HV 
          rw [HFR.out]
          rw [e19]
          clear e19
          go_wp2_with fail
          show K _ _
          have := H.out _ (Ext.refl _)
          rw [HFR.out] at this
          obtain u19 := HU.out
          rw [u19] at this
          exact this
        · rintro L A W K hL hC hW ⟨V, rfl, HS, HV⟩ hK
          have e19 : V 19 = .bool false := HV 19 _ rfl (hW 19 rfl)
          have u19 : (upd V 22 (undef)) 19 = .bool false := e19
          have HU := Lib.hid (show (upd V 22 (undef)) 19 = .bool false from u19)
          clear u19
          have H := Lib.hid (show ∀ W', Ext W W' → K (fr (upd V 22 (undef))) W' from fun W' he => hK _ _ ⟨upd V 22 (undef), rfl, HS.ext he, HV.up 22 _ (fun x hx => Option.some.inj hx)⟩)
          clear hK hC hW hL HV 
          rw [HFR.out]
          rw [e19]
          clear e19
          go_wp2_with fail
          show K _ _
          have := H.out _ (Ext.refl _)
          rw [HFR.out] at this
          obtain u19 := HU.out
          rw [u19] at this
          exact this
        · rintro L A W K hL hC hW ⟨V, rfl, HS, HV⟩ hK
          have e19 : V 19 = .bool false := HV 19 _ rfl (hW 19 rfl)
          have u19 : (upd V 23 (undef)) 19 = .bool false := e19
          have HU := Lib.hid (show (upd V 23 (undef)) 19 = .bool false from u19)
          clear u19
          have H := Lib.hid (show ∀ W', Ext W W' → K (fr (upd V 23 (undef))) W' from fun W' he => hK _ _ ⟨upd V 23 (undef), rfl, HS.ext he, HV.up 23 _ (fun x hx => Option.some.inj hx)⟩)
          clear hK hC hW hL HV 
          rw [HFR.out]
          rw [e19]
          clear e19
          go_wp2_with fail
          show K _ _
          have := H.out _ (Ext.refl _)
          rw [HFR.out] at this
          obtain u19 := HU.out
          rw [u19] at this
          exact this
        · rintro L A W K hL hC hW ⟨V, rfl, HS, HV⟩ hK
          have e23 : V 23 = undef := HV 23 _ rfl (hW 23 rfl)
          have u23 : (upd V 24 (undef)) 23 = undef := e23
          have HU := Lib.hid (show (upd V 24 (undef)) 23 = undef from u23)
          clear u23
          have H := Lib.hid (show ∀ W', Ext W W' → K (fr (upd V 24 (undef))) W' from fun W' he => hK _ _ ⟨upd V 24 (undef), rfl, HS.ext he, HV.up 24 _ (fun x hx => Option.some.inj hx)⟩)
          clear hK hC hW hL HV 
          rw [HFR.out]
          rw [e23]
          clear e23
          go_wp2_with fail
          show K _ _
          have := H.out _ (Ext.refl _)
          rw [HFR.out] at this
          obtain u23 := HU.out
          rw [u23] at this
          exact this
        · rintro L A W K hL hC hW ⟨V, rfl, HS, HV⟩ hK
          have e23 : V 23 = undef := HV 23 _ rfl (hW 23 rfl)
          have u23 : (upd V 25 (undef)) 23 = undef := e23
          have HU := Lib.hid (show (upd V 25 (undef)) 23 = undef from u23)
          clear u23
          have H := Lib.hid (show ∀ W', Ext W W' → K (fr (upd V 25 (undef))) W' from fun W' he => hK _ _ ⟨upd V 25 (undef), rfl, HS.ext he, HV.up 25 _ (fun x hx => Option.some.inj hx)⟩)
          clear hK hC hW hL HV 
          rw [HFR.out]
          rw [e23]
          clear e23
          go_wp2_with fail
          show K _ _
          have := H.out _ (Ext.refl _)
          rw [HFR.out] at this
          obtain u23 := HU.out
          rw [u23] at this
          exact this
        · rintro L A W K hL hC hW ⟨V, rfl, HS, HV⟩ hK
          have e23 : V 23 = undef := HV 23 _ rfl (hW 23 rfl)
          have u23 : (upd V 26 (undef)) 23 = undef := e23
          have HU := Lib.hid (show (upd V 26 (undef)) 23 = undef from u23)
          clear u23
          have H := Lib.hid (show ∀ W', Ext W W' → K (fr (upd V 26 (undef))) W' from fun W' he => hK _ _ ⟨upd V 26 (undef), rfl, HS.ext he, HV.up 26 _ (fun x hx => Option.some.inj hx)⟩)
          clear hK hC hW hL HV 
          rw [HFR.out]
          rw [e23]
          clear e23
          go_wp2_with fail
          show K _ _
          have := H.out _ (Ext.refl _)
          rw [HFR.out] at this
          obtain u23 := HU.out
          rw [u23] at this
          exact this
        · rintro L A W K hL hC hW ⟨V, rfl, HS, HV⟩ hK
          have e23 : V 23 = undef := HV 23 _ rfl (hW 23 rfl)
          have u23 : (upd V 27 (undef)) 23 = undef := e23
          have HU := Lib.hid (show (upd V 27 (undef)) 23 = undef from u23)
          clear u23
          have H := Lib.hid (show ∀ W', Ext W W' → K (fr (upd V 27 (undef))) W' from fun W' he => hK _ _ ⟨upd V 27 (undef), rfl, HS.ext he, HV.up 27 _ (fun x hx => Option.some.inj hx)⟩)
          clear hK hC hW hL HV 
          rw [HFR.out]
          rw [e23]
          clear e23
          go_wp2_with fail
          show K _ _
          have := H.out _ (Ext.refl _)
          rw [HFR.out] at this
          obtain u23 := HU.out
          rw [u23] at this
          exact this
        · rintro L A W K hL hC hW ⟨V, rfl, HS, HV⟩ hK
          have e23 : V 23 = undef := HV 23 _ rfl (hW 23 rfl)
          have u23 : (upd V 28 (undef)) 23 = undef := e23
          have HU := Lib.hid (show (upd V 28 (undef)) 23 = undef from u23)
          clear u23
          have H := Lib.hid (show ∀ W', Ext W W' → K (fr (upd V 28 (undef))) W' from fun W' he => hK _ _ ⟨upd V 28 (undef), rfl, HS.ext he, HV.up 28 _ (fun x hx => Option.some.inj hx)⟩)
          clear hK hC hW hL HV 
          rw [HFR.out]
          rw [e23]
          clear e23
          go_wp2_with fail
          show K _ _
          have := H.out _ (Ext.refl _)
          rw [HFR.out] at this
          obtain u23 := HU.out
          rw [u23] at this
          exact this
        · rintro L A W K hL hC hW ⟨V, rfl, HS, HV⟩ hK
          have e19 : V 19 = .bool false := HV 19 _ rfl (hW 19 rfl)
          have u19 : (upd V 29 (undef)) 19 = .bool false := e19
          have HU := Lib.hid (show (upd V 29 (undef)) 19 = .bool false from u19)
          clear u19
          have H := Lib.hid (show ∀ W', Ext W W' → K (fr (upd V 29 (undef))) W' from fun W' he => hK _ _ ⟨upd V 29 (undef), rfl, HS.ext he, HV.up 29 _ (fun x hx => Option.some.inj hx)⟩)
          clear hK hC hW hL HV 
          rw [HFR.out]
          rw [e19]
          clear e19
          go_wp2_with fail
          show K _ _
          have := H.out _ (Ext.refl _)
          rw [HFR.out] at this
          obtain u19 := HU.out
          rw [u19] at this
          exact this
        · rintro L A W K hL hC hW ⟨V, rfl, HS, HV⟩ hK
          have e16 : V 16 = .bool false := HV 16 _ rfl (hW 16 rfl)
          have e19 : V 19 = .bool false := HV 19 _ rfl (hW 19 rfl)
          have e29 : V 29 = undef := HV 29 _ rfl (hW 29 rfl)
          have u16 : (upd V 30 (.bool false)) 16 = .bool false := e16
          have u19 : (upd V 30 (.bool false)) 19 = .bool false := e19
          have u29 : (upd V 30 (.bool false)) 29 = undef := e29
          have HU := Lib.hid (show (upd V 30 (.bool false)) 16 = .bool false ∧ (upd V 30 (.bool false)) 19 = .bool false ∧ (upd V 30 (.bool false)) 29 = undef from ⟨u16, u19, u29⟩)
          clear u16 u19 u29
          have H := Lib.hid (show ∀ W', Ext W W' → K (fr (upd V 30 (.bool false))) W' from fun W' he => hK _ _ ⟨upd V 30 (.bool false), rfl, HS.ext he, HV.up 30 _ (fun x hx => Option.some.inj hx)⟩)
          clear hK hC hW hL HV 
          rw [HFR.out]
          rw [e16, e19, e29]
          clear e16 e19 e29
          go_wp2_with fail
          show K _ _
          have := H.out _ (Ext.refl _)
          rw [HFR.out] at this
          obtain ⟨u16, u19, u29⟩ := HU.out
          rw [u16, u19, u29] at this
          exact this
        · rintro L A W K hL hC hW ⟨V, rfl, HS, HV⟩ hK
          have e16 : V 16 = .bool false := HV 16 _ rfl (hW 16 rfl)
          have e30 : V 30 = .bool false := HV 30 _ rfl (hW 30 rfl)
          have u16 : (upd V 31 (.bool false)) 16 = .bool false := e16
          have u30 : (upd V 31 (.bool false)) 30 = .bool false := e30
          have HU := Lib.hid (show (upd V 31 (.bool false)) 16 = .bool false ∧ (upd V 31 (.bool false)) 30 = .bool false from ⟨u16, u30⟩)
          clear u16 u30
          have H := Lib.hid (show ∀ W', Ext W W' → K (fr (upd V 31 (.bool false))) W' from fun W' he => hK _ _ ⟨upd V 31 (.bool false), rfl, HS.ext he, HV.up 31 _ (fun x hx => Option.some.inj hx)⟩)
          clear hK hC hW hL HV 
          rw [HFR.out]
          rw [e16, e30]
          clear e16 e30
          go_wp2_with fail
          show K _ _
          have := H.out _ (Ext.refl _)
          rw [HFR.out] at this
          obtain ⟨u16, u30⟩ := HU.out
          rw [u16, u30] at this
          exact this
        · rintro L A W hL ⟨V, rfl, HS, HV⟩
          have e0 : V 0 = wv (a) := HV 0 _ rfl (hL 0 (by simp))
          have e1 : V 1 = wv (n) := HV 1 _ rfl (hL 1 (by simp))
          have e2 : V 2 = wv (shlN a n) := HV 2 _ rfl (hL 2 (by simp))
          have e3 : V 3 = wv (shlN a n) := HV 3 _ rfl (hL 3 (by simp))
          have e4 : V 4 = .bool false := HV 4 _ rfl (hL 4 (by simp))
          have e5 : V 5 = .bool false := HV 5 _ rfl (hL 5 (by simp))
          have e6 : V 6 = .int .u64 n := HV 6 _ rfl (hL 6 (by simp))
          have e7 : V 7 = .bool true := HV 7 _ rfl (hL 7 (by simp))
          have e8 : V 8 = .bool true := HV 8 _ rfl (hL 8 (by simp))
          have e9 : V 9 = wv (a) := HV 9 _ rfl (hL 9 (by simp))
          have e10 : V 10 = wv (n) := HV 10 _ rfl (hL 10 (by simp))
          have e11 : V 11 = wv (shrN a n) := HV 11 _ rfl (hL 11 (by simp))
          have e12 : V 12 = wv (shrN a n) := HV 12 _ rfl (hL 12 (by simp))
          have e13 : V 13 = .bool false := HV 13 _ rfl (hL 13 (by simp))
          have e14 : V 14 = .bool false := HV 14 _ rfl (hL 14 (by simp))
          have e15 : V 15 = .bool false := HV 15 _ rfl (hL 15 (by simp))
          have e16 : V 16 = .bool false := HV 16 _ rfl (hL 16 (by simp))
          have e17 : V 17 = .int .u64 n := HV 17 _ rfl (hL 17 (by simp))
          have e18 : V 18 = .bool false := HV 18 _ rfl (hL 18 (by simp))
          have e19 : V 19 = .bool false := HV 19 _ rfl (hL 19 (by simp))
          have e20 : V 20 = undef := HV 20 _ rfl (hL 20 (by simp))
          have e21 : V 21 = undef := HV 21 _ rfl (hL 21 (by simp))
          have e22 : V 22 = undef := HV 22 _ rfl (hL 22 (by simp))
          have e23 : V 23 = undef := HV 23 _ rfl (hL 23 (by simp))
          have e24 : V 24 = undef := HV 24 _ rfl (hL 24 (by simp))
          have e25 : V 25 = undef := HV 25 _ rfl (hL 25 (by simp))
          have e26 : V 26 = undef := HV 26 _ rfl (hL 26 (by simp))
          have e27 : V 27 = undef := HV 27 _ rfl (hL 27 (by simp))
          have e28 : V 28 = undef := HV 28 _ rfl (hL 28 (by simp))
          have e29 : V 29 = undef := HV 29 _ rfl (hL 29 (by simp))
          have e30 : V 30 = .bool false := HV 30 _ rfl (hL 30 (by simp))
          have e31 : V 31 = .bool false := HV 31 _ rfl (hL 31 (by simp))
          rw [HFR.out]
          rw [e0, e1, e2, e3, e4, e5, e6, e7, e8, e9, e10, e11, e12, e13, e14, e15, e16, e17, e18, e19, e20, e21, e22, e23, e24, e25, e26, e27, e28, e29, e30, e31]
          clear hL HV e0 e1 e2 e3 e4 e5 e6 e7 e8 e9 e10 e11 e12 e13 e14 e15 e16 e17 e18 e19 e20 e21 e22 e23 e24 e25 e26 e27 e28 e29 e30 e31
          go_wp2_with fail
          go_meet
          exact ⟨rfl, HS.sub _ (by simp)⟩
      · have h1 : decide ((n : Int) < 256) = false := by simp; omega
        have h2 : decide ((256 : Int) ≤ (n : Int)) = true := by simp; omega
        have HP1 := HP.out hn
        have HR := Lib.hid (show shrN a n = 0 from shr_far a n hn)
        clear hn HQ HP
        subst HP1
        refine wp_named fun a0 ha0 => ?_
        obtain ⟨fr, hfr⟩ : ∃ fr : (Nat → Value) → Act, ∀ V, fr V = ((((((((((((((((((((((((((((((((a0.put (some 39) (V 0)).put (some 40) (V 1)).put (some 41) (V 2)).put (some 42) (V 3)).put (some 43) (V 4)).put (some 44) (V 5)).put (some 45) (V 6)).put (some 46) (V 7)).put (some 47) (V 8)).put (some 48) (V 9)).put (some 49) (V 10)).put (some 50) (V 11)).put (some 51) (V 12)).put (some 52) (V 13)).put (some 53) (V 14)).put (some 54) (V 15)).put (some 55) (V 16)).put (some 56) (V 17)).put (some 57) (V 18)).put (some 58) (V 19)).put (some 59) (V 20)).put (some 60) (V 21)).put (some 61) (V 22)).put (some 62) (V 23)).put (some 63) (V 24)).put (some 64) (V 25)).put (some 65) (V 26)).put (some 66) (V 27)).put (some 67) (V 28)).put (some 68) (V 29)).put (some 69) (V 30)).put (some 70) (V 31)) := ⟨fun V => ((((((((((((((((((((((((((((((((a0.put (some 39) (V 0)).put (some 40) (V 1)).put (some 41) (V 2)).put (some 42) (V 3)).put (some 43) (V 4)).put (some 44) (V 5)).put (some 45) (V 6)).put (some 46) (V 7)).put (some 47) (V 8)).put (some 48) (V 9)).put (some 49) (V 10)).put (some 50) (V 11)).put (some 51) (V 12)).put (some 52) (V 13)).put (some 53) (V 14)).put (some 54) (V 15)).put (some 55) (V 16)).put (some 56) (V 17)).put (some 57) (V 18)).put (some 58) (V 19)).put (some 59) (V 20)).put (some 60) (V 21)).put (some 61) (V 22)).put (some 62) (V 23)).put (some 63) (V 24)).put (some 64) (V 25)).put (some 65) (V 26)).put (some 66) (V 27)).put (some 67) (V 28)).put (some 68) (V 29)).put (some 69) (V 30)).put (some 70) (V 31)), fun _ => rfl⟩
        rw [ha0] at hfr
        simp only [Act.put, List.setIfInBounds_toArray, List.set_cons_zero, List.set_cons_succ] at hfr
        have HFR := Lib.hid hfr
        clear hfr
        refine wp_region_inv (by kernel_rfl) (by kernel_rfl) (fun L A W => ∃ V : Nat → Value, A = fr V ∧ Ks w [(w.heap.size, a), (w3.heap.size, n), (w3.heap.size + 1, m), (w7.heap.size, shlN a n), (w9.heap.size, Q), (g9, 0)] W ∧ Vals (fun j => ([some (wv (a)), some (wv (n)), some (wv (shlN a n)), some (wv (shlN a n)), some (.bool false), some (.bool false), some (.int .u64 n), some (.bool false), some (.bool false), some (undef), some (undef), some (undef), some (undef), some (undef), some (.bool false), some (.bool false), some (.bool false), some (.int .u64 n), some (.bool true), some (.bool true), some (wv (0)), some (wv 0), some (.bool false), some (.bool false), some (wv (a)), some (wv (n)), some (wv (shrN a n)), some (wv 0), some (.bool false), some (.bool false), some (.bool false), some (.bool false)] : List (Option Value)).getD j none) L V) ?_ ⟨?_, ?_, ?_, ?_, ?_, ?_, ?_, ?_, ?_, ?_, ?_, ?_, ?_, ?_, ?_, ?_, ?_, ?_, ?_, ?_, ?_, ?_, ?_, ?_, ?_, ?_, ?_, ?_, ?_, ?_, ?_, ?_, trivial⟩ ?_
        · refine ⟨fun j => a0.tmps.getD (([39, 40, 41, 42, 43, 44, 45, 46, 47, 48, 49, 50, 51, 52, 53, 54, 55, 56, 57, 58, 59, 60, 61, 62, 63, 64, 65, 66, 67, 68, 69, 70] : List Nat).getD j 0) undef, ?_, HS.drew, Vals.no _ _ _ (fun j hj => by simp at hj; simp [List.getD, List.getElem?_eq_none, hj])⟩
          rw [HFR.out, ha0]
          rfl
        all_goals clear ha0
        · rintro L A W K hL hC hW ⟨V, rfl, HS, HV⟩ hK
          have H := Lib.hid (show ∀ W', Ext W W' → K (fr (upd V 0 (wv (a)))) W' from fun W' he => hK _ _ ⟨upd V 0 (wv (a)), rfl, HS.ext he, HV.up 0 _ (fun x hx => Option.some.inj hx)⟩)
          clear hK hC hW hL HV 
          rw [HFR.out]
          refine wpList_load_wordG rfl 27 25 (.tmp 3) rfl Try.underlying27 winfo (w.heap.size) (a) rfl (HS.at (w.heap.size) (a) (by simp)) ?_
          show K _ _
          have := H.out _ (Ext.refl _)
          rw [HFR.out] at this
          exact this
        · rintro L A W K hL hC hW ⟨V, rfl, HS, HV⟩ hK
          have H := Lib.hid (show ∀ W', Ext W W' → K (fr (upd V 1 (wv (n)))) W' from fun W' he => hK _ _ ⟨upd V 1 (wv (n)), rfl, HS.ext he, HV.up 1 _ (fun x hx => Option.some.inj hx)⟩)
          clear hK hC hW hL HV 
          rw [HFR.out]
          refine wpList_load_wordG rfl 27 25 (.tmp 7) rfl Try.underlying27 winfo (w3.heap.size) (n) rfl (HS.at (w3.heap.size) (n) (by simp)) ?_
          show K _ _
          have := H.out _ (Ext.refl _)
          rw [HFR.out] at this
          exact this
        · rintro L A W K hL hC hW ⟨V, rfl, HS, HV⟩ hK
          have e0 : V 0 = wv (a) := HV 0 _ rfl (hW 0 rfl)
          have e1 : V 1 = wv (n) := HV 1 _ rfl (hW 1 rfl)
          have u0 : (upd V 2 (wv (shlN a n))) 0 = wv (a) := e0
          have u1 : (upd V 2 (wv (shlN a n))) 1 = wv (n) := e1
          have HU := Lib.hid (show (upd V 2 (wv (shlN a n))) 0 = wv (a) ∧ (upd V 2 (wv (shlN a n))) 1 = wv (n) from ⟨u0, u1⟩)
          clear u0 u1
          have H := Lib.hid (show ∀ W', Ext W W' → K (fr (upd V 2 (wv (shlN a n)))) W' from fun W' he => hK _ _ ⟨upd V 2 (wv (shlN a n)), rfl, HS.ext he, HV.up 2 _ (fun x hx => Option.some.inj hx)⟩)
          clear hK hC hW hL HV 
          rw [HFR.out]
          rw [e0, e1]
          clear e0 e1
          go_wp2_with fail
          refine (shl_w a n _ ha kn).mono ?_
          rintro e wx ⟨rfl, hlt, he⟩
          have := H.out _ he
          clear H
          go_wp2_with fail
          show K _ _
          rw [HFR.out] at this
          obtain ⟨u0, u1⟩ := HU.out
          rw [u0, u1] at this
          exact this
        · rintro L A W K hL hC hW ⟨V, rfl, HS, HV⟩ hK
          have H := Lib.hid (show ∀ W', Ext W W' → K (fr (upd V 3 (wv (shlN a n)))) W' from fun W' he => hK _ _ ⟨upd V 3 (wv (shlN a n)), rfl, HS.ext he, HV.up 3 _ (fun x hx => Option.some.inj hx)⟩)
          clear hK hC hW hL HV 
          rw [HFR.out]
          refine wpList_load_wordG rfl 27 25 (.tmp 10) rfl Try.underlying27 winfo (w7.heap.size) (shlN a n) rfl (HS.at (w7.heap.size) (shlN a n) (by simp)) ?_
          show K _ _
          have := H.out _ (Ext.refl _)
          rw [HFR.out] at this
          exact this
        · rintro L A W K hL hC hW ⟨V, rfl, HS, HV⟩ hK
          have e2 : V 2 = wv (shlN a n) := HV 2 _ rfl (hW 2 rfl)
          have e3 : V 3 = wv (shlN a n) := HV 3 _ rfl (hW 3 rfl)
          have u2 : (upd V 4 (.bool false)) 2 = wv (shlN a n) := e2
          have u3 : (upd V 4 (.bool false)) 3 = wv (shlN a n) := e3
          have HU := Lib.hid (show (upd V 4 (.bool false)) 2 = wv (shlN a n) ∧ (upd V 4 (.bool false)) 3 = wv (shlN a n) from ⟨u2, u3⟩)
          clear u2 u3
          have H := Lib.hid (show ∀ W', Ext W W' → K (fr (upd V 4 (.bool false))) W' from fun W' he => hK _ _ ⟨upd V 4 (.bool false), rfl, HS.ext he, HV.up 4 _ (fun x hx => Option.some.inj hx)⟩)
          clear hK hC hW hL HV 
          rw [HFR.out]
          rw [e2, e3]
          clear e2 e3
          refine wpList_neq_word rfl (.tmp 41) (.tmp 42) rfl (shlN a n) (shlN a n) (kp) (kp) rfl rfl ?_
          rw [show ((shlN a n) != (shlN a n)) = false from bne_self_eq_false _]
          show K _ _
          have := H.out _ (Ext.refl _)
          rw [HFR.out] at this
          obtain ⟨u2, u3⟩ := HU.out
          rw [u2, u3] at this
          exact this
        · rintro L A W K hL hC hW ⟨V, rfl, HS, HV⟩ hK
          have e4 : V 4 = .bool false := HV 4 _ rfl (hW 4 rfl)
          have u4 : (upd V 5 (.bool false)) 4 = .bool false := e4
          have HU := Lib.hid (show (upd V 5 (.bool false)) 4 = .bool false from u4)
          clear u4
          have H := Lib.hid (show ∀ W', Ext W W' → K (fr (upd V 5 (.bool false))) W' from fun W' he => hK _ _ ⟨upd V 5 (.bool false), rfl, HS.ext he, HV.up 5 _ (fun x hx => Option.some.inj hx)⟩)
          clear hK hC hW hL HV 
          rw [HFR.out]
          rw [e4]
          clear e4
          go_wp2_with fail
          show K _ _
          have := H.out _ (Ext.refl _)
          rw [HFR.out] at this
          obtain u4 := HU.out
          rw [u4] at this
          exact this
        · rintro L A W K hL hC hW ⟨V, rfl, HS, HV⟩ hK
          have e5 : V 5 = .bool false := HV 5 _ rfl (hW 5 rfl)
          have u5 : (upd V 6 (.int .u64 n)) 5 = .bool false := e5
          have HU := Lib.hid (show (upd V 6 (.int .u64 n)) 5 = .bool false from u5)
          clear u5
          have H := Lib.hid (show ∀ W', Ext W W' → K (fr (upd V 6 (.int .u64 n))) W' from fun W' he => hK _ _ ⟨upd V 6 (.int .u64 n), rfl, HS.ext he, HV.up 6 _ (fun x hx => Option.some.inj hx)⟩)
          clear hK hC hW hL HV 
          rw [HFR.out]
          rw [e5]
          clear e5
          go_wp2_with fail
          show K _ _
          have := H.out _ (Ext.refl _)
          rw [HFR.out] at this
          obtain u5 := HU.out
          rw [u5] at this
          exact this
        · rintro L A W K hL hC hW ⟨V, rfl, HS, HV⟩ hK
          have e5 : V 5 = .bool false := HV 5 _ rfl (hW 5 rfl)
          have e6 : V 6 = .int .u64 n := HV 6 _ rfl (hW 6 rfl)
          have u5 : (upd V 7 (.bool false)) 5 = .bool false := e5
          have u6 : (upd V 7 (.bool false)) 6 = .int .u64 n := e6
          have HU := Lib.hid (show (upd V 7 (.bool false)) 5 = .bool false ∧ (upd V 7 (.bool false)) 6 = .int .u64 n from ⟨u5, u6⟩)
          clear u5 u6
          have H := Lib.hid (show ∀ W', Ext W W' → K (fr (upd V 7 (.bool false))) W' from fun W' he => hK _ _ ⟨upd V 7 (.bool false), rfl, HS.ext he, HV.up 7 _ (fun x hx => Option.some.inj hx)⟩)
          clear hK hC hW hL HV 
          rw [HFR.out]
          rw [e5, e6]
          clear e5 e6
          go_wp2_with fail
          show K _ _
          have := H.out _ (Ext.refl _)
          rw [HFR.out] at this
          obtain ⟨u5, u6⟩ := HU.out
          rw [u5, u6] at this
          exact this
        · rintro L A W K hL hC hW ⟨V, rfl, HS, HV⟩ hK
          have e5 : V 5 = .bool false := HV 5 _ rfl (hW 5 rfl)
          have e7 : V 7 = .bool false := HV 7 _ rfl (hW 7 rfl)
          have u5 : (upd V 8 (.bool false)) 5 = .bool false := e5
          have u7 : (upd V 8 (.bool false)) 7 = .bool false := e7
          have HU := Lib.hid (show (upd V 8 (.bool false)) 5 = .bool false ∧ (upd V 8 (.bool false)) 7 = .bool false from ⟨u5, u7⟩)
          clear u5 u7
          have H := Lib.hid (show ∀ W', Ext W W' → K (fr (upd V 8 (.bool false))) W' from fun W' he => hK _ _ ⟨upd V 8 (.bool false), rfl, HS.ext he, HV.up 8 _ (fun x hx => Option.some.inj hx)⟩)
          clear hK hC hW hL HV 
          rw [HFR.out]
          rw [e5, e7]
          clear e5 e7
          go_wp2_with fail
          show K _ _
          have := H.out _ (Ext.refl _)
          rw [HFR.out] at this
          obtain ⟨u5, u7⟩ := HU.out
          rw [u5, u7] at this
          exact this
        · rintro L A W K hL hC hW ⟨V, rfl, HS, HV⟩ hK
          have e8 : V 8 = .bool false := HV 8 _ rfl (hW 8 rfl)
          have u8 : (upd V 9 (undef)) 8 = .bool false := e8
          have HU := Lib.hid (show (upd V 9 (undef)) 8 = .bool false from u8)
          clear u8
          have H := Lib.hid (show ∀ W', Ext W W' → K (fr (upd V 9 (undef))) W' from fun W' he => hK _ _ ⟨upd V 9 (undef), rfl, HS.ext he, HV.up 9 _ (fun x hx => Option.some.inj hx)⟩)
          clear hK hC hW hL HV 
          rw [HFR.out]
          rw [e8]
          clear e8
          go_wp2_with fail
          show K _ _
          have := H.out _ (Ext.refl _)
          rw [HFR.out] at this
          obtain u8 := HU.out
          rw [u8] at this
          exact this
        · rintro L A W K hL hC hW ⟨V, rfl, HS, HV⟩ hK
          have e8 : V 8 = .bool false := HV 8 _ rfl (hW 8 rfl)
          have u8 : (upd V 10 (undef)) 8 = .bool false := e8
          have HU := Lib.hid (show (upd V 10 (undef)) 8 = .bool false from u8)
          clear u8
          have H := Lib.hid (show ∀ W', Ext W W' → K (fr (upd V 10 (undef))) W' from fun W' he => hK _ _ ⟨upd V 10 (undef), rfl, HS.ext he, HV.up 10 _ (fun x hx => Option.some.inj hx)⟩)
          clear hK hC hW hL HV 
          rw [HFR.out]
          rw [e8]
          clear e8
          go_wp2_with fail
          show K _ _
          have := H.out _ (Ext.refl _)
          rw [HFR.out] at this
          obtain u8 := HU.out
          rw [u8] at this
          exact this
        · rintro L A W K hL hC hW ⟨V, rfl, HS, HV⟩ hK
          have e8 : V 8 = .bool false := HV 8 _ rfl (hW 8 rfl)
          have u8 : (upd V 11 (undef)) 8 = .bool false := e8
          have HU := Lib.hid (show (upd V 11 (undef)) 8 = .bool false from u8)
          clear u8
          have H := Lib.hid (show ∀ W', Ext W W' → K (fr (upd V 11 (undef))) W' from fun W' he => hK _ _ ⟨upd V 11 (undef), rfl, HS.ext he, HV.up 11 _ (fun x hx => Option.some.inj hx)⟩)
          clear hK hC hW hL HV 
          rw [HFR.out]
          rw [e8]
          clear e8
          go_wp2_with fail
          show K _ _
          have := H.out _ (Ext.refl _)
          rw [HFR.out] at this
          obtain u8 := HU.out
          rw [u8] at this
          exact this
        · rintro L A W K hL hC hW ⟨V, rfl, HS, HV⟩ hK
          have e8 : V 8 = .bool false := HV 8 _ rfl (hW 8 rfl)
          have u8 : (upd V 12 (undef)) 8 = .bool false := e8
          have HU := Lib.hid (show (upd V 12 (undef)) 8 = .bool false from u8)
          clear u8
          have H := Lib.hid (show ∀ W', Ext W W' → K (fr (upd V 12 (undef))) W' from fun W' he => hK _ _ ⟨upd V 12 (undef), rfl, HS.ext he, HV.up 12 _ (fun x hx => Option.some.inj hx)⟩)
          clear hK hC hW hL HV 
          rw [HFR.out]
          rw [e8]
          clear e8
          go_wp2_with fail
          show K _ _
          have := H.out _ (Ext.refl _)
          rw [HFR.out] at this
          obtain u8 := HU.out
          rw [u8] at this
          exact this
        · rintro L A W K hL hC hW ⟨V, rfl, HS, HV⟩ hK
          have e8 : V 8 = .bool false := HV 8 _ rfl (hW 8 rfl)
          have u8 : (upd V 13 (undef)) 8 = .bool false := e8
          have HU := Lib.hid (show (upd V 13 (undef)) 8 = .bool false from u8)
          clear u8
          have H := Lib.hid (show ∀ W', Ext W W' → K (fr (upd V 13 (undef))) W' from fun W' he => hK _ _ ⟨upd V 13 (undef), rfl, HS.ext he, HV.up 13 _ (fun x hx => Option.some.inj hx)⟩)
          clear hK hC hW hL HV 
          rw [HFR.out]
          rw [e8]
          clear e8
          go_wp2_with fail
          show K _ _
          have := H.out _ (Ext.refl _)
          rw [HFR.out] at this
          obtain u8 := HU.out
          rw [u8] at this
          exact this
        · rintro L A W K hL hC hW ⟨V, rfl, HS, HV⟩ hK
          have e5 : V 5 = .bool false := HV 5 _ rfl (hW 5 rfl)
          have e8 : V 8 = .bool false := HV 8 _ rfl (hW 8 rfl)
          have e13 : V 13 = undef := HV 13 _ rfl (hW 13 rfl)
          have u5 : (upd V 14 (.bool false)) 5 = .bool false := e5
          have u8 : (upd V 14 (.bool false)) 8 = .bool false := e8
          have u13 : (upd V 14 (.bool false)) 13 = undef := e13
          have HU := Lib.hid (show (upd V 14 (.bool false)) 5 = .bool false ∧ (upd V 14 (.bool false)) 8 = .bool false ∧ (upd V 14 (.bool false)) 13 = undef from ⟨u5, u8, u13⟩)
          clear u5 u8 u13
          have H := Lib.hid (show ∀ W', Ext W W' → K (fr (upd V 14 (.bool false))) W' from fun W' he => hK _ _ ⟨upd V 14 (.bool false), rfl, HS.ext he, HV.up 14 _ (fun x hx => Option.some.inj hx)⟩)
          clear hK hC hW hL HV 
          rw [HFR.out]
          rw [e5, e8, e13]
          clear e5 e8 e13
          go_wp2_with fail
          show K _ _
          have := H.out _ (Ext.refl _)
          rw [HFR.out] at this
          obtain ⟨u5, u8, u13⟩ := HU.out
          rw [u5, u8, u13] at this
          exact this
        · rintro L A W K hL hC hW ⟨V, rfl, HS, HV⟩ hK
          have e5 : V 5 = .bool false := HV 5 _ rfl (hW 5 rfl)
          have e14 : V 14 = .bool false := HV 14 _ rfl (hW 14 rfl)
          have u5 : (upd V 15 (.bool false)) 5 = .bool false := e5
          have u14 : (upd V 15 (.bool false)) 14 = .bool false := e14
          have HU := Lib.hid (show (upd V 15 (.bool false)) 5 = .bool false ∧ (upd V 15 (.bool false)) 14 = .bool false from ⟨u5, u14⟩)
          clear u5 u14
          have H := Lib.hid (show ∀ W', Ext W W' → K (fr (upd V 15 (.bool false))) W' from fun W' he => hK _ _ ⟨upd V 15 (.bool false), rfl, HS.ext he, HV.up 15 _ (fun x hx => Option.some.inj hx)⟩)
          clear hK hC hW hL HV 
          rw [HFR.out]
          rw [e5, e14]
          clear e5 e14
          go_wp2_with fail
          show K _ _
          have := H.out _ (Ext.refl _)
          rw [HFR.out] at this
          obtain ⟨u5, u14⟩ := HU.out
          rw [u5, u14] at this
          exact this
        · rintro L A W K hL hC hW ⟨V, rfl, HS, HV⟩ hK
          have e15 : V 15 = .bool false := HV 15 _ rfl (hW 15 rfl)
          have u15 : (upd V 16 (.bool false)) 15 = .bool false := e15
          have HU := Lib.hid (show (upd V 16 (.bool false)) 15 = .bool false from u15)
          clear u15
          have H := Lib.hid (show ∀ W', Ext W W' → K (fr (upd V 16 (.bool false))) W' from fun W' he => hK _ _ ⟨upd V 16 (.bool false), rfl, HS.ext he, HV.up 16 _ (fun x hx => Option.some.inj hx)⟩)
          clear hK hC hW hL HV 
          rw [HFR.out]
          rw [e15]
          clear e15
          go_wp2_with fail
          show K _ _
          have := H.out _ (Ext.refl _)
          rw [HFR.out] at this
          obtain u15 := HU.out
          rw [u15] at this
          exact this
        · rintro L A W K hL hC hW ⟨V, rfl, HS, HV⟩ hK
          have e16 : V 16 = .bool false := HV 16 _ rfl (hW 16 rfl)
          have u16 : (upd V 17 (.int .u64 n)) 16 = .bool false := e16
          have HU := Lib.hid (show (upd V 17 (.int .u64 n)) 16 = .bool false from u16)
          clear u16
          have H := Lib.hid (show ∀ W', Ext W W' → K (fr (upd V 17 (.int .u64 n))) W' from fun W' he => hK _ _ ⟨upd V 17 (.int .u64 n), rfl, HS.ext he, HV.up 17 _ (fun x hx => Option.some.inj hx)⟩)
          clear hK hC hW hL HV 
          rw [HFR.out]
          rw [e16]
          clear e16
          go_wp2_with fail
          show K _ _
          have := H.out _ (Ext.refl _)
          rw [HFR.out] at this
          obtain u16 := HU.out
          rw [u16] at this
          exact this
        · rintro L A W K hL hC hW ⟨V, rfl, HS, HV⟩ hK
          have e16 : V 16 = .bool false := HV 16 _ rfl (hW 16 rfl)
          have e17 : V 17 = .int .u64 n := HV 17 _ rfl (hW 17 rfl)
          have u16 : (upd V 18 (.bool true)) 16 = .bool false := e16
          have u17 : (upd V 18 (.bool true)) 17 = .int .u64 n := e17
          have HU := Lib.hid (show (upd V 18 (.bool true)) 16 = .bool false ∧ (upd V 18 (.bool true)) 17 = .int .u64 n from ⟨u16, u17⟩)
          clear u16 u17
          have H := Lib.hid (show ∀ W', Ext W W' → K (fr (upd V 18 (.bool true))) W' from fun W' he => hK _ _ ⟨upd V 18 (.bool true), rfl, HS.ext he, HV.up 18 _ (fun x hx => Option.some.inj hx)⟩)
          clear hK hC hW hL HV 
          rw [HFR.out]
          rw [e16, e17]
          clear e16 e17
          go_wp2_with fail
          show K _ _
          have := H.out _ (Ext.refl _)
          rw [HFR.out] at this
          obtain ⟨u16, u17⟩ := HU.out
          rw [u16, u17] at this
          exact this
        · rintro L A W K hL hC hW ⟨V, rfl, HS, HV⟩ hK
          have e16 : V 16 = .bool false := HV 16 _ rfl (hW 16 rfl)
          have e18 : V 18 = .bool true := HV 18 _ rfl (hW 18 rfl)
          have u16 : (upd V 19 (.bool true)) 16 = .bool false := e16
          have u18 : (upd V 19 (.bool true)) 18 = .bool true := e18
          have HU := Lib.hid (show (upd V 19 (.bool true)) 16 = .bool false ∧ (upd V 19 (.bool true)) 18 = .bool true from ⟨u16, u18⟩)
          clear u16 u18
          have H := Lib.hid (show ∀ W', Ext W W' → K (fr (upd V 19 (.bool true))) W' from fun W' he => hK _ _ ⟨upd V 19 (.bool true), rfl, HS.ext he, HV.up 19 _ (fun x hx => Option.some.inj hx)⟩)
          clear hK hC hW hL HV 
          rw [HFR.out]
          rw [e16, e18]
          clear e16 e18
          go_wp2_with fail
          show K _ _
          have := H.out _ (Ext.refl _)
          rw [HFR.out] at this
          obtain ⟨u16, u18⟩ := HU.out
          rw [u16, u18] at this
          exact this
        · rintro L A W K hL hC hW ⟨V, rfl, HS, HV⟩ hK
          have e19 : V 19 = .bool true := HV 19 _ rfl (hW 19 rfl)
          have u19 : (upd V 20 (wv (0))) 19 = .bool true := e19
          have HU := Lib.hid (show (upd V 20 (wv (0))) 19 = .bool true from u19)
          clear u19
          have H := Lib.hid (show ∀ W', Ext W W' → K (fr (upd V 20 (wv (0)))) W' from fun W' he => hK _ _ ⟨upd V 20 (wv (0)), rfl, HS.ext he, HV.up 20 _ (fun x hx => Option.some.inj hx)⟩)
          clear hK hC hW hL HV 
          rw [HFR.out]
          rw [e19]
          clear e19
          refine wpList_load_wordG rfl 27 25 (.tmp 9) rfl Try.underlying27 winfo (g9) (0) rfl (HS.at (g9) (0) (by simp)) ?_
          show K _ _
          have := H.out _ (Ext.refl _)
          rw [HFR.out] at this
          obtain u19 := HU.out
          rw [u19] at this
          exact this
        · rintro L A W K hL hC hW ⟨V, rfl, HS, HV⟩ hK
          have e19 : V 19 = .bool true := HV 19 _ rfl (hW 19 rfl)
          have u19 : (upd V 21 (wv 0)) 19 = .bool true := e19
          have HU := Lib.hid (show (upd V 21 (wv 0)) 19 = .bool true from u19)
          clear u19
          have H := Lib.hid (show ∀ W', Ext W W' → K (fr (upd V 21 (wv 0))) W' from fun W' he => hK _ _ ⟨upd V 21 (wv 0), rfl, HS.ext he, HV.up 21 _ (fun x hx => Option.some.inj hx)⟩)
          clear hK hC hW hL HV 
          rw [HFR.out]
          rw [e19]
          clear e19
          go_wp2_with fail
          show K _ _
          have := H.out _ (Ext.refl _)
          rw [HFR.out] at this
          obtain u19 := HU.out
          rw [u19] at this
          exact this
        · rintro L A W K hL hC hW ⟨V, rfl, HS, HV⟩ hK
          have e19 : V 19 = .bool true := HV 19 _ rfl (hW 19 rfl)
          have e20 : V 20 = wv (0) := HV 20 _ rfl (hW 20 rfl)
          have e21 : V 21 = wv 0 := HV 21 _ rfl (hW 21 rfl)
          have u19 : (upd V 22 (.bool false)) 19 = .bool true := e19
          have u20 : (upd V 22 (.bool false)) 20 = wv (0) := e20
          have u21 : (upd V 22 (.bool false)) 21 = wv 0 := e21
          have HU := Lib.hid (show (upd V 22 (.bool false)) 19 = .bool true ∧ (upd V 22 (.bool false)) 20 = wv (0) ∧ (upd V 22 (.bool false)) 21 = wv 0 from ⟨u19, u20, u21⟩)
          clear u19 u20 u21
          have H := Lib.hid (show ∀ W', Ext W W' → K (fr (upd V 22 (.bool false))) W' from fun W' he => hK _ _ ⟨upd V 22 (.bool false), rfl, HS.ext he, HV.up 22 _ (fun x hx => Option.some.inj hx)⟩)
          clear hK hC hW hL HV 
          rw [HFR.out]
          rw [e19, e20, e21]
          clear e19 e20 e21
          refine wpList_neq_word rfl (.tmp 59) (.tmp 60) rfl (0) (0) (by decide) (by decide) rfl rfl ?_
          rw [show ((0) != (0)) = false from rfl]
          show K _ _
          have := H.out _ (Ext.refl _)
          rw [HFR.out] at this
          obtain ⟨u19, u20, u21⟩ := HU.out
          rw [u19, u20, u21] at this
          exact this
        · rintro L A W K hL hC hW ⟨V, rfl, HS, HV⟩ hK
          have e19 : V 19 = .bool true := HV 19 _ rfl (hW 19 rfl)
          have e22 : V 22 = .bool false := HV 22 _ rfl (hW 22 rfl)
          have u19 : (upd V 23 (.bool false)) 19 = .bool true := e19
          have u22 : (upd V 23 (.bool false)) 22 = .bool false := e22
          have HU := Lib.hid (show (upd V 23 (.bool false)) 19 = .bool true ∧ (upd V 23 (.bool false)) 22 = .bool false from ⟨u19, u22⟩)
          clear u19 u22
          have H := Lib.hid (show ∀ W', Ext W W' → K (fr (upd V 23 (.bool false))) W' from fun W' he => hK _ _ ⟨upd V 23 (.bool false), rfl, HS.ext he, HV.up 23 _ (fun x hx => Option.some.inj hx)⟩)
          clear hK hC hW hL HV 
          rw [HFR.out]
          rw [e19, e22]
          clear e19 e22
          go_wp2_with fail
          show K _ _
          have := H.out _ (Ext.refl _)
          rw [HFR.out] at this
          obtain ⟨u19, u22⟩ := HU.out
          rw [u19, u22] at this
          exact this
        · rintro L A W K hL hC hW ⟨V, rfl, HS, HV⟩ hK
          have e23 : V 23 = .bool false := HV 23 _ rfl (hW 23 rfl)
          have u23 : (upd V 24 (wv (a))) 23 = .bool false := e23
          have HU := Lib.hid (show (upd V 24 (wv (a))) 23 = .bool false from u23)
          clear u23
          have H := Lib.hid (show ∀ W', Ext W W' → K (fr (upd V 24 (wv (a)))) W' from fun W' he => hK _ _ ⟨upd V 24 (wv (a)), rfl, HS.ext he, HV.up 24 _ (fun x hx => Option.some.inj hx)⟩)
          clear hK hC hW hL HV 
          rw [HFR.out]
          rw [e23]
          clear e23
          refine wpList_load_wordG rfl 27 25 (.tmp 3) rfl Try.underlying27 winfo (w.heap.size) (a) rfl (HS.at (w.heap.size) (a) (by simp)) ?_
          show K _ _
          have := H.out _ (Ext.refl _)
          rw [HFR.out] at this
          obtain u23 := HU.out
          rw [u23] at this
          exact this
        · rintro L A W K hL hC hW ⟨V, rfl, HS, HV⟩ hK
          have e23 : V 23 = .bool false := HV 23 _ rfl (hW 23 rfl)
          have u23 : (upd V 25 (wv (n))) 23 = .bool false := e23
          have HU := Lib.hid (show (upd V 25 (wv (n))) 23 = .bool false from u23)
          clear u23
          have H := Lib.hid (show ∀ W', Ext W W' → K (fr (upd V 25 (wv (n)))) W' from fun W' he => hK _ _ ⟨upd V 25 (wv (n)), rfl, HS.ext he, HV.up 25 _ (fun x hx => Option.some.inj hx)⟩)
          clear hK hC hW hL HV 
          rw [HFR.out]
          rw [e23]
          clear e23
          refine wpList_load_wordG rfl 27 25 (.tmp 7) rfl Try.underlying27 winfo (w3.heap.size) (n) rfl (HS.at (w3.heap.size) (n) (by simp)) ?_
          show K _ _
          have := H.out _ (Ext.refl _)
          rw [HFR.out] at this
          obtain u23 := HU.out
          rw [u23] at this
          exact this
        · rintro L A W K hL hC hW ⟨V, rfl, HS, HV⟩ hK
          have e23 : V 23 = .bool false := HV 23 _ rfl (hW 23 rfl)
          have e24 : V 24 = wv (a) := HV 24 _ rfl (hW 24 rfl)
          have e25 : V 25 = wv (n) := HV 25 _ rfl (hW 25 rfl)
          have u23 : (upd V 26 (wv (shrN a n))) 23 = .bool false := e23
          have u24 : (upd V 26 (wv (shrN a n))) 24 = wv (a) := e24
          have u25 : (upd V 26 (wv (shrN a n))) 25 = wv (n) := e25
          have HU := Lib.hid (show (upd V 26 (wv (shrN a n))) 23 = .bool false ∧ (upd V 26 (wv (shrN a n))) 24 = wv (a) ∧ (upd V 26 (wv (shrN a n))) 25 = wv (n) from ⟨u23, u24, u25⟩)
          clear u23 u24 u25
          have H := Lib.hid (show ∀ W', Ext W W' → K (fr (upd V 26 (wv (shrN a n)))) W' from fun W' he => hK _ _ ⟨upd V 26 (wv (shrN a n)), rfl, HS.ext he, HV.up 26 _ (fun x hx => Option.some.inj hx)⟩)
          clear hK hC hW hL HV 
          rw [HFR.out]
          rw [e23, e24, e25]
          clear e23 e24 e25
          go_wp2_with fail
          refine (shr_w a n _ ha kn).mono ?_
          rintro e wx ⟨rfl, hlt, he⟩
          have := H.out _ he
          clear H
          go_wp2_with fail
          show K _ _
          rw [HFR.out] at this
          obtain ⟨u23, u24, u25⟩ := HU.out
          rw [u23, u24, u25] at this
          exact this
        · rintro L A W K hL hC hW ⟨V, rfl, HS, HV⟩ hK
          have e23 : V 23 = .bool false := HV 23 _ rfl (hW 23 rfl)
          have u23 : (upd V 27 (wv 0)) 23 = .bool false := e23
          have HU := Lib.hid (show (upd V 27 (wv 0)) 23 = .bool false from u23)
          clear u23
          have H := Lib.hid (show ∀ W', Ext W W' → K (fr (upd V 27 (wv 0))) W' from fun W' he => hK _ _ ⟨upd V 27 (wv 0), rfl, HS.ext he, HV.up 27 _ (fun x hx => Option.some.inj hx)⟩)
          clear hK hC hW hL HV 
          rw [HFR.out]
          rw [e23]
          clear e23
          go_wp2_with fail
          show K _ _
          have := H.out _ (Ext.refl _)
          rw [HFR.out] at this
          obtain u23 := HU.out
          rw [u23] at this
          exact this
        · rintro L A W K hL hC hW ⟨V, rfl, HS, HV⟩ hK
          have e23 : V 23 = .bool false := HV 23 _ rfl (hW 23 rfl)
          have e26 : V 26 = wv (shrN a n) := HV 26 _ rfl (hW 26 rfl)
          have e27 : V 27 = wv 0 := HV 27 _ rfl (hW 27 rfl)
          have u23 : (upd V 28 (.bool false)) 23 = .bool false := e23
          have u26 : (upd V 28 (.bool false)) 26 = wv (shrN a n) := e26
          have u27 : (upd V 28 (.bool false)) 27 = wv 0 := e27
          have HU := Lib.hid (show (upd V 28 (.bool false)) 23 = .bool false ∧ (upd V 28 (.bool false)) 26 = wv (shrN a n) ∧ (upd V 28 (.bool false)) 27 = wv 0 from ⟨u23, u26, u27⟩)
          clear u23 u26 u27
          have H := Lib.hid (show ∀ W', Ext W W' → K (fr (upd V 28 (.bool false))) W' from fun W' he => hK _ _ ⟨upd V 28 (.bool false), rfl, HS.ext he, HV.up 28 _ (fun x hx => Option.some.inj hx)⟩)
          clear hK hC hW hL HV 
          rw [HFR.out]
          rw [e23, e26, e27]
          clear e23 e26 e27
          refine wpList_neq_word rfl (.tmp 65) (.tmp 66) rfl (shrN a n) (0) (HR.out ▸ (by decide)) (by decide) rfl rfl ?_
          rw [show ((shrN a n) != (0)) = false from by rw [HR.out]; rfl]
          show K _ _
          have := H.out _ (Ext.refl _)
          rw [HFR.out] at this
          obtain ⟨u23, u26, u27⟩ := HU.out
          rw [u23, u26, u27] at this
          exact this
        · rintro L A W K hL hC hW ⟨V, rfl, HS, HV⟩ hK
          have e19 : V 19 = .bool true := HV 19 _ rfl (hW 19 rfl)
          have e23 : V 23 = .bool false := HV 23 _ rfl (hW 23 rfl)
          have e28 : V 28 = .bool false := HV 28 _ rfl (hW 28 rfl)
          have u19 : (upd V 29 (.bool false)) 19 = .bool true := e19
          have u23 : (upd V 29 (.bool false)) 23 = .bool false := e23
          have u28 : (upd V 29 (.bool false)) 28 = .bool false := e28
          have HU := Lib.hid (show (upd V 29 (.bool false)) 19 = .bool true ∧ (upd V 29 (.bool false)) 23 = .bool false ∧ (upd V 29 (.bool false)) 28 = .bool false from ⟨u19, u23, u28⟩)
          clear u19 u23 u28
          have H := Lib.hid (show ∀ W', Ext W W' → K (fr (upd V 29 (.bool false))) W' from fun W' he => hK _ _ ⟨upd V 29 (.bool false), rfl, HS.ext he, HV.up 29 _ (fun x hx => Option.some.inj hx)⟩)
          clear hK hC hW hL HV 
          rw [HFR.out]
          rw [e19, e23, e28]
          clear e19 e23 e28
          go_wp2_with fail
          show K _ _
          have := H.out _ (Ext.refl _)
          rw [HFR.out] at this
          obtain ⟨u19, u23, u28⟩ := HU.out
          rw [u19, u23, u28] at this
          exact this
        · rintro L A W K hL hC hW ⟨V, rfl, HS, HV⟩ hK
          have e16 : V 16 = .bool false := HV 16 _ rfl (hW 16 rfl)
          have e19 : V 19 = .bool true := HV 19 _ rfl (hW 19 rfl)
          have e29 : V 29 = .bool false := HV 29 _ rfl (hW 29 rfl)
          have u16 : (upd V 30 (.bool false)) 16 = .bool false := e16
          have u19 : (upd V 30 (.bool false)) 19 = .bool true := e19
          have u29 : (upd V 30 (.bool false)) 29 = .bool false := e29
          have HU := Lib.hid (show (upd V 30 (.bool false)) 16 = .bool false ∧ (upd V 30 (.bool false)) 19 = .bool true ∧ (upd V 30 (.bool false)) 29 = .bool false from ⟨u16, u19, u29⟩)
          clear u16 u19 u29
          have H := Lib.hid (show ∀ W', Ext W W' → K (fr (upd V 30 (.bool false))) W' from fun W' he => hK _ _ ⟨upd V 30 (.bool false), rfl, HS.ext he, HV.up 30 _ (fun x hx => Option.some.inj hx)⟩)
          clear hK hC hW hL HV 
          rw [HFR.out]
          rw [e16, e19, e29]
          clear e16 e19 e29
          go_wp2_with fail
          show K _ _
          have := H.out _ (Ext.refl _)
          rw [HFR.out] at this
          obtain ⟨u16, u19, u29⟩ := HU.out
          rw [u16, u19, u29] at this
          exact this
        · rintro L A W K hL hC hW ⟨V, rfl, HS, HV⟩ hK
          have e16 : V 16 = .bool false := HV 16 _ rfl (hW 16 rfl)
          have e30 : V 30 = .bool false := HV 30 _ rfl (hW 30 rfl)
          have u16 : (upd V 31 (.bool false)) 16 = .bool false := e16
          have u30 : (upd V 31 (.bool false)) 30 = .bool false := e30
          have HU := Lib.hid (show (upd V 31 (.bool false)) 16 = .bool false ∧ (upd V 31 (.bool false)) 30 = .bool false from ⟨u16, u30⟩)
          clear u16 u30
          have H := Lib.hid (show ∀ W', Ext W W' → K (fr (upd V 31 (.bool false))) W' from fun W' he => hK _ _ ⟨upd V 31 (.bool false), rfl, HS.ext he, HV.up 31 _ (fun x hx => Option.some.inj hx)⟩)
          clear hK hC hW hL HV 
          rw [HFR.out]
          rw [e16, e30]
          clear e16 e30
          go_wp2_with fail
          show K _ _
          have := H.out _ (Ext.refl _)
          rw [HFR.out] at this
          obtain ⟨u16, u30⟩ := HU.out
          rw [u16, u30] at this
          exact this
        · rintro L A W hL ⟨V, rfl, HS, HV⟩
          have e0 : V 0 = wv (a) := HV 0 _ rfl (hL 0 (by simp))
          have e1 : V 1 = wv (n) := HV 1 _ rfl (hL 1 (by simp))
          have e2 : V 2 = wv (shlN a n) := HV 2 _ rfl (hL 2 (by simp))
          have e3 : V 3 = wv (shlN a n) := HV 3 _ rfl (hL 3 (by simp))
          have e4 : V 4 = .bool false := HV 4 _ rfl (hL 4 (by simp))
          have e5 : V 5 = .bool false := HV 5 _ rfl (hL 5 (by simp))
          have e6 : V 6 = .int .u64 n := HV 6 _ rfl (hL 6 (by simp))
          have e7 : V 7 = .bool false := HV 7 _ rfl (hL 7 (by simp))
          have e8 : V 8 = .bool false := HV 8 _ rfl (hL 8 (by simp))
          have e9 : V 9 = undef := HV 9 _ rfl (hL 9 (by simp))
          have e10 : V 10 = undef := HV 10 _ rfl (hL 10 (by simp))
          have e11 : V 11 = undef := HV 11 _ rfl (hL 11 (by simp))
          have e12 : V 12 = undef := HV 12 _ rfl (hL 12 (by simp))
          have e13 : V 13 = undef := HV 13 _ rfl (hL 13 (by simp))
          have e14 : V 14 = .bool false := HV 14 _ rfl (hL 14 (by simp))
          have e15 : V 15 = .bool false := HV 15 _ rfl (hL 15 (by simp))
          have e16 : V 16 = .bool false := HV 16 _ rfl (hL 16 (by simp))
          have e17 : V 17 = .int .u64 n := HV 17 _ rfl (hL 17 (by simp))
          have e18 : V 18 = .bool true := HV 18 _ rfl (hL 18 (by simp))
          have e19 : V 19 = .bool true := HV 19 _ rfl (hL 19 (by simp))
          have e20 : V 20 = wv (0) := HV 20 _ rfl (hL 20 (by simp))
          have e21 : V 21 = wv 0 := HV 21 _ rfl (hL 21 (by simp))
          have e22 : V 22 = .bool false := HV 22 _ rfl (hL 22 (by simp))
          have e23 : V 23 = .bool false := HV 23 _ rfl (hL 23 (by simp))
          have e24 : V 24 = wv (a) := HV 24 _ rfl (hL 24 (by simp))
          have e25 : V 25 = wv (n) := HV 25 _ rfl (hL 25 (by simp))
          have e26 : V 26 = wv (shrN a n) := HV 26 _ rfl (hL 26 (by simp))
          have e27 : V 27 = wv 0 := HV 27 _ rfl (hL 27 (by simp))
          have e28 : V 28 = .bool false := HV 28 _ rfl (hL 28 (by simp))
          have e29 : V 29 = .bool false := HV 29 _ rfl (hL 29 (by simp))
          have e30 : V 30 = .bool false := HV 30 _ rfl (hL 30 (by simp))
          have e31 : V 31 = .bool false := HV 31 _ rfl (hL 31 (by simp))
          rw [HFR.out]
          rw [e0, e1, e2, e3, e4, e5, e6, e7, e8, e9, e10, e11, e12, e13, e14, e15, e16, e17, e18, e19, e20, e21, e22, e23, e24, e25, e26, e27, e28, e29, e30, e31]
          clear hL HV e0 e1 e2 e3 e4 e5 e6 e7 e8 e9 e10 e11 e12 e13 e14 e15 e16 e17 e18 e19 e20 e21 e22 e23 e24 e25 e26 e27 e28 e29 e30 e31
          go_wp2_with fail
          go_meet
          exact ⟨rfl, HS.sub _ (by simp)⟩
    case rest =>
      obtain ⟨rfl, HC⟩ := hcut
      have HS := HC.out
      clear HC
      have hw : IntKind.u64.wrap ((n : Int) + (m : Int)) = (n : Int) + (m : Int) := by
        have := HNM.out
        exact IntWalk.u64_in _ (by omega)
      go_wp2_with fail
      refine wp_named fun a0 ha0 => ?_
      obtain ⟨fr, hfr⟩ : ∃ fr : (Nat → Value) → Act, ∀ V, fr V = (((((((((((((((((((((((((((a0.put (some 71) (V 0)).put (some 72) (V 1)).put (some 73) (V 2)).put (some 74) (V 3)).put (some 75) (V 4)).put (some 76) (V 5)).put (some 77) (V 6)).put (some 78) (V 7)).put (some 79) (V 8)).put (some 80) (V 9)).put (some 81) (V 10)).put (some 82) (V 11)).put (some 83) (V 12)).put (some 84) (V 13)).put (some 85) (V 14)).put (some 86) (V 15)).put (some 87) (V 16)).put (some 88) (V 17)).put (some 89) (V 18)).put (some 90) (V 19)).put (some 91) (V 20)).put (some 92) (V 21)).put (some 93) (V 22)).put (some 94) (V 23)).put (some 95) (V 24)).put (some 96) (V 25)).put (some 6) (V 26)) := ⟨fun V => (((((((((((((((((((((((((((a0.put (some 71) (V 0)).put (some 72) (V 1)).put (some 73) (V 2)).put (some 74) (V 3)).put (some 75) (V 4)).put (some 76) (V 5)).put (some 77) (V 6)).put (some 78) (V 7)).put (some 79) (V 8)).put (some 80) (V 9)).put (some 81) (V 10)).put (some 82) (V 11)).put (some 83) (V 12)).put (some 84) (V 13)).put (some 85) (V 14)).put (some 86) (V 15)).put (some 87) (V 16)).put (some 88) (V 17)).put (some 89) (V 18)).put (some 90) (V 19)).put (some 91) (V 20)).put (some 92) (V 21)).put (some 93) (V 22)).put (some 94) (V 23)).put (some 95) (V 24)).put (some 96) (V 25)).put (some 6) (V 26)), fun _ => rfl⟩
      rw [ha0] at hfr
      simp only [Act.put, List.setIfInBounds_toArray, List.set_cons_zero, List.set_cons_succ] at hfr
      have HFR := Lib.hid hfr
      clear hfr
      refine wp_region_inv (by kernel_rfl) (by kernel_rfl) (fun L A W => ∃ V : Nat → Value, A = fr V ∧ Ks w [(w.heap.size, a), (w3.heap.size, n), (w3.heap.size + 1, m)] W ∧ Vals (fun j => ([some (wv (a)), some (wv (n)), some (wv (shlN a n)), some (wv (m)), some (wv (shlN (shlN a n) m)), some (wv (a)), some (.int .u64 n), some (.int .u64 m), some (.int .u64 ((n : Int) + (m : Int))), some (wv (n + m)), some (wv (shlN a (n + m))), some (.bool true), some (.bool true), some (wv (a)), some (wv (n)), some (wv (shrN a n)), some (wv (m)), some (wv (shrN (shrN a n) m)), some (wv (a)), some (.int .u64 n), some (.int .u64 m), some (.int .u64 ((n : Int) + (m : Int))), some (wv (n + m)), some (wv (shrN a (n + m))), some (.bool true), some (.bool true), some (.bool true)] : List (Option Value)).getD j none) L V) ?_ ⟨?_, ?_, ?_, ?_, ?_, ?_, ?_, ?_, ?_, ?_, ?_, ?_, ?_, ?_, ?_, ?_, ?_, ?_, ?_, ?_, ?_, ?_, ?_, ?_, ?_, ?_, ?_, trivial⟩ ?_
      · refine ⟨fun j => a0.tmps.getD (([71, 72, 73, 74, 75, 76, 77, 78, 79, 80, 81, 82, 83, 84, 85, 86, 87, 88, 89, 90, 91, 92, 93, 94, 95, 96, 6] : List Nat).getD j 0) undef, ?_, HS.drew, Vals.no _ _ _ (fun j hj => by simp at hj; simp [List.getD, List.getElem?_eq_none, hj])⟩
        rw [HFR.out, ha0]
        rfl
      all_goals clear ha0
      · rintro L A W K hL hC hW ⟨V, rfl, HS, HV⟩ hK
        have H := Lib.hid (show ∀ W', Ext W W' → K (fr (upd V 0 (wv (a)))) W' from fun W' he => hK _ _ ⟨upd V 0 (wv (a)), rfl, HS.ext he, HV.up 0 _ (fun x hx => Option.some.inj hx)⟩)
        clear hK hC hW hL HV 
        rw [HFR.out]
        refine wpList_load_wordG rfl 27 25 (.tmp 3) rfl Try.underlying27 winfo (w.heap.size) (a) rfl (HS.at (w.heap.size) (a) (by simp)) ?_
        show K _ _
        have := H.out _ (Ext.refl _)
        rw [HFR.out] at this
        exact this
      · rintro L A W K hL hC hW ⟨V, rfl, HS, HV⟩ hK
        have H := Lib.hid (show ∀ W', Ext W W' → K (fr (upd V 1 (wv (n)))) W' from fun W' he => hK _ _ ⟨upd V 1 (wv (n)), rfl, HS.ext he, HV.up 1 _ (fun x hx => Option.some.inj hx)⟩)
        clear hK hC hW hL HV 
        rw [HFR.out]
        refine wpList_load_wordG rfl 27 25 (.tmp 7) rfl Try.underlying27 winfo (w3.heap.size) (n) rfl (HS.at (w3.heap.size) (n) (by simp)) ?_
        show K _ _
        have := H.out _ (Ext.refl _)
        rw [HFR.out] at this
        exact this
      · rintro L A W K hL hC hW ⟨V, rfl, HS, HV⟩ hK
        have e0 : V 0 = wv (a) := HV 0 _ rfl (hW 0 rfl)
        have e1 : V 1 = wv (n) := HV 1 _ rfl (hW 1 rfl)
        have u0 : (upd V 2 (wv (shlN a n))) 0 = wv (a) := e0
        have u1 : (upd V 2 (wv (shlN a n))) 1 = wv (n) := e1
        have HU := Lib.hid (show (upd V 2 (wv (shlN a n))) 0 = wv (a) ∧ (upd V 2 (wv (shlN a n))) 1 = wv (n) from ⟨u0, u1⟩)
        clear u0 u1
        have H := Lib.hid (show ∀ W', Ext W W' → K (fr (upd V 2 (wv (shlN a n)))) W' from fun W' he => hK _ _ ⟨upd V 2 (wv (shlN a n)), rfl, HS.ext he, HV.up 2 _ (fun x hx => Option.some.inj hx)⟩)
        clear hK hC hW hL HV 
        rw [HFR.out]
        rw [e0, e1]
        clear e0 e1
        go_wp2_with fail
        refine (shl_w a n _ ha kn).mono ?_
        rintro e wx ⟨rfl, hlt, he⟩
        have := H.out _ he
        clear H
        go_wp2_with fail
        show K _ _
        rw [HFR.out] at this
        obtain ⟨u0, u1⟩ := HU.out
        rw [u0, u1] at this
        exact this
      · rintro L A W K hL hC hW ⟨V, rfl, HS, HV⟩ hK
        have H := Lib.hid (show ∀ W', Ext W W' → K (fr (upd V 3 (wv (m)))) W' from fun W' he => hK _ _ ⟨upd V 3 (wv (m)), rfl, HS.ext he, HV.up 3 _ (fun x hx => Option.some.inj hx)⟩)
        clear hK hC hW hL HV 
        rw [HFR.out]
        refine wpList_load_wordG rfl 27 25 (.tmp 8) rfl Try.underlying27 winfo (w3.heap.size + 1) (m) rfl (HS.at (w3.heap.size + 1) (m) (by simp)) ?_
        show K _ _
        have := H.out _ (Ext.refl _)
        rw [HFR.out] at this
        exact this
      · rintro L A W K hL hC hW ⟨V, rfl, HS, HV⟩ hK
        have e2 : V 2 = wv (shlN a n) := HV 2 _ rfl (hW 2 rfl)
        have e3 : V 3 = wv (m) := HV 3 _ rfl (hW 3 rfl)
        have u2 : (upd V 4 (wv (shlN (shlN a n) m))) 2 = wv (shlN a n) := e2
        have u3 : (upd V 4 (wv (shlN (shlN a n) m))) 3 = wv (m) := e3
        have HU := Lib.hid (show (upd V 4 (wv (shlN (shlN a n) m))) 2 = wv (shlN a n) ∧ (upd V 4 (wv (shlN (shlN a n) m))) 3 = wv (m) from ⟨u2, u3⟩)
        clear u2 u3
        have H := Lib.hid (show ∀ W', Ext W W' → K (fr (upd V 4 (wv (shlN (shlN a n) m)))) W' from fun W' he => hK _ _ ⟨upd V 4 (wv (shlN (shlN a n) m)), rfl, HS.ext he, HV.up 4 _ (fun x hx => Option.some.inj hx)⟩)
        clear hK hC hW hL HV 
        rw [HFR.out]
        rw [e2, e3]
        clear e2 e3
        go_wp2_with fail
        refine (shl_w (shlN a n) m _ (shlN_lt _ _) km).mono ?_
        rintro e wx ⟨rfl, hlt, he⟩
        have := H.out _ he
        clear H
        go_wp2_with fail
        show K _ _
        rw [HFR.out] at this
        obtain ⟨u2, u3⟩ := HU.out
        rw [u2, u3] at this
        exact this
      · rintro L A W K hL hC hW ⟨V, rfl, HS, HV⟩ hK
        have H := Lib.hid (show ∀ W', Ext W W' → K (fr (upd V 5 (wv (a)))) W' from fun W' he => hK _ _ ⟨upd V 5 (wv (a)), rfl, HS.ext he, HV.up 5 _ (fun x hx => Option.some.inj hx)⟩)
        clear hK hC hW hL HV 
        rw [HFR.out]
        refine wpList_load_wordG rfl 27 25 (.tmp 3) rfl Try.underlying27 winfo (w.heap.size) (a) rfl (HS.at (w.heap.size) (a) (by simp)) ?_
        show K _ _
        have := H.out _ (Ext.refl _)
        rw [HFR.out] at this
        exact this
      · rintro L A W K hL hC hW ⟨V, rfl, HS, HV⟩ hK
        have H := Lib.hid (show ∀ W', Ext W W' → K (fr (upd V 6 (.int .u64 n))) W' from fun W' he => hK _ _ ⟨upd V 6 (.int .u64 n), rfl, HS.ext he, HV.up 6 _ (fun x hx => Option.some.inj hx)⟩)
        clear hK hC hW hL HV 
        rw [HFR.out]
        go_wp2_with fail
        show K _ _
        have := H.out _ (Ext.refl _)
        rw [HFR.out] at this
        exact this
      · rintro L A W K hL hC hW ⟨V, rfl, HS, HV⟩ hK
        have H := Lib.hid (show ∀ W', Ext W W' → K (fr (upd V 7 (.int .u64 m))) W' from fun W' he => hK _ _ ⟨upd V 7 (.int .u64 m), rfl, HS.ext he, HV.up 7 _ (fun x hx => Option.some.inj hx)⟩)
        clear hK hC hW hL HV 
        rw [HFR.out]
        go_wp2_with fail
        show K _ _
        have := H.out _ (Ext.refl _)
        rw [HFR.out] at this
        exact this
      · rintro L A W K hL hC hW ⟨V, rfl, HS, HV⟩ hK
        have e6 : V 6 = .int .u64 n := HV 6 _ rfl (hW 6 rfl)
        have e7 : V 7 = .int .u64 m := HV 7 _ rfl (hW 7 rfl)
        have u6 : (upd V 8 (.int .u64 ((n : Int) + (m : Int)))) 6 = .int .u64 n := e6
        have u7 : (upd V 8 (.int .u64 ((n : Int) + (m : Int)))) 7 = .int .u64 m := e7
        have HU := Lib.hid (show (upd V 8 (.int .u64 ((n : Int) + (m : Int)))) 6 = .int .u64 n ∧ (upd V 8 (.int .u64 ((n : Int) + (m : Int)))) 7 = .int .u64 m from ⟨u6, u7⟩)
        clear u6 u7
        have H := Lib.hid (show ∀ W', Ext W W' → K (fr (upd V 8 (.int .u64 ((n : Int) + (m : Int))))) W' from fun W' he => hK _ _ ⟨upd V 8 (.int .u64 ((n : Int) + (m : Int))), rfl, HS.ext he, HV.up 8 _ (fun x hx => Option.some.inj hx)⟩)
        clear hK hC hW hL HV 
        rw [HFR.out]
        rw [e6, e7]
        clear e6 e7
        go_wp2_with fail
        show K _ _
        have := H.out _ (Ext.refl _)
        rw [HFR.out] at this
        obtain ⟨u6, u7⟩ := HU.out
        rw [u6, u7] at this
        exact this
      · rintro L A W K hL hC hW ⟨V, rfl, HS, HV⟩ hK
        have e8 : V 8 = .int .u64 ((n : Int) + (m : Int)) := HV 8 _ rfl (hW 8 rfl)
        have u8 : (upd V 9 (wv (n + m))) 8 = .int .u64 ((n : Int) + (m : Int)) := e8
        have HU := Lib.hid (show (upd V 9 (wv (n + m))) 8 = .int .u64 ((n : Int) + (m : Int)) from u8)
        clear u8
        have H := Lib.hid (show ∀ W', Ext W W' → K (fr (upd V 9 (wv (n + m)))) W' from fun W' he => hK _ _ ⟨upd V 9 (wv (n + m)), rfl, HS.ext he, HV.up 9 _ (fun x hx => Option.some.inj hx)⟩)
        clear hK hC hW hL HV 
        rw [HFR.out]
        rw [e8]
        clear e8
        go_wp2_with fail
        refine (of_w (n + m) _ (by simp) _ (by have := HNM.out; omega)).mono ?_
        rintro e wx ⟨rfl, hlt, he⟩
        have := H.out _ he
        clear H
        go_wp2_with fail
        show K _ _
        rw [HFR.out] at this
        obtain u8 := HU.out
        rw [u8] at this
        exact this
      · rintro L A W K hL hC hW ⟨V, rfl, HS, HV⟩ hK
        have e5 : V 5 = wv (a) := HV 5 _ rfl (hW 5 rfl)
        have e9 : V 9 = wv (n + m) := HV 9 _ rfl (hW 9 rfl)
        have u5 : (upd V 10 (wv (shlN a (n + m)))) 5 = wv (a) := e5
        have u9 : (upd V 10 (wv (shlN a (n + m)))) 9 = wv (n + m) := e9
        have HU := Lib.hid (show (upd V 10 (wv (shlN a (n + m)))) 5 = wv (a) ∧ (upd V 10 (wv (shlN a (n + m)))) 9 = wv (n + m) from ⟨u5, u9⟩)
        clear u5 u9
        have H := Lib.hid (show ∀ W', Ext W W' → K (fr (upd V 10 (wv (shlN a (n + m))))) W' from fun W' he => hK _ _ ⟨upd V 10 (wv (shlN a (n + m))), rfl, HS.ext he, HV.up 10 _ (fun x hx => Option.some.inj hx)⟩)
        clear hK hC hW hL HV 
        rw [HFR.out]
        rw [e5, e9]
        clear e5 e9
        go_wp2_with fail
        refine (shl_w a (n + m) _ ha (by have := HNM.out; unfold M256; omega)).mono ?_
        rintro e wx ⟨rfl, hlt, he⟩
        have := H.out _ he
        clear H
        go_wp2_with fail
        show K _ _
        rw [HFR.out] at this
        obtain ⟨u5, u9⟩ := HU.out
        rw [u5, u9] at this
        exact this
      · rintro L A W K hL hC hW ⟨V, rfl, HS, HV⟩ hK
        have e4 : V 4 = wv (shlN (shlN a n) m) := HV 4 _ rfl (hW 4 rfl)
        have e10 : V 10 = wv (shlN a (n + m)) := HV 10 _ rfl (hW 10 rfl)
        have u4 : (upd V 11 (.bool true)) 4 = wv (shlN (shlN a n) m) := e4
        have u10 : (upd V 11 (.bool true)) 10 = wv (shlN a (n + m)) := e10
        have HU := Lib.hid (show (upd V 11 (.bool true)) 4 = wv (shlN (shlN a n) m) ∧ (upd V 11 (.bool true)) 10 = wv (shlN a (n + m)) from ⟨u4, u10⟩)
        clear u4 u10
        have H := Lib.hid (show ∀ W', Ext W W' → K (fr (upd V 11 (.bool true))) W' from fun W' he => hK _ _ ⟨upd V 11 (.bool true), rfl, HS.ext he, HV.up 11 _ (fun x hx => Option.some.inj hx)⟩)
        clear hK hC hW hL HV 
        rw [HFR.out]
        rw [e4, e10]
        clear e4 e10
        refine wpList_eql_word rfl (.tmp 75) (.tmp 81) rfl (shlN (shlN a n) m) (shlN a (n + m)) (shlN_lt _ _) (shlN_lt _ _) rfl rfl ?_
        rw [show ((shlN (shlN a n) m) == (shlN a (n + m))) = true from by rw [shl_shl]; exact beq_self_eq_true _]
        show K _ _
        have := H.out _ (Ext.refl _)
        rw [HFR.out] at this
        obtain ⟨u4, u10⟩ := HU.out
        rw [u4, u10] at this
        exact this
      · rintro L A W K hL hC hW ⟨V, rfl, HS, HV⟩ hK
        have e11 : V 11 = .bool true := HV 11 _ rfl (hW 11 rfl)
        have u11 : (upd V 12 (.bool true)) 11 = .bool true := e11
        have HU := Lib.hid (show (upd V 12 (.bool true)) 11 = .bool true from u11)
        clear u11
        have H := Lib.hid (show ∀ W', Ext W W' → K (fr (upd V 12 (.bool true))) W' from fun W' he => hK _ _ ⟨upd V 12 (.bool true), rfl, HS.ext he, HV.up 12 _ (fun x hx => Option.some.inj hx)⟩)
        clear hK hC hW hL HV 
        rw [HFR.out]
        rw [e11]
        clear e11
        go_wp2_with fail
        show K _ _
        have := H.out _ (Ext.refl _)
        rw [HFR.out] at this
        obtain u11 := HU.out
        rw [u11] at this
        exact this
      · rintro L A W K hL hC hW ⟨V, rfl, HS, HV⟩ hK
        have e12 : V 12 = .bool true := HV 12 _ rfl (hW 12 rfl)
        have u12 : (upd V 13 (wv (a))) 12 = .bool true := e12
        have HU := Lib.hid (show (upd V 13 (wv (a))) 12 = .bool true from u12)
        clear u12
        have H := Lib.hid (show ∀ W', Ext W W' → K (fr (upd V 13 (wv (a)))) W' from fun W' he => hK _ _ ⟨upd V 13 (wv (a)), rfl, HS.ext he, HV.up 13 _ (fun x hx => Option.some.inj hx)⟩)
        clear hK hC hW hL HV 
        rw [HFR.out]
        rw [e12]
        clear e12
        refine wpList_load_wordG rfl 27 25 (.tmp 3) rfl Try.underlying27 winfo (w.heap.size) (a) rfl (HS.at (w.heap.size) (a) (by simp)) ?_
        show K _ _
        have := H.out _ (Ext.refl _)
        rw [HFR.out] at this
        obtain u12 := HU.out
        rw [u12] at this
        exact this
      · rintro L A W K hL hC hW ⟨V, rfl, HS, HV⟩ hK
        have e12 : V 12 = .bool true := HV 12 _ rfl (hW 12 rfl)
        have u12 : (upd V 14 (wv (n))) 12 = .bool true := e12
        have HU := Lib.hid (show (upd V 14 (wv (n))) 12 = .bool true from u12)
        clear u12
        have H := Lib.hid (show ∀ W', Ext W W' → K (fr (upd V 14 (wv (n)))) W' from fun W' he => hK _ _ ⟨upd V 14 (wv (n)), rfl, HS.ext he, HV.up 14 _ (fun x hx => Option.some.inj hx)⟩)
        clear hK hC hW hL HV 
        rw [HFR.out]
        rw [e12]
        clear e12
        refine wpList_load_wordG rfl 27 25 (.tmp 7) rfl Try.underlying27 winfo (w3.heap.size) (n) rfl (HS.at (w3.heap.size) (n) (by simp)) ?_
        show K _ _
        have := H.out _ (Ext.refl _)
        rw [HFR.out] at this
        obtain u12 := HU.out
        rw [u12] at this
        exact this
      · rintro L A W K hL hC hW ⟨V, rfl, HS, HV⟩ hK
        have e12 : V 12 = .bool true := HV 12 _ rfl (hW 12 rfl)
        have e13 : V 13 = wv (a) := HV 13 _ rfl (hW 13 rfl)
        have e14 : V 14 = wv (n) := HV 14 _ rfl (hW 14 rfl)
        have u12 : (upd V 15 (wv (shrN a n))) 12 = .bool true := e12
        have u13 : (upd V 15 (wv (shrN a n))) 13 = wv (a) := e13
        have u14 : (upd V 15 (wv (shrN a n))) 14 = wv (n) := e14
        have HU := Lib.hid (show (upd V 15 (wv (shrN a n))) 12 = .bool true ∧ (upd V 15 (wv (shrN a n))) 13 = wv (a) ∧ (upd V 15 (wv (shrN a n))) 14 = wv (n) from ⟨u12, u13, u14⟩)
        clear u12 u13 u14
        have H := Lib.hid (show ∀ W', Ext W W' → K (fr (upd V 15 (wv (shrN a n)))) W' from fun W' he => hK _ _ ⟨upd V 15 (wv (shrN a n)), rfl, HS.ext he, HV.up 15 _ (fun x hx => Option.some.inj hx)⟩)
        clear hK hC hW hL HV 
        rw [HFR.out]
        rw [e12, e13, e14]
        clear e12 e13 e14
        go_wp2_with fail
        refine (shr_w a n _ ha kn).mono ?_
        rintro e wx ⟨rfl, hlt, he⟩
        have := H.out _ he
        clear H
        go_wp2_with fail
        show K _ _
        rw [HFR.out] at this
        obtain ⟨u12, u13, u14⟩ := HU.out
        rw [u12, u13, u14] at this
        exact this
      · rintro L A W K hL hC hW ⟨V, rfl, HS, HV⟩ hK
        have e12 : V 12 = .bool true := HV 12 _ rfl (hW 12 rfl)
        have u12 : (upd V 16 (wv (m))) 12 = .bool true := e12
        have HU := Lib.hid (show (upd V 16 (wv (m))) 12 = .bool true from u12)
        clear u12
        have H := Lib.hid (show ∀ W', Ext W W' → K (fr (upd V 16 (wv (m)))) W' from fun W' he => hK _ _ ⟨upd V 16 (wv (m)), rfl, HS.ext he, HV.up 16 _ (fun x hx => Option.some.inj hx)⟩)
        clear hK hC hW hL HV 
        rw [HFR.out]
        rw [e12]
        clear e12
        refine wpList_load_wordG rfl 27 25 (.tmp 8) rfl Try.underlying27 winfo (w3.heap.size + 1) (m) rfl (HS.at (w3.heap.size + 1) (m) (by simp)) ?_
        show K _ _
        have := H.out _ (Ext.refl _)
        rw [HFR.out] at this
        obtain u12 := HU.out
        rw [u12] at this
        exact this
      · rintro L A W K hL hC hW ⟨V, rfl, HS, HV⟩ hK
        have e12 : V 12 = .bool true := HV 12 _ rfl (hW 12 rfl)
        have e15 : V 15 = wv (shrN a n) := HV 15 _ rfl (hW 15 rfl)
        have e16 : V 16 = wv (m) := HV 16 _ rfl (hW 16 rfl)
        have u12 : (upd V 17 (wv (shrN (shrN a n) m))) 12 = .bool true := e12
        have u15 : (upd V 17 (wv (shrN (shrN a n) m))) 15 = wv (shrN a n) := e15
        have u16 : (upd V 17 (wv (shrN (shrN a n) m))) 16 = wv (m) := e16
        have HU := Lib.hid (show (upd V 17 (wv (shrN (shrN a n) m))) 12 = .bool true ∧ (upd V 17 (wv (shrN (shrN a n) m))) 15 = wv (shrN a n) ∧ (upd V 17 (wv (shrN (shrN a n) m))) 16 = wv (m) from ⟨u12, u15, u16⟩)
        clear u12 u15 u16
        have H := Lib.hid (show ∀ W', Ext W W' → K (fr (upd V 17 (wv (shrN (shrN a n) m)))) W' from fun W' he => hK _ _ ⟨upd V 17 (wv (shrN (shrN a n) m)), rfl, HS.ext he, HV.up 17 _ (fun x hx => Option.some.inj hx)⟩)
        clear hK hC hW hL HV 
        rw [HFR.out]
        rw [e12, e15, e16]
        clear e12 e15 e16
        go_wp2_with fail
        refine (shr_w (shrN a n) m _ (shrN_lt _ _ ha) km).mono ?_
        rintro e wx ⟨rfl, hlt, he⟩
        have := H.out _ he
        clear H
        go_wp2_with fail
        show K _ _
        rw [HFR.out] at this
        obtain ⟨u12, u15, u16⟩ := HU.out
        rw [u12, u15, u16] at this
        exact this
      · rintro L A W K hL hC hW ⟨V, rfl, HS, HV⟩ hK
        have e12 : V 12 = .bool true := HV 12 _ rfl (hW 12 rfl)
        have u12 : (upd V 18 (wv (a))) 12 = .bool true := e12
        have HU := Lib.hid (show (upd V 18 (wv (a))) 12 = .bool true from u12)
        clear u12
        have H := Lib.hid (show ∀ W', Ext W W' → K (fr (upd V 18 (wv (a)))) W' from fun W' he => hK _ _ ⟨upd V 18 (wv (a)), rfl, HS.ext he, HV.up 18 _ (fun x hx => Option.some.inj hx)⟩)
        clear hK hC hW hL HV 
        rw [HFR.out]
        rw [e12]
        clear e12
        refine wpList_load_wordG rfl 27 25 (.tmp 3) rfl Try.underlying27 winfo (w.heap.size) (a) rfl (HS.at (w.heap.size) (a) (by simp)) ?_
        show K _ _
        have := H.out _ (Ext.refl _)
        rw [HFR.out] at this
        obtain u12 := HU.out
        rw [u12] at this
        exact this
      · rintro L A W K hL hC hW ⟨V, rfl, HS, HV⟩ hK
        have e12 : V 12 = .bool true := HV 12 _ rfl (hW 12 rfl)
        have u12 : (upd V 19 (.int .u64 n)) 12 = .bool true := e12
        have HU := Lib.hid (show (upd V 19 (.int .u64 n)) 12 = .bool true from u12)
        clear u12
        have H := Lib.hid (show ∀ W', Ext W W' → K (fr (upd V 19 (.int .u64 n))) W' from fun W' he => hK _ _ ⟨upd V 19 (.int .u64 n), rfl, HS.ext he, HV.up 19 _ (fun x hx => Option.some.inj hx)⟩)
        clear hK hC hW hL HV 
        rw [HFR.out]
        rw [e12]
        clear e12
        go_wp2_with fail
        show K _ _
        have := H.out _ (Ext.refl _)
        rw [HFR.out] at this
        obtain u12 := HU.out
        rw [u12] at this
        exact this
      · rintro L A W K hL hC hW ⟨V, rfl, HS, HV⟩ hK
        have e12 : V 12 = .bool true := HV 12 _ rfl (hW 12 rfl)
        have u12 : (upd V 20 (.int .u64 m)) 12 = .bool true := e12
        have HU := Lib.hid (show (upd V 20 (.int .u64 m)) 12 = .bool true from u12)
        clear u12
        have H := Lib.hid (show ∀ W', Ext W W' → K (fr (upd V 20 (.int .u64 m))) W' from fun W' he => hK _ _ ⟨upd V 20 (.int .u64 m), rfl, HS.ext he, HV.up 20 _ (fun x hx => Option.some.inj hx)⟩)
        clear hK hC hW hL HV 
        rw [HFR.out]
        rw [e12]
        clear e12
        go_wp2_with fail
        show K _ _
        have := H.out _ (Ext.refl _)
        rw [HFR.out] at this
        obtain u12 := HU.out
        rw [u12] at this
        exact this
      · rintro L A W K hL hC hW ⟨V, rfl, HS, HV⟩ hK
        have e12 : V 12 = .bool true := HV 12 _ rfl (hW 12 rfl)
        have e19 : V 19 = .int .u64 n := HV 19 _ rfl (hW 19 rfl)
        have e20 : V 20 = .int .u64 m := HV 20 _ rfl (hW 20 rfl)
        have u12 : (upd V 21 (.int .u64 ((n : Int) + (m : Int)))) 12 = .bool true := e12
        have u19 : (upd V 21 (.int .u64 ((n : Int) + (m : Int)))) 19 = .int .u64 n := e19
        have u20 : (upd V 21 (.int .u64 ((n : Int) + (m : Int)))) 20 = .int .u64 m := e20
        have HU := Lib.hid (show (upd V 21 (.int .u64 ((n : Int) + (m : Int)))) 12 = .bool true ∧ (upd V 21 (.int .u64 ((n : Int) + (m : Int)))) 19 = .int .u64 n ∧ (upd V 21 (.int .u64 ((n : Int) + (m : Int)))) 20 = .int .u64 m from ⟨u12, u19, u20⟩)
        clear u12 u19 u20
        have H := Lib.hid (show ∀ W', Ext W W' → K (fr (upd V 21 (.int .u64 ((n : Int) + (m : Int))))) W' from fun W' he => hK _ _ ⟨upd V 21 (.int .u64 ((n : Int) + (m : Int))), rfl, HS.ext he, HV.up 21 _ (fun x hx => Option.some.inj hx)⟩)
        clear hK hC hW hL HV 
        rw [HFR.out]
        rw [e12, e19, e20]
        clear e12 e19 e20
        go_wp2_with fail
        show K _ _
        have := H.out _ (Ext.refl _)
        rw [HFR.out] at this
        obtain ⟨u12, u19, u20⟩ := HU.out
        rw [u12, u19, u20] at this
        exact this
      · rintro L A W K hL hC hW ⟨V, rfl, HS, HV⟩ hK
        have e12 : V 12 = .bool true := HV 12 _ rfl (hW 12 rfl)
        have e21 : V 21 = .int .u64 ((n : Int) + (m : Int)) := HV 21 _ rfl (hW 21 rfl)
        have u12 : (upd V 22 (wv (n + m))) 12 = .bool true := e12
        have u21 : (upd V 22 (wv (n + m))) 21 = .int .u64 ((n : Int) + (m : Int)) := e21
        have HU := Lib.hid (show (upd V 22 (wv (n + m))) 12 = .bool true ∧ (upd V 22 (wv (n + m))) 21 = .int .u64 ((n : Int) + (m : Int)) from ⟨u12, u21⟩)
        clear u12 u21
        have H := Lib.hid (show ∀ W', Ext W W' → K (fr (upd V 22 (wv (n + m)))) W' from fun W' he => hK _ _ ⟨upd V 22 (wv (n + m)), rfl, HS.ext he, HV.up 22 _ (fun x hx => Option.some.inj hx)⟩)
        clear hK hC hW hL HV 
        rw [HFR.out]
        rw [e12, e21]
        clear e12 e21
        go_wp2_with fail
        refine (of_w (n + m) _ (by simp) _ (by have := HNM.out; omega)).mono ?_
        rintro e wx ⟨rfl, hlt, he⟩
        have := H.out _ he
        clear H
        go_wp2_with fail
        show K _ _
        rw [HFR.out] at this
        obtain ⟨u12, u21⟩ := HU.out
        rw [u12, u21] at this
        exact this
      · rintro L A W K hL hC hW ⟨V, rfl, HS, HV⟩ hK
        have e12 : V 12 = .bool true := HV 12 _ rfl (hW 12 rfl)
        have e18 : V 18 = wv (a) := HV 18 _ rfl (hW 18 rfl)
        have e22 : V 22 = wv (n + m) := HV 22 _ rfl (hW 22 rfl)
        have u12 : (upd V 23 (wv (shrN a (n + m)))) 12 = .bool true := e12
        have u18 : (upd V 23 (wv (shrN a (n + m)))) 18 = wv (a) := e18
        have u22 : (upd V 23 (wv (shrN a (n + m)))) 22 = wv (n + m) := e22
        have HU := Lib.hid (show (upd V 23 (wv (shrN a (n + m)))) 12 = .bool true ∧ (upd V 23 (wv (shrN a (n + m)))) 18 = wv (a) ∧ (upd V 23 (wv (shrN a (n + m)))) 22 = wv (n + m) from ⟨u12, u18, u22⟩)
        clear u12 u18 u22
        have H := Lib.hid (show ∀ W', Ext W W' → K (fr (upd V 23 (wv (shrN a (n + m))))) W' from fun W' he => hK _ _ ⟨upd V 23 (wv (shrN a (n + m))), rfl, HS.ext he, HV.up 23 _ (fun x hx => Option.some.inj hx)⟩)
        clear hK hC hW hL HV 
        rw [HFR.out]
        rw [e12, e18, e22]
        clear e12 e18 e22
        go_wp2_with fail
        refine (shr_w a (n + m) _ ha (by have := HNM.out; unfold M256; omega)).mono ?_
        rintro e wx ⟨rfl, hlt, he⟩
        have := H.out _ he
        clear H
        go_wp2_with fail
        show K _ _
        rw [HFR.out] at this
        obtain ⟨u12, u18, u22⟩ := HU.out
        rw [u12, u18, u22] at this
        exact this
      · rintro L A W K hL hC hW ⟨V, rfl, HS, HV⟩ hK
        have e12 : V 12 = .bool true := HV 12 _ rfl (hW 12 rfl)
        have e17 : V 17 = wv (shrN (shrN a n) m) := HV 17 _ rfl (hW 17 rfl)
        have e23 : V 23 = wv (shrN a (n + m)) := HV 23 _ rfl (hW 23 rfl)
        have u12 : (upd V 24 (.bool true)) 12 = .bool true := e12
        have u17 : (upd V 24 (.bool true)) 17 = wv (shrN (shrN a n) m) := e17
        have u23 : (upd V 24 (.bool true)) 23 = wv (shrN a (n + m)) := e23
        have HU := Lib.hid (show (upd V 24 (.bool true)) 12 = .bool true ∧ (upd V 24 (.bool true)) 17 = wv (shrN (shrN a n) m) ∧ (upd V 24 (.bool true)) 23 = wv (shrN a (n + m)) from ⟨u12, u17, u23⟩)
        clear u12 u17 u23
        have H := Lib.hid (show ∀ W', Ext W W' → K (fr (upd V 24 (.bool true))) W' from fun W' he => hK _ _ ⟨upd V 24 (.bool true), rfl, HS.ext he, HV.up 24 _ (fun x hx => Option.some.inj hx)⟩)
        clear hK hC hW hL HV 
        rw [HFR.out]
        rw [e12, e17, e23]
        clear e12 e17 e23
        refine wpList_eql_word rfl (.tmp 88) (.tmp 94) rfl (shrN (shrN a n) m) (shrN a (n + m)) (shrN_lt _ _ (shrN_lt _ _ ha)) ((shrN_lt _ _ ha)) rfl rfl ?_
        rw [show ((shrN (shrN a n) m) == (shrN a (n + m))) = true from by rw [shr_shr _ _ _ ha]; exact beq_self_eq_true _]
        show K _ _
        have := H.out _ (Ext.refl _)
        rw [HFR.out] at this
        obtain ⟨u12, u17, u23⟩ := HU.out
        rw [u12, u17, u23] at this
        exact this
      · rintro L A W K hL hC hW ⟨V, rfl, HS, HV⟩ hK
        have e12 : V 12 = .bool true := HV 12 _ rfl (hW 12 rfl)
        have e24 : V 24 = .bool true := HV 24 _ rfl (hW 24 rfl)
        have u12 : (upd V 25 (.bool true)) 12 = .bool true := e12
        have u24 : (upd V 25 (.bool true)) 24 = .bool true := e24
        have HU := Lib.hid (show (upd V 25 (.bool true)) 12 = .bool true ∧ (upd V 25 (.bool true)) 24 = .bool true from ⟨u12, u24⟩)
        clear u12 u24
        have H := Lib.hid (show ∀ W', Ext W W' → K (fr (upd V 25 (.bool true))) W' from fun W' he => hK _ _ ⟨upd V 25 (.bool true), rfl, HS.ext he, HV.up 25 _ (fun x hx => Option.some.inj hx)⟩)
        clear hK hC hW hL HV 
        rw [HFR.out]
        rw [e12, e24]
        clear e12 e24
        go_wp2_with fail
        show K _ _
        have := H.out _ (Ext.refl _)
        rw [HFR.out] at this
        obtain ⟨u12, u24⟩ := HU.out
        rw [u12, u24] at this
        exact this
      · rintro L A W K hL hC hW ⟨V, rfl, HS, HV⟩ hK
        have e25 : V 25 = .bool true := HV 25 _ rfl (hW 25 rfl)
        have u25 : (upd V 26 (.bool true)) 25 = .bool true := e25
        have HU := Lib.hid (show (upd V 26 (.bool true)) 25 = .bool true from u25)
        clear u25
        have H := Lib.hid (show ∀ W', Ext W W' → K (fr (upd V 26 (.bool true))) W' from fun W' he => hK _ _ ⟨upd V 26 (.bool true), rfl, HS.ext he, HV.up 26 _ (fun x hx => Option.some.inj hx)⟩)
        clear hK hC hW hL HV 
        rw [HFR.out]
        rw [e25]
        clear e25
        go_wp2_with fail
        show K _ _
        have := H.out _ (Ext.refl _)
        rw [HFR.out] at this
        obtain u25 := HU.out
        rw [u25] at this
        exact this
      · rintro L A W hL ⟨V, rfl, HS, HV⟩
        have e0 : V 0 = wv (a) := HV 0 _ rfl (hL 0 (by simp))
        have e1 : V 1 = wv (n) := HV 1 _ rfl (hL 1 (by simp))
        have e2 : V 2 = wv (shlN a n) := HV 2 _ rfl (hL 2 (by simp))
        have e3 : V 3 = wv (m) := HV 3 _ rfl (hL 3 (by simp))
        have e4 : V 4 = wv (shlN (shlN a n) m) := HV 4 _ rfl (hL 4 (by simp))
        have e5 : V 5 = wv (a) := HV 5 _ rfl (hL 5 (by simp))
        have e6 : V 6 = .int .u64 n := HV 6 _ rfl (hL 6 (by simp))
        have e7 : V 7 = .int .u64 m := HV 7 _ rfl (hL 7 (by simp))
        have e8 : V 8 = .int .u64 ((n : Int) + (m : Int)) := HV 8 _ rfl (hL 8 (by simp))
        have e9 : V 9 = wv (n + m) := HV 9 _ rfl (hL 9 (by simp))
        have e10 : V 10 = wv (shlN a (n + m)) := HV 10 _ rfl (hL 10 (by simp))
        have e11 : V 11 = .bool true := HV 11 _ rfl (hL 11 (by simp))
        have e12 : V 12 = .bool true := HV 12 _ rfl (hL 12 (by simp))
        have e13 : V 13 = wv (a) := HV 13 _ rfl (hL 13 (by simp))
        have e14 : V 14 = wv (n) := HV 14 _ rfl (hL 14 (by simp))
        have e15 : V 15 = wv (shrN a n) := HV 15 _ rfl (hL 15 (by simp))
        have e16 : V 16 = wv (m) := HV 16 _ rfl (hL 16 (by simp))
        have e17 : V 17 = wv (shrN (shrN a n) m) := HV 17 _ rfl (hL 17 (by simp))
        have e18 : V 18 = wv (a) := HV 18 _ rfl (hL 18 (by simp))
        have e19 : V 19 = .int .u64 n := HV 19 _ rfl (hL 19 (by simp))
        have e20 : V 20 = .int .u64 m := HV 20 _ rfl (hL 20 (by simp))
        have e21 : V 21 = .int .u64 ((n : Int) + (m : Int)) := HV 21 _ rfl (hL 21 (by simp))
        have e22 : V 22 = wv (n + m) := HV 22 _ rfl (hL 22 (by simp))
        have e23 : V 23 = wv (shrN a (n + m)) := HV 23 _ rfl (hL 23 (by simp))
        have e24 : V 24 = .bool true := HV 24 _ rfl (hL 24 (by simp))
        have e25 : V 25 = .bool true := HV 25 _ rfl (hL 25 (by simp))
        have e26 : V 26 = .bool true := HV 26 _ rfl (hL 26 (by simp))
        rw [HFR.out]
        rw [e0, e1, e2, e3, e4, e5, e6, e7, e8, e9, e10, e11, e12, e13, e14, e15, e16, e17, e18, e19, e20, e21, e22, e23, e24, e25, e26]
        clear hL HV e0 e1 e2 e3 e4 e5 e6 e7 e8 e9 e10 e11 e12 e13 e14 e15 e16 e17 e18 e19 e20 e21 e22 e23 e24 e25 e26
        go_wp2_with fail
        go_ret
        exact ⟨rfl, HS.2⟩

theorem moves_told (W : World) (args : Array Value) (h : Told Try.f10 W args) : Calls Try.prog 10 args W (RetT W) := by
  obtain ⟨H, enc, base, ds, p, hval, hA⟩ := h
  rw [Try.params10] at hA hval
  obtain ⟨v0, v1, v2, d0, d1, d2, p0, p1, p2, rfl, rfl, rfl, h0, h1, h2⟩ := trodAll_three hA
  obtain ⟨a, ha, rfl⟩ := word_came (hval 0 _ v0 rfl rfl) h0
  obtain ⟨n, rfl, hn⟩ := u64_came Try.underlying25 (hval 1 _ v1 rfl rfl) h1
  obtain ⟨m, rfl, hm⟩ := u64_came Try.underlying25 (hval 2 _ v2 rfl rfl) h2
  exact moves_walk a n m (n % 300) (m % 300) W ha (by omega) (by omega) (Nat.mod_lt _ (by decide)) (Nat.mod_lt _ (by decide))

theorem moves_spec (H : Type) : ∀ ds : List (DataW H), ds.length = Try.f10.params.toList.length → Rows.wordMovesSpec.fn H ds = { results := [.lit (.bool true)], args := ds }
  | [_, _, _], _ => rfl
  | [], h | [_], h | [_, _], h | _ :: _ :: _ :: _ :: _, h => by rw [Try.params10] at h; simp at h

set_option maxRecDepth 100000 in
theorem wordMoves_holds : Rows.WordMovesSaid :=
  OpenClaim.holds_of_wide 10 Try.f10 rfl rfl rfl rfl rfl rfl rfl ⟨rfl, rfl, rfl, rfl, rfl⟩ rfl rfl rfl rfl rfl (by kernel_rfl) Try.func10 (by kernel_rfl)
    (of_decide_eq_true (by kernel_rfl)) (by unfold Func.isWrapper; first | (rw [if_pos (by decide +kernel)]; kernel_rfl) | (rw [if_neg (by decide +kernel)]; exact ⟨rfl, rfl⟩))
    (fun os started H enc _ => law_lifted started (by kernel_rfl) Try.func10 rfl rfl (moves_spec H) (of_decide_eq_true (by kernel_rfl))
      (ChangeSpec.witness6 (enc := enc) (C := Try.checked) false ⟨#[], #[.agg #[.int .u64 0, .int .u64 0, .int .u64 0, .int .u64 0], .int .u64 0, .int .u64 0], []⟩ 8 (by kernel_rfl) (by kernel_rfl) (by kernel_rfl) (by kernel_rfl)) moves_told)
end Go.Proofs.Ytiadabjmkabcfaa
