/- The law NonceBack: nonce words lead back from their keys and sequences. -/
import Derived.Test.YtepggbhibpjkpaaNoi
import Derived.Test.YtepggbhibpjkpaaWst
namespace Go.Proofs.Ytepggbhibpjkpaa
open Go.ChangeShapes Go.WideShapes Go.ChangeAt Go.RowKit Go.Shelf

set_option maxRecDepth 100000 in
theorem back_sum {x s : Nat} (hx : x < K192) (hs : s < 18446744073709551616) : addN (shlN x 64) s = jnN x s ∧ ovr (shlN x 64) s = false := by
  have e : shlN x 64 = x * 18446744073709551616 := by
    unfold shlN
    rw [if_pos (by decide)]
    unfold K192 at hx
    rw [Nat.mod_eq_of_lt (by unfold M256; omega)]
  rw [e]
  unfold addN ovr jnN B64
  unfold K192 at *
  unfold M256
  refine ⟨by omega, decide_eq_false (by omega)⟩
set_option maxRecDepth 100000 in
theorem back_high {x : Nat} (hx : ¬ x < K192) : decide (0 ≤ cmpN x (shlN 1 192)) = true := by
  have e : shlN 1 192 = K192 := by decide
  rw [e]
  unfold cmpN
  rw [if_neg hx]
  split <;> rfl
set_option maxRecDepth 100000 in
set_option maxHeartbeats 4000000 in
theorem nonceBack_any (x s : Nat) (w : World) (hx : x < M256) (hs : s < 18446744073709551616) : Calls Try.prog 8 #[wv x, .int .u64 (s : Nat)] w (RetT w) := by
  have HX := Lib.hid hx
  have HSS := Lib.hid hs
  have HSM := Lib.hid (show s < M256 by unfold M256; omega)
  have HK := Lib.hid (keyN_lt hx)
  have HQ := Lib.hid (seqN_lt x)
  have HJK := Lib.hid (join_key x hx)
  have HKB := Lib.hid (keyB_iff (K192_lt (keyN_lt hx)))
  have HXB := Lib.hid (keyB_iff hx)
  have HKL := Lib.hid (fun h : x < K192 => key_join x s h hs)
  have HKS := Lib.hid (fun h : x < K192 => back_sum h hs)
  have HJL := Lib.hid (jnN_lt x s hs)
  have HHI := Lib.hid (fun h => back_high (x := x) h)
  clear hx hs
  unfold wv
  go_enter Try.func8, Try.ntmps8
  go_wp2_with fail
  refine (wakesN_any _).mono ?_
  rintro e w1 ⟨rfl, he1⟩
  have HS : Ks w [(w.heap.size, x)] w1 :=
    ⟨fun z hz => by
      simp only [List.mem_cons, List.not_mem_nil, or_false] at hz
      subst hz
      exact Cs.ext (Cs.new _ _ _ _ rfl) he1, Ext.trans ((Ext.refl w).alloc _) he1⟩
  clear he1
  go_wp2_with (first
    | ((with_reducible refine wpList_load_wordG ?_ 29 26 (.tmp 2) rfl Try.underlying29 winfo (w.heap.size) (x) ?_ ?_ ?_); (exact rfl); (exact rfl); (exact HS.at (w.heap.size) (x) (by simp))))
  refine (split_any x _ HX.out).mono ?_
  rintro e w2 ⟨rfl, he⟩
  have HS := HS.ext he
  clear he
  have HKJ : Hid (jwN (keyN x) (seqN x) = x ∧ jeN (keyN x) = 0) := Lib.hid (by
    unfold jwN jeN
    rw [HKB.out.2 HK.out, if_pos rfl, if_pos rfl]
    exact ⟨HJK.out, rfl⟩)
  clear HJK HKB
  generalize keyN x = k at *
  generalize seqN x = q at *
  go_wp2_with (first
    | ((with_reducible refine wpList_store_word rfl rfl 29 (.tmp 5) (.tmp 20) rfl winfo (w2.heap.size) (wc 0) (k) ?_ ?_ ?_ ?_ ?_); (exact rfl); (exact rfl); (exact heap_alloc_new _ _); (exact rfl); intro w3 kz gz; have HS := HS.put gz kz; clear kz gz)
    | ((with_reducible refine wpList_load_wordG ?_ 29 26 (.tmp 5) rfl Try.underlying29 winfo (w2.heap.size) (k) ?_ ?_ ?_); (exact rfl); (exact rfl); (exact HS.at (w2.heap.size) (k) (by simp))))
  refine (join_any k q _ HQ.out).mono ?_
  rintro e w4 ⟨rfl, he⟩
  have HS := HS.ext he
  clear he
  rw [HKJ.out.1, HKJ.out.2]
  have hbf : (x != x) = false := bne_self_eq_false x
  go_wp2_with (first
    | ((with_reducible refine wpList_store_word rfl rfl 29 (.tmp 7) (.tmp 26) rfl winfo (w4.heap.size) (wc 0) (x) ?_ ?_ ?_ ?_ ?_); (exact rfl); (exact rfl); (exact heap_alloc_new _ _); (exact rfl); intro w5 kz gz; have HS := HS.put gz kz; clear kz gz)
    | ((with_reducible refine wpList_load_wordG ?_ 29 26 (.tmp 7) rfl Try.underlying29 winfo (w4.heap.size) (x) ?_ ?_ ?_); (exact rfl); (exact rfl); (exact HS.at (w4.heap.size) (x) (by simp)))
    | ((with_reducible refine wpList_load_wordG ?_ 29 26 (.tmp 2) rfl Try.underlying29 winfo (w.heap.size) (x) ?_ ?_ ?_); (exact rfl); (exact rfl); (exact HS.at (w.heap.size) (x) (by simp)))
    | ((with_reducible refine wpList_neq_word ?_ (.tmp 31) (.tmp 32) rfl (x) (x) (HX.out) (HX.out) ?_ ?_ ?_); (exact rfl); (exact rfl); (exact rfl); rw [hbf]))
  refine (join_any x s _ HSS.out).mono ?_
  rintro e w6 ⟨rfl, he⟩
  have HS := (HS.ext he).sub [(w.heap.size, x)] (by simp)
  clear he hbf HKJ
  by_cases hk : x < K192
  · have HJ : Hid (jwN x s = jnN x s ∧ jeN x = 0) := Lib.hid (by
      unfold jwN jeN
      rw [HXB.out.2 hk, if_pos rfl, if_pos rfl]
      exact ⟨rfl, rfl⟩)
    have HJB := Lib.hid (HKL.out hk)
    have HSU := Lib.hid (HKS.out hk)
    rw [HJ.out.1, HJ.out.2]
    clear hk HJ HKL HKS HHI HXB
    generalize jnN x s = J at *
    go_wp2_with (first
      | ((with_reducible refine wpList_store_word rfl rfl 29 (.tmp 9) (.tmp 39) rfl winfo (w6.heap.size) (wc 0) (J) ?_ ?_ ?_ ?_ ?_); (exact rfl); (exact rfl); (exact heap_alloc_new _ _); (exact rfl); intro w8 kz gz; have HS := HS.put gz kz; clear kz gz)
      | ((with_reducible refine wpList_load_wordG ?_ 29 26 (.tmp 9) rfl Try.underlying29 winfo (w6.heap.size) (J) ?_ ?_ ?_); (exact rfl); (exact rfl); (exact HS.at (w6.heap.size) (J) (by simp))))
    refine (split_any J _ HJL.out).mono ?_
    rintro e w9 ⟨rfl, he⟩
    have HS := HS.ext he
    clear he
    rw [HJB.out.1, HJB.out.2]
    go_upto_region 11 with (first
      | ((with_reducible refine wpList_store_word rfl rfl 29 (.tmp 10) (.tmp 52) rfl winfo (w9.heap.size) (wc 0) (x) ?_ ?_ ?_ ?_ ?_); (exact rfl); (exact rfl); (exact heap_alloc_new _ _); (exact rfl); intro w10 kz gz; have HS := HS.put gz kz; clear kz gz))
    refine wp_named fun a0 ha0 => ?_
    obtain ⟨fr, hfr⟩ : ∃ fr : (Nat → Value) → Act, ∀ V, fr V = ((((a0.put (some 54) (V 0)).put (some 55) (V 1)).put (some 56) (V 2)).put (some 12) (V 3)) := ⟨fun V => ((((a0.put (some 54) (V 0)).put (some 55) (V 1)).put (some 56) (V 2)).put (some 12) (V 3)), fun _ => rfl⟩
    rw [ha0] at hfr
    simp only [Act.put, List.setIfInBounds_toArray, List.set_cons_zero, List.set_cons_succ] at hfr
    have HFR := Lib.hid hfr
    clear hfr
    refine wp_region_inv (by kernel_rfl) (by kernel_rfl) (fun L A W => ∃ V : Nat → Value, A = fr V ∧ Ks w [(w9.heap.size, x), (w6.heap.size, J), (w.heap.size, x)] W ∧ Vals (fun j => ([some (wv (x)), some (wv 64), some (wv (shlN x 64)), none, none] : List (Option Value)).getD j none) L V ∧ (L 3 = true → Nb w [(w9.heap.size, x), (w6.heap.size, J), (w.heap.size, x)] W (V 3) (L 4) (shlN x 64))) ?_ ⟨?_, ?_, ?_, ?_, ?_, trivial⟩ ?_
    · refine ⟨fun j => a0.tmps.getD (([54, 55, 56, 12, 0] : List Nat).getD j 0) undef, ?_, HS.drew, Vals.no _ _ _ (far_none _ _ rfl), fun h => absurd h (by decide)⟩
      rw [HFR.out, ha0]
      rfl
    all_goals clear ha0
    · rintro L A W K hL hC hW ⟨V, rfl, HS, HV, f3⟩ hK
      have H := Lib.hid (show ∀ W', Ext W W' → K (fr (upd V 0 (wv (x)))) W' from fun W' he => hK _ _ ⟨upd V 0 (wv (x)), rfl, HS.ext he, HV.up 0 _ (fun x hx => Option.some.inj hx), fun h => Nb.weak (Nb.ext (f3 (more_ne h rfl)) he) (fun h => more_ne h rfl)⟩)
      clear hK hC hW hL HV f3
      rw [HFR.out]
      refine wpList_load_wordG rfl 29 26 (.tmp 2) rfl Try.underlying29 winfo (w.heap.size) (x) rfl (HS.at (w.heap.size) (x) (by simp)) ?_
      show K _ _
      have := H.out _ (Ext.refl _)
      rw [HFR.out] at this
      exact this
    · rintro L A W K hL hC hW ⟨V, rfl, HS, HV, f3⟩ hK
      have H := Lib.hid (show ∀ W', Ext W W' → K (fr (upd V 1 (wv 64))) W' from fun W' he => hK _ _ ⟨upd V 1 (wv 64), rfl, HS.ext he, HV.up 1 _ (fun x hx => Option.some.inj hx), fun h => Nb.weak (Nb.ext (f3 (more_ne h rfl)) he) (fun h => more_ne h rfl)⟩)
      clear hK hC hW hL HV f3
      rw [HFR.out]
      go_wp2_with fail
      refine (of_w 64 _ rfl _ (by decide)).mono ?_
      rintro e wx ⟨rfl, hlt, he⟩
      have := H.out _ he
      clear H
      go_wp2_with fail
      show K _ _
      rw [HFR.out] at this
      exact this
    · rintro L A W K hL hC hW ⟨V, rfl, HS, HV, f3⟩ hK
      have e0 : V 0 = wv (x) := HV 0 _ rfl (hW 0 rfl)
      have e1 : V 1 = wv 64 := HV 1 _ rfl (hW 1 rfl)
      have u0 : (upd V 2 (wv (shlN x 64))) 0 = wv (x) := e0
      have u1 : (upd V 2 (wv (shlN x 64))) 1 = wv 64 := e1
      have HU := Lib.hid (show (upd V 2 (wv (shlN x 64))) 0 = wv (x) ∧ (upd V 2 (wv (shlN x 64))) 1 = wv 64 from ⟨u0, u1⟩)
      clear u0 u1
      have H := Lib.hid (show ∀ W', Ext W W' → K (fr (upd V 2 (wv (shlN x 64)))) W' from fun W' he => hK _ _ ⟨upd V 2 (wv (shlN x 64)), rfl, HS.ext he, HV.up 2 _ (fun x hx => Option.some.inj hx), fun h => Nb.weak (Nb.ext (f3 (more_ne h rfl)) he) (fun h => more_ne h rfl)⟩)
      clear hK hC hW hL HV f3
      rw [HFR.out]
      rw [e0, e1]
      clear e0 e1
      go_wp2_with fail
      refine (shl_w x 64 _ HX.out (by decide)).mono ?_
      rintro e wx ⟨rfl, hlt, he⟩
      have := H.out _ he
      clear H
      go_wp2_with fail
      show K _ _
      rw [HFR.out] at this
      obtain ⟨u0, u1⟩ := HU.out
      rw [u0, u1] at this
      exact this
    · rintro L A W K hL hC hW ⟨V, rfl, HS, HV, f3⟩ hK
      have H := Lib.hid (hK _ _ ⟨upd V 3 (.pointer (some ⟨W.heap.size, 0, none⟩)), rfl, HS.al _, HV.up 3 _ (fun x hx => absurd hx (by intro h; cases h)), fun _ => Nb.new HS _ (by show More L 3 4 = false; unfold More; rw [if_neg (by decide)]; exact hC.no hL 4 _ rfl rfl) _⟩)
      clear hK hC hW hL HV f3
      rw [HFR.out]
      go_wp2_with fail
      show K _ _
      have := H.out
      rw [HFR.out] at this
      exact this
    · rintro L A W K hL hC hW ⟨V, rfl, HS, HV, f3⟩ hK
      have e2 : V 2 = wv (shlN x 64) := HV 2 _ rfl (hW 2 rfl)
      have u2 : (V) 2 = wv (shlN x 64) := e2
      have HU := Lib.hid (show (V) 2 = wv (shlN x 64) from u2)
      clear u2
      rw [HFR.out]
      rw [e2]
      refine wpList_store_nb rfl rfl (.tmp 12) (.tmp 56) rfl winfo HS (f3 (hW 3 rfl)) rfl rfl ?_
      intro W' g hg HS' hn hgr
      show K _ _
      have := hK _ _ ⟨V, rfl, HS', HV.st 4 rfl, fun _ => hn _⟩
      rw [HFR.out] at this
      obtain u2 := HU.out
      rw [u2] at this
      exact this
    · rintro L A W hL ⟨V, rfl, HS, HV, f3⟩
      have e0 : V 0 = wv (x) := HV 0 _ rfl (hL 0 (by simp))
      have e1 : V 1 = wv 64 := HV 1 _ rfl (hL 1 (by simp))
      have e2 : V 2 = wv (shlN x 64) := HV 2 _ rfl (hL 2 (by simp))
      obtain ⟨g12, p12, hb12, hn12, k12⟩ := Nb.done (Nb.weak (f3 (hL 3 (by simp))) (fun _ => hL 4 (by simp)))
      rw [HFR.out]
      rw [e0, e1, e2, p12]
      clear hL HV e0 e1 e2 p12 f3
      have HS := HS.cons k12
      clear hb12 hn12 k12 HFR
      go_upto_region 12 with fail
      generalize hWW : W = wb at *
      clear hWW W
      refine wp_named fun a0 ha0 => ?_
      obtain ⟨fr, hfr⟩ : ∃ fr : (Nat → Value) → Act, ∀ V, fr V = (((((((((a0.put (some 58) (V 0)).put (some 59) (V 1)).put (some 60) (V 2)).put (some 61) (V 3)).put (some 57) (V 4)).put (some 62) (V 5)).put (some 63) (V 6)).put (some 13) (V 7)).put (some 14) (V 9)) := ⟨fun V => (((((((((a0.put (some 58) (V 0)).put (some 59) (V 1)).put (some 60) (V 2)).put (some 61) (V 3)).put (some 57) (V 4)).put (some 62) (V 5)).put (some 63) (V 6)).put (some 13) (V 7)).put (some 14) (V 9)), fun _ => rfl⟩
      rw [ha0] at hfr
      simp only [Act.put, List.setIfInBounds_toArray, List.set_cons_zero, List.set_cons_succ] at hfr
      have HFR := Lib.hid hfr
      clear hfr
      refine wp_region_inv (by kernel_rfl) (by kernel_rfl) (fun L A W => ∃ V : Nat → Value, A = fr V ∧ Ks w [(g12, shlN x 64), (w9.heap.size, x), (w6.heap.size, J), (w.heap.size, x)] W ∧ Vals (fun j => ([some (wv (shlN x 64)), some (.int .u64 (s : Nat)), some (wv s), some (.tuple #[wv (addN (shlN x 64) s), .bool (ovr (shlN x 64) s)]), some (.tuple #[wv (addN (shlN x 64) s), .bool (ovr (shlN x 64) s)]), some (wv (addN (shlN x 64) s)), some (.bool (ovr (shlN x 64) s)), none, none, some (.bool (ovr (shlN x 64) s))] : List (Option Value)).getD j none) L V ∧ (L 7 = true → Nb w [(g12, shlN x 64), (w9.heap.size, x), (w6.heap.size, J), (w.heap.size, x)] W (V 7) (L 8) (addN (shlN x 64) s))) ?_ ⟨?_, ?_, ?_, ?_, ?_, ?_, ?_, ?_, ?_, ?_, trivial⟩ ?_
      · refine ⟨fun j => a0.tmps.getD (([58, 59, 60, 61, 57, 62, 63, 13, 0, 14] : List Nat).getD j 0) undef, ?_, HS.drew, Vals.no _ _ _ (far_none _ _ rfl), fun h => absurd h (by decide)⟩
        rw [HFR.out, ha0]
        rfl
      all_goals clear ha0
      · rintro L A W K hL hC hW ⟨V, rfl, HS, HV, f7⟩ hK
        have H := Lib.hid (show ∀ W', Ext W W' → K (fr (upd V 0 (wv (shlN x 64)))) W' from fun W' he => hK _ _ ⟨upd V 0 (wv (shlN x 64)), rfl, HS.ext he, HV.up 0 _ (fun x hx => Option.some.inj hx), fun h => Nb.weak (Nb.ext (f7 (more_ne h rfl)) he) (fun h => more_ne h rfl)⟩)
        clear hK hC hW hL HV f7
        rw [HFR.out]
        refine wpList_load_wordG rfl 29 26 (.tmp 12) rfl Try.underlying29 winfo (g12) (shlN x 64) rfl (HS.at (g12) (shlN x 64) (by simp)) ?_
        show K _ _
        have := H.out _ (Ext.refl _)
        rw [HFR.out] at this
        exact this
      · rintro L A W K hL hC hW ⟨V, rfl, HS, HV, f7⟩ hK
        have H := Lib.hid (show ∀ W', Ext W W' → K (fr (upd V 1 (.int .u64 (s : Nat)))) W' from fun W' he => hK _ _ ⟨upd V 1 (.int .u64 (s : Nat)), rfl, HS.ext he, HV.up 1 _ (fun x hx => Option.some.inj hx), fun h => Nb.weak (Nb.ext (f7 (more_ne h rfl)) he) (fun h => more_ne h rfl)⟩)
        clear hK hC hW hL HV f7
        rw [HFR.out]
        go_wp2_with fail
        show K _ _
        have := H.out _ (Ext.refl _)
        rw [HFR.out] at this
        exact this
      · rintro L A W K hL hC hW ⟨V, rfl, HS, HV, f7⟩ hK
        have e1 : V 1 = .int .u64 (s : Nat) := HV 1 _ rfl (hW 1 rfl)
        have u1 : (upd V 2 (wv s)) 1 = .int .u64 (s : Nat) := e1
        have HU := Lib.hid (show (upd V 2 (wv s)) 1 = .int .u64 (s : Nat) from u1)
        clear u1
        have H := Lib.hid (show ∀ W', Ext W W' → K (fr (upd V 2 (wv s))) W' from fun W' he => hK _ _ ⟨upd V 2 (wv s), rfl, HS.ext he, HV.up 2 _ (fun x hx => Option.some.inj hx), fun h => Nb.weak (Nb.ext (f7 (more_ne h rfl)) he) (fun h => more_ne h rfl)⟩)
        clear hK hC hW hL HV f7
        rw [HFR.out]
        rw [e1]
        clear e1
        go_wp2_with fail
        refine (of_w s _ rfl _ HSS.out).mono ?_
        rintro e wx ⟨rfl, hlt, he⟩
        have := H.out _ he
        clear H
        go_wp2_with fail
        show K _ _
        rw [HFR.out] at this
        obtain u1 := HU.out
        rw [u1] at this
        exact this
      · rintro L A W K hL hC hW ⟨V, rfl, HS, HV, f7⟩ hK
        have e0 : V 0 = wv (shlN x 64) := HV 0 _ rfl (hW 0 rfl)
        have e2 : V 2 = wv s := HV 2 _ rfl (hW 2 rfl)
        have u0 : (upd V 3 (.tuple #[wv (addN (shlN x 64) s), .bool (ovr (shlN x 64) s)])) 0 = wv (shlN x 64) := e0
        have u2 : (upd V 3 (.tuple #[wv (addN (shlN x 64) s), .bool (ovr (shlN x 64) s)])) 2 = wv s := e2
        have HU := Lib.hid (show (upd V 3 (.tuple #[wv (addN (shlN x 64) s), .bool (ovr (shlN x 64) s)])) 0 = wv (shlN x 64) ∧ (upd V 3 (.tuple #[wv (addN (shlN x 64) s), .bool (ovr (shlN x 64) s)])) 2 = wv s from ⟨u0, u2⟩)
        clear u0 u2
        have H := Lib.hid (show ∀ W', Ext W W' → K (fr (upd V 3 (.tuple #[wv (addN (shlN x 64) s), .bool (ovr (shlN x 64) s)]))) W' from fun W' he => hK _ _ ⟨upd V 3 (.tuple #[wv (addN (shlN x 64) s), .bool (ovr (shlN x 64) s)]), rfl, HS.ext he, HV.up 3 _ (fun x hx => Option.some.inj hx), fun h => Nb.weak (Nb.ext (f7 (more_ne h rfl)) he) (fun h => more_ne h rfl)⟩)
        clear hK hC hW hL HV f7
        rw [HFR.out]
        rw [e0, e2]
        clear e0 e2
        go_wp2_with fail
        refine (add_w (shlN x 64) s _ (shlN_lt _ _) HSM.out).mono ?_
        rintro e wx ⟨rfl, hlt, he⟩
        have := H.out _ he
        clear H
        go_wp2_with fail
        show K _ _
        rw [HFR.out] at this
        obtain ⟨u0, u2⟩ := HU.out
        rw [u0, u2] at this
        exact this
      · rintro L A W K hL hC hW ⟨V, rfl, HS, HV, f7⟩ hK
        have e3 : V 3 = .tuple #[wv (addN (shlN x 64) s), .bool (ovr (shlN x 64) s)] := HV 3 _ rfl (hW 3 rfl)
        have u3 : (upd V 4 (.tuple #[wv (addN (shlN x 64) s), .bool (ovr (shlN x 64) s)])) 3 = .tuple #[wv (addN (shlN x 64) s), .bool (ovr (shlN x 64) s)] := e3
        have HU := Lib.hid (show (upd V 4 (.tuple #[wv (addN (shlN x 64) s), .bool (ovr (shlN x 64) s)])) 3 = .tuple #[wv (addN (shlN x 64) s), .bool (ovr (shlN x 64) s)] from u3)
        clear u3
        have H := Lib.hid (show ∀ W', Ext W W' → K (fr (upd V 4 (.tuple #[wv (addN (shlN x 64) s), .bool (ovr (shlN x 64) s)]))) W' from fun W' he => hK _ _ ⟨upd V 4 (.tuple #[wv (addN (shlN x 64) s), .bool (ovr (shlN x 64) s)]), rfl, HS.ext he, HV.up 4 _ (fun x hx => Option.some.inj hx), fun h => Nb.weak (Nb.ext (f7 (more_ne h rfl)) he) (fun h => more_ne h rfl)⟩)
        clear hK hC hW hL HV f7
        rw [HFR.out]
        rw [e3]
        clear e3
        go_wp2_with fail
        show K _ _
        have := H.out _ (Ext.refl _)
        rw [HFR.out] at this
        obtain u3 := HU.out
        rw [u3] at this
        exact this
      · rintro L A W K hL hC hW ⟨V, rfl, HS, HV, f7⟩ hK
        have e4 : V 4 = .tuple #[wv (addN (shlN x 64) s), .bool (ovr (shlN x 64) s)] := HV 4 _ rfl (hW 4 rfl)
        have u4 : (upd V 5 (wv (addN (shlN x 64) s))) 4 = .tuple #[wv (addN (shlN x 64) s), .bool (ovr (shlN x 64) s)] := e4
        have HU := Lib.hid (show (upd V 5 (wv (addN (shlN x 64) s))) 4 = .tuple #[wv (addN (shlN x 64) s), .bool (ovr (shlN x 64) s)] from u4)
        clear u4
        have H := Lib.hid (show ∀ W', Ext W W' → K (fr (upd V 5 (wv (addN (shlN x 64) s)))) W' from fun W' he => hK _ _ ⟨upd V 5 (wv (addN (shlN x 64) s)), rfl, HS.ext he, HV.up 5 _ (fun x hx => Option.some.inj hx), fun h => Nb.weak (Nb.ext (f7 (more_ne h rfl)) he) (fun h => more_ne h rfl)⟩)
        clear hK hC hW hL HV f7
        rw [HFR.out]
        rw [e4]
        clear e4
        go_wp2_with fail
        show K _ _
        have := H.out _ (Ext.refl _)
        rw [HFR.out] at this
        obtain u4 := HU.out
        rw [u4] at this
        exact this
      · rintro L A W K hL hC hW ⟨V, rfl, HS, HV, f7⟩ hK
        have e4 : V 4 = .tuple #[wv (addN (shlN x 64) s), .bool (ovr (shlN x 64) s)] := HV 4 _ rfl (hW 4 rfl)
        have u4 : (upd V 6 (.bool (ovr (shlN x 64) s))) 4 = .tuple #[wv (addN (shlN x 64) s), .bool (ovr (shlN x 64) s)] := e4
        have HU := Lib.hid (show (upd V 6 (.bool (ovr (shlN x 64) s))) 4 = .tuple #[wv (addN (shlN x 64) s), .bool (ovr (shlN x 64) s)] from u4)
        clear u4
        have H := Lib.hid (show ∀ W', Ext W W' → K (fr (upd V 6 (.bool (ovr (shlN x 64) s)))) W' from fun W' he => hK _ _ ⟨upd V 6 (.bool (ovr (shlN x 64) s)), rfl, HS.ext he, HV.up 6 _ (fun x hx => Option.some.inj hx), fun h => Nb.weak (Nb.ext (f7 (more_ne h rfl)) he) (fun h => more_ne h rfl)⟩)
        clear hK hC hW hL HV f7
        rw [HFR.out]
        rw [e4]
        clear e4
        go_wp2_with fail
        show K _ _
        have := H.out _ (Ext.refl _)
        rw [HFR.out] at this
        obtain u4 := HU.out
        rw [u4] at this
        exact this
      · rintro L A W K hL hC hW ⟨V, rfl, HS, HV, f7⟩ hK
        have H := Lib.hid (hK _ _ ⟨upd V 7 (.pointer (some ⟨W.heap.size, 0, none⟩)), rfl, HS.al _, HV.up 7 _ (fun x hx => absurd hx (by intro h; cases h)), fun _ => Nb.new HS _ (by show More L 7 8 = false; unfold More; rw [if_neg (by decide)]; exact hC.no hL 8 _ rfl rfl) _⟩)
        clear hK hC hW hL HV f7
        rw [HFR.out]
        go_wp2_with fail
        show K _ _
        have := H.out
        rw [HFR.out] at this
        exact this
      · rintro L A W K hL hC hW ⟨V, rfl, HS, HV, f7⟩ hK
        have e5 : V 5 = wv (addN (shlN x 64) s) := HV 5 _ rfl (hW 5 rfl)
        have u5 : (V) 5 = wv (addN (shlN x 64) s) := e5
        have HU := Lib.hid (show (V) 5 = wv (addN (shlN x 64) s) from u5)
        clear u5
        rw [HFR.out]
        rw [e5]
        refine wpList_store_nb rfl rfl (.tmp 13) (.tmp 62) rfl winfo HS (f7 (hW 7 rfl)) rfl rfl ?_
        intro W' g hg HS' hn hgr
        show K _ _
        have := hK _ _ ⟨V, rfl, HS', HV.st 8 rfl, fun _ => hn _⟩
        rw [HFR.out] at this
        obtain u5 := HU.out
        rw [u5] at this
        exact this
      · rintro L A W K hL hC hW ⟨V, rfl, HS, HV, f7⟩ hK
        have e6 : V 6 = .bool (ovr (shlN x 64) s) := HV 6 _ rfl (hW 6 rfl)
        have u6 : (upd V 9 (.bool (ovr (shlN x 64) s))) 6 = .bool (ovr (shlN x 64) s) := e6
        have HU := Lib.hid (show (upd V 9 (.bool (ovr (shlN x 64) s))) 6 = .bool (ovr (shlN x 64) s) from u6)
        clear u6
        have H := Lib.hid (show ∀ W', Ext W W' → K (fr (upd V 9 (.bool (ovr (shlN x 64) s)))) W' from fun W' he => hK _ _ ⟨upd V 9 (.bool (ovr (shlN x 64) s)), rfl, HS.ext he, HV.up 9 _ (fun x hx => Option.some.inj hx), fun h => Nb.weak (Nb.ext (f7 (more_ne h rfl)) he) (fun h => more_ne h rfl)⟩)
        clear hK hC hW hL HV f7
        rw [HFR.out]
        rw [e6]
        clear e6
        go_wp2_with fail
        show K _ _
        have := H.out _ (Ext.refl _)
        rw [HFR.out] at this
        obtain u6 := HU.out
        rw [u6] at this
        exact this
      · rintro L A W hL ⟨V, rfl, HS, HV, f7⟩
        have e0 : V 0 = wv (shlN x 64) := HV 0 _ rfl (hL 0 (by simp))
        have e1 : V 1 = .int .u64 (s : Nat) := HV 1 _ rfl (hL 1 (by simp))
        have e2 : V 2 = wv s := HV 2 _ rfl (hL 2 (by simp))
        have e3 : V 3 = .tuple #[wv (addN (shlN x 64) s), .bool (ovr (shlN x 64) s)] := HV 3 _ rfl (hL 3 (by simp))
        have e4 : V 4 = .tuple #[wv (addN (shlN x 64) s), .bool (ovr (shlN x 64) s)] := HV 4 _ rfl (hL 4 (by simp))
        have e5 : V 5 = wv (addN (shlN x 64) s) := HV 5 _ rfl (hL 5 (by simp))
        have e6 : V 6 = .bool (ovr (shlN x 64) s) := HV 6 _ rfl (hL 6 (by simp))
        have e9 : V 9 = .bool (ovr (shlN x 64) s) := HV 9 _ rfl (hL 9 (by simp))
        obtain ⟨g13, p13, hb13, hn13, k13⟩ := Nb.done (Nb.weak (f7 (hL 7 (by simp))) (fun _ => hL 8 (by simp)))
        rw [HFR.out]
        rw [e0, e1, e2, e3, e4, e5, e6, e9, p13]
        clear hL HV e0 e1 e2 e3 e4 e5 e6 e9 p13 f7
        have HS := HS.cons k13
        clear hb13 hn13 k13 HFR
        have e1 : (x == x) = true := beq_self_eq_true x
        have e2 : ((s : Int) == (s : Int)) = true := beq_self_eq_true _
        have e3 := HSU.out.2
        have e4 : (addN (shlN x 64) s == J) = true := by rw [HSU.out.1]; exact beq_self_eq_true _
        have HAL := Lib.hid (addN_lt (shlN x 64) s)
        rw [e3]
        clear e3
        go_wp2_with (first
          | ((with_reducible refine wpList_load_wordG ?_ 29 26 (.tmp 10) rfl Try.underlying29 winfo (w9.heap.size) (x) ?_ ?_ ?_); (exact rfl); (exact rfl); (exact HS.at (w9.heap.size) (x) (by simp)))
          | ((with_reducible refine wpList_load_wordG ?_ 29 26 (.tmp 2) rfl Try.underlying29 winfo (w.heap.size) (x) ?_ ?_ ?_); (exact rfl); (exact rfl); (exact HS.at (w.heap.size) (x) (by simp)))
          | ((with_reducible refine wpList_load_wordG ?_ 29 26 (.tmp 13) rfl Try.underlying29 winfo (g13) (addN (shlN x 64) s) ?_ ?_ ?_); (exact rfl); (exact rfl); (exact HS.at (g13) (addN (shlN x 64) s) (by simp)))
          | ((with_reducible refine wpList_load_wordG ?_ 29 26 (.tmp 9) rfl Try.underlying29 winfo (w6.heap.size) (J) ?_ ?_ ?_); (exact rfl); (exact rfl); (exact HS.at (w6.heap.size) (J) (by simp)))
          | ((with_reducible refine wpList_eql_word ?_ (.tmp 64) (.tmp 65) rfl (x) (x) (HX.out) (HX.out) ?_ ?_ ?_); (exact rfl); (exact rfl); (exact rfl); rw [e1])
          | ((with_reducible refine wpList_eql_word ?_ (.tmp 77) (.tmp 78) rfl (addN (shlN x 64) s) (J) (HAL.out) (HJL.out) ?_ ?_ ?_); (exact rfl); (exact rfl); (exact rfl); rw [e4]))
        go_ret
        exact ⟨rfl, HS.2⟩
  · have HJ : Hid (jwN x s = 0 ∧ jeN x = 2) := Lib.hid (by
      have hf : keyB x = false := by
        cases h : keyB x with
        | false => rfl
        | true => exact absurd (HXB.out.1 h) hk
      unfold jwN jeN
      rw [hf]
      exact ⟨rfl, rfl⟩)
    have hge := HHI.out hk
    rw [HJ.out.1, HJ.out.2]
    clear hk HJ HKL HKS HHI HXB
    go_upto_region 9 with (first
      | ((with_reducible refine wpList_store_word rfl rfl 29 (.tmp 9) (.tmp 39) rfl winfo (w6.heap.size) (wc 0) (0) ?_ ?_ ?_ ?_ ?_); (exact rfl); (exact rfl); (exact heap_alloc_new _ _); (exact rfl); intro w7 kz gz; have HS := HS.put gz kz; clear kz gz))
    have HS := HS.sub [(w.heap.size, x)] (by simp)
    refine wp_named fun a0 ha0 => ?_
    obtain ⟨fr, hfr⟩ : ∃ fr : (Nat → Value) → Act, ∀ V, fr V = (((((((a0.put (some 43) (V 0)).put (some 44) (V 1)).put (some 45) (V 2)).put (some 46) (V 3)).put (some 47) (V 4)).put (some 48) (V 5)).put (some 4) (V 6)) := ⟨fun V => (((((((a0.put (some 43) (V 0)).put (some 44) (V 1)).put (some 45) (V 2)).put (some 46) (V 3)).put (some 47) (V 4)).put (some 48) (V 5)).put (some 4) (V 6)), fun _ => rfl⟩
    rw [ha0] at hfr
    simp only [Act.put, List.setIfInBounds_toArray, List.set_cons_zero, List.set_cons_succ] at hfr
    have HFR := Lib.hid hfr
    clear hfr
    refine wp_region_inv (by kernel_rfl) (by kernel_rfl) (fun L A W => ∃ V : Nat → Value, A = fr V ∧ Ks w [(w.heap.size, x)] W ∧ Vals (fun j => ([some (wv (x)), some (wv 1), some (wv 192), some (wv (shlN 1 192)), some (.int .i64 (cmpN x (shlN 1 192))), some (.bool true), some (.bool true)] : List (Option Value)).getD j none) L V) ?_ ⟨?_, ?_, ?_, ?_, ?_, ?_, ?_, trivial⟩ ?_
    · refine ⟨fun j => a0.tmps.getD (([43, 44, 45, 46, 47, 48, 4] : List Nat).getD j 0) undef, ?_, HS.drew, Vals.no _ _ _ (far_none _ _ rfl)⟩
      rw [HFR.out, ha0]
      rfl
    all_goals clear ha0
    · rintro L A W K hL hC hW ⟨V, rfl, HS, HV⟩ hK
      have H := Lib.hid (show ∀ W', Ext W W' → K (fr (upd V 0 (wv (x)))) W' from fun W' he => hK _ _ ⟨upd V 0 (wv (x)), rfl, HS.ext he, HV.up 0 _ (fun x hx => Option.some.inj hx)⟩)
      clear hK hC hW hL HV 
      rw [HFR.out]
      refine wpList_load_wordG rfl 29 26 (.tmp 2) rfl Try.underlying29 winfo (w.heap.size) (x) rfl (HS.at (w.heap.size) (x) (by simp)) ?_
      show K _ _
      have := H.out _ (Ext.refl _)
      rw [HFR.out] at this
      exact this
    · rintro L A W K hL hC hW ⟨V, rfl, HS, HV⟩ hK
      have H := Lib.hid (show ∀ W', Ext W W' → K (fr (upd V 1 (wv 1))) W' from fun W' he => hK _ _ ⟨upd V 1 (wv 1), rfl, HS.ext he, HV.up 1 _ (fun x hx => Option.some.inj hx)⟩)
      clear hK hC hW hL HV 
      rw [HFR.out]
      go_wp2_with fail
      refine (of_w 1 _ rfl _ (by decide)).mono ?_
      rintro e wx ⟨rfl, hlt, he⟩
      have := H.out _ he
      clear H
      go_wp2_with fail
      show K _ _
      rw [HFR.out] at this
      exact this
    · rintro L A W K hL hC hW ⟨V, rfl, HS, HV⟩ hK
      have H := Lib.hid (show ∀ W', Ext W W' → K (fr (upd V 2 (wv 192))) W' from fun W' he => hK _ _ ⟨upd V 2 (wv 192), rfl, HS.ext he, HV.up 2 _ (fun x hx => Option.some.inj hx)⟩)
      clear hK hC hW hL HV 
      rw [HFR.out]
      go_wp2_with fail
      refine (of_w 192 _ rfl _ (by decide)).mono ?_
      rintro e wx ⟨rfl, hlt, he⟩
      have := H.out _ he
      clear H
      go_wp2_with fail
      show K _ _
      rw [HFR.out] at this
      exact this
    · rintro L A W K hL hC hW ⟨V, rfl, HS, HV⟩ hK
      have e1 : V 1 = wv 1 := HV 1 _ rfl (hW 1 rfl)
      have e2 : V 2 = wv 192 := HV 2 _ rfl (hW 2 rfl)
      have u1 : (upd V 3 (wv (shlN 1 192))) 1 = wv 1 := e1
      have u2 : (upd V 3 (wv (shlN 1 192))) 2 = wv 192 := e2
      have HU := Lib.hid (show (upd V 3 (wv (shlN 1 192))) 1 = wv 1 ∧ (upd V 3 (wv (shlN 1 192))) 2 = wv 192 from ⟨u1, u2⟩)
      clear u1 u2
      have H := Lib.hid (show ∀ W', Ext W W' → K (fr (upd V 3 (wv (shlN 1 192)))) W' from fun W' he => hK _ _ ⟨upd V 3 (wv (shlN 1 192)), rfl, HS.ext he, HV.up 3 _ (fun x hx => Option.some.inj hx)⟩)
      clear hK hC hW hL HV 
      rw [HFR.out]
      rw [e1, e2]
      clear e1 e2
      go_wp2_with fail
      refine (shl_w 1 192 _ (by decide) (by decide)).mono ?_
      rintro e wx ⟨rfl, hlt, he⟩
      have := H.out _ he
      clear H
      go_wp2_with fail
      show K _ _
      rw [HFR.out] at this
      obtain ⟨u1, u2⟩ := HU.out
      rw [u1, u2] at this
      exact this
    · rintro L A W K hL hC hW ⟨V, rfl, HS, HV⟩ hK
      have e0 : V 0 = wv (x) := HV 0 _ rfl (hW 0 rfl)
      have e3 : V 3 = wv (shlN 1 192) := HV 3 _ rfl (hW 3 rfl)
      have u0 : (upd V 4 (.int .i64 (cmpN x (shlN 1 192)))) 0 = wv (x) := e0
      have u3 : (upd V 4 (.int .i64 (cmpN x (shlN 1 192)))) 3 = wv (shlN 1 192) := e3
      have HU := Lib.hid (show (upd V 4 (.int .i64 (cmpN x (shlN 1 192)))) 0 = wv (x) ∧ (upd V 4 (.int .i64 (cmpN x (shlN 1 192)))) 3 = wv (shlN 1 192) from ⟨u0, u3⟩)
      clear u0 u3
      have H := Lib.hid (show ∀ W', Ext W W' → K (fr (upd V 4 (.int .i64 (cmpN x (shlN 1 192))))) W' from fun W' he => hK _ _ ⟨upd V 4 (.int .i64 (cmpN x (shlN 1 192))), rfl, HS.ext he, HV.up 4 _ (fun x hx => Option.some.inj hx)⟩)
      clear hK hC hW hL HV 
      rw [HFR.out]
      rw [e0, e3]
      clear e0 e3
      go_wp2_with fail
      refine (cmp_any x (shlN 1 192) _ HX.out (by decide)).mono ?_
      rintro e wx ⟨rfl, he⟩
      have := H.out _ he
      clear H
      go_wp2_with fail
      show K _ _
      rw [HFR.out] at this
      obtain ⟨u0, u3⟩ := HU.out
      rw [u0, u3] at this
      exact this
    · rintro L A W K hL hC hW ⟨V, rfl, HS, HV⟩ hK
      have e4 : V 4 = .int .i64 (cmpN x (shlN 1 192)) := HV 4 _ rfl (hW 4 rfl)
      have u4 : (upd V 5 (.bool true)) 4 = .int .i64 (cmpN x (shlN 1 192)) := e4
      have HU := Lib.hid (show (upd V 5 (.bool true)) 4 = .int .i64 (cmpN x (shlN 1 192)) from u4)
      clear u4
      have H := Lib.hid (show ∀ W', Ext W W' → K (fr (upd V 5 (.bool true))) W' from fun W' he => hK _ _ ⟨upd V 5 (.bool true), rfl, HS.ext he, HV.up 5 _ (fun x hx => Option.some.inj hx)⟩)
      clear hK hC hW hL HV 
      rw [HFR.out]
      rw [e4]
      clear e4
      go_wp2_with fail
      show K _ _
      have := H.out _ (Ext.refl _)
      rw [HFR.out] at this
      obtain u4 := HU.out
      rw [u4] at this
      exact this
    · rintro L A W K hL hC hW ⟨V, rfl, HS, HV⟩ hK
      have e5 : V 5 = .bool true := HV 5 _ rfl (hW 5 rfl)
      have u5 : (upd V 6 (.bool true)) 5 = .bool true := e5
      have HU := Lib.hid (show (upd V 6 (.bool true)) 5 = .bool true from u5)
      clear u5
      have H := Lib.hid (show ∀ W', Ext W W' → K (fr (upd V 6 (.bool true))) W' from fun W' he => hK _ _ ⟨upd V 6 (.bool true), rfl, HS.ext he, HV.up 6 _ (fun x hx => Option.some.inj hx)⟩)
      clear hK hC hW hL HV 
      rw [HFR.out]
      rw [e5]
      clear e5
      go_wp2_with fail
      show K _ _
      have := H.out _ (Ext.refl _)
      rw [HFR.out] at this
      obtain u5 := HU.out
      rw [u5] at this
      exact this
    · rintro L A W hL ⟨V, rfl, HS, HV⟩
      have e0 : V 0 = wv (x) := HV 0 _ rfl (hL 0 (by simp))
      have e1 : V 1 = wv 1 := HV 1 _ rfl (hL 1 (by simp))
      have e2 : V 2 = wv 192 := HV 2 _ rfl (hL 2 (by simp))
      have e3 : V 3 = wv (shlN 1 192) := HV 3 _ rfl (hL 3 (by simp))
      have e4 : V 4 = .int .i64 (cmpN x (shlN 1 192)) := HV 4 _ rfl (hL 4 (by simp))
      have e5 : V 5 = .bool true := HV 5 _ rfl (hL 5 (by simp))
      have e6 : V 6 = .bool true := HV 6 _ rfl (hL 6 (by simp))
      rw [HFR.out]
      rw [e0, e1, e2, e3, e4, e5, e6]
      clear hL HV e0 e1 e2 e3 e4 e5 e6
      clear HFR
      go_wp2_with fail
      go_ret
      exact ⟨rfl, HS.2⟩

set_option maxRecDepth 100000 in
theorem nonceBack_told (W : World) (args : Array Value) (h : Told Try.f8 W args) : Calls Try.prog 8 args W (RetT W) := by
  obtain ⟨H, enc, base, ds, p, hval, hA⟩ := h
  rw [Try.params8] at hA hval
  obtain ⟨v0, v1, d0, d1, p0, p1, rfl, rfl, rfl, h0, h1⟩ := trodAll_two hA
  obtain ⟨x, hx, rfl⟩ := word_came (hval 0 _ v0 rfl rfl) h0
  obtain ⟨s, rfl, hs⟩ := u64_came Try.underlying26 (hval 1 _ v1 rfl rfl) h1
  exact nonceBack_any x s W hx hs

set_option maxRecDepth 100000 in
theorem nonceBack_spec (H : Type) : ∀ ds : List (DataW H), ds.length = Try.f8.params.toList.length → Rows.nonceBackSpec.fn H ds = { results := [.lit (.bool true)], args := ds }
  | [_, _], _ => rfl
  | [], h | [_], h | _ :: _ :: _ :: _, h => by rw [Try.params8] at h; simp at h

set_option maxRecDepth 100000 in
theorem nonceBack_holds : Rows.NonceBackSaid :=
  OpenClaim.holds_of_wide 8 Try.f8 rfl rfl rfl rfl rfl rfl rfl ⟨rfl, rfl, rfl, rfl, rfl⟩ rfl rfl rfl rfl rfl (by kernel_rfl) Try.func8 (by kernel_rfl)
    (of_decide_eq_true (by kernel_rfl)) (by unfold Func.isWrapper; first | (rw [if_pos (by decide +kernel)]; kernel_rfl) | (rw [if_neg (by decide +kernel)]; exact ⟨rfl, rfl⟩))
    (fun os started H enc _ => law_lifted started (by kernel_rfl) Try.func8 rfl rfl (nonceBack_spec H) (of_decide_eq_true (by kernel_rfl))
      (ChangeSpec.witness6 (enc := enc) (C := Try.checked) false ⟨#[], #[.agg #[.int .u64 0, .int .u64 0, .int .u64 0, .int .u64 0], .int .u64 0], []⟩ 8 (by kernel_rfl) (by kernel_rfl) (by kernel_rfl) (by kernel_rfl)) nonceBack_told)
end Go.Proofs.Ytepggbhibpjkpaa
