/- AddrReach: each slot is near itself, and what follows. -/
import Derived.Test.YtdkjpoodfkkmlaaAdc
namespace Go.Proofs.Ytdkjpoodfkkmlaa
open Go.ChangeShapes Go.WideShapes Go.ChangeAt Go.RowKit

set_option maxRecDepth 100000 in
set_option maxHeartbeats 8000000 in
theorem reach_any (a b : Nat) (w : World) (ha : a < M256) (hb : b < M256) : Calls Try.prog 14 #[wv a, wv b] w (RetT w) := by
  have HS : Ks w [(w.heap.size, a), (w.heap.size + 1, b)] ((w.alloc (.cells (wc a) 46)).alloc (.cells (wc b) 46)) :=
    ⟨fun x hx => by
      simp only [List.mem_cons, List.not_mem_nil, or_false] at hx
      rcases hx with rfl | rfl
      · exact (Cs.new _ _ _ _ rfl).alloc _
      · exact Cs.new _ _ _ _ (by simp), ((Ext.refl w).alloc _).alloc _⟩
  have hnn : nearB a a = true := by unfold nearB; simp
  have HN0 := Lib.hid (fun W => near_any a a W ha ha)
  rw [hnn] at HN0
  have HN1 := Lib.hid (fun W => near_any a b W ha hb)
  have HN2 := Lib.hid (fun W => near_any b a W hb ha)
  have HSUB := Lib.hid (fun W => sub_any a b W ha hb)
  have HOF := Lib.hid (fun W => of_any 128 128 rfl W (by decide))
  have hdl : (a + M256 - b) % M256 < M256 := Nat.mod_lt _ (by decide)
  have HCD := Lib.hid (fun W => cmp_any ((a + M256 - b) % M256) 128 W hdl (by decide))
  have HCM := Lib.hid (fun W => cmp_any a b W ha hb)
  have hnb : nearB a b = (!und a b && decide ((a + M256 - b) % M256 < 128)) := near_sub a b ha hb
  have hbk : nearB b a = true → nearB a b = true → a = b := by unfold nearB; simp; omega
  have hlt : nearB a b = true → decide (cmpN a b < 0) = false := by unfold nearB; rw [cmp_lt]; simp; omega
  have hne : a = b → (a != b) = false := fun e => by simp [e]
  have HA := Lib.hid ha
  have HB := Lib.hid hb
  generalize (a + M256 - b) % M256 = d at *
  generalize nearB a b = nr at *
  generalize nearB b a = bk at *
  have HNB := Lib.hid (And.intro hnb (And.intro hbk (And.intro hlt hne)))
  clear ha hb hnb hbk hlt hne hnn
  unfold wv
  go_enter Try.func14, Try.ntmps14
  go_wp2_with fail
  refine (adrWakes_any _).mono ?_
  rintro e w1 ⟨rfl, he⟩
  have HS := HS.ext he
  clear he
  go_wp2_with (first
    | ((with_reducible refine wpList_load_wordG ?_ 46 44 (.tmp 2) rfl Try.underlying46 winfo (w.heap.size) (a) ?_ ?_ ?_); (exact rfl); (exact rfl); (exact HS.at (w.heap.size) (a) (by simp))))
  refine (HN0.out _).mono ?_
  rintro e w2 ⟨rfl, he⟩
  have HS := HS.ext he
  clear he HN0
  go_upto_region 5 with fail
  refine wp_named fun a0 ha0 => ?_
  obtain ⟨fr, hfr⟩ : ∃ fr : (Nat → Value) → Act, ∀ V, fr V = ((((((((a0.put (some 15) (V 0)).put (some 16) (V 1)).put (some 17) (V 2)).put (some 18) (V 3)).put (some 19) (V 4)).put (some 20) (V 5)).put (some 5) (V 6)).put (some 6) (V 7)) := ⟨fun V => ((((((((a0.put (some 15) (V 0)).put (some 16) (V 1)).put (some 17) (V 2)).put (some 18) (V 3)).put (some 19) (V 4)).put (some 20) (V 5)).put (some 5) (V 6)).put (some 6) (V 7)), fun _ => rfl⟩
  rw [ha0] at hfr
  simp only [Act.put, List.setIfInBounds_toArray, List.set_cons_zero, List.set_cons_succ] at hfr
  have HFR := Lib.hid hfr
  clear hfr
  refine wp_region_inv (by kernel_rfl) (by kernel_rfl) (fun L A W => ∃ V : Nat → Value, A = fr V ∧ Vals (fun j => ([some (wv a), some (wv b), some (.bool nr), some (wv b), some (wv a), some (.bool bk), some (.bool nr), some (.bool bk)] : List (Option Value)).getD j none) L V ∧ Ks w [(w.heap.size, a), (w.heap.size + 1, b)] W) ?_ ⟨?_, ?_, ?_, ?_, ?_, ?_, ?_, ?_, trivial⟩ ?_
  · refine ⟨fun j => a0.tmps.getD (([15, 16, 17, 18, 19, 20, 5, 6] : List Nat).getD j 0) undef, ?_, Vals.no _ _ _ (far_none _ _ rfl), HS.drew⟩
    rw [HFR.out, ha0]
    rfl
  all_goals clear ha0
  · rintro L A W K hL hC hW ⟨V, rfl, HV, hB⟩ hK
    have H := Lib.hid (show ∀ W', Ext W W' → K (fr (upd V 0 (wv a))) W' from fun W' he => hK _ W' ⟨upd V 0 (wv a), rfl, HV.up 0 _ (fun x hx => Option.some.inj hx), Ks.ext hB he⟩)
    clear hK hC hW hL HV
    rw [HFR.out]
    have HLn := Lib.hid (hB.at (w.heap.size) (a) (by simp))
    clear hB
    go_wp2_with ((with_reducible refine wpList_load_wordG ?_ 46 44 (.tmp 2) rfl Try.underlying46 winfo (w.heap.size) (a) ?_ ?_ ?_); (exact rfl); (exact rfl); (exact HLn.out))
    show K _ _
    have := H.out _ (Ext.refl _)
    rw [HFR.out] at this
    exact this
  · rintro L A W K hL hC hW ⟨V, rfl, HV, hB⟩ hK
    have H := Lib.hid (show ∀ W', Ext W W' → K (fr (upd V 1 (wv b))) W' from fun W' he => hK _ W' ⟨upd V 1 (wv b), rfl, HV.up 1 _ (fun x hx => Option.some.inj hx), Ks.ext hB he⟩)
    clear hK hC hW hL HV
    rw [HFR.out]
    have HLn := Lib.hid (hB.at (w.heap.size + 1) (b) (by simp))
    clear hB
    go_wp2_with ((with_reducible refine wpList_load_wordG ?_ 46 44 (.tmp 3) rfl Try.underlying46 winfo (w.heap.size + 1) (b) ?_ ?_ ?_); (exact rfl); (exact rfl); (exact HLn.out))
    show K _ _
    have := H.out _ (Ext.refl _)
    rw [HFR.out] at this
    exact this
  · rintro L A W K hL hC hW ⟨V, rfl, HV, hB⟩ hK
    have e0 : V 0 = wv a := HV 0 _ rfl (hW 0 rfl)
    have e1 : V 1 = wv b := HV 1 _ rfl (hW 1 rfl)
    have H := Lib.hid (show ∀ W', Ext W W' → K (fr (upd V 2 (.bool nr))) W' from fun W' he => hK _ W' ⟨upd V 2 (.bool nr), rfl, HV.up 2 _ (fun x hx => Option.some.inj hx), Ks.ext hB he⟩)
    clear hK hC hW hL HV
    have u0 : (upd V 2 (.bool nr)) 0 = wv a := e0
    have u1 : (upd V 2 (.bool nr)) 1 = wv b := e1
    have HU := Lib.hid (show (upd V 2 (.bool nr)) 0 = wv a ∧ (upd V 2 (.bool nr)) 1 = wv b from ⟨u0, u1⟩)
    clear u0 u1
    rw [HFR.out]
    rw [e0, e1]
    clear e0 e1
    go_wp2_with fail
    refine (HN1.out _).mono ?_
    rintro e wx ⟨rfl, he⟩
    go_wp2_with fail
    show K _ _
    have := H.out _ he
    rw [HFR.out] at this
    obtain ⟨u0, u1⟩ := HU.out
    rw [u0, u1] at this
    exact this
  · rintro L A W K hL hC hW ⟨V, rfl, HV, hB⟩ hK
    have H := Lib.hid (show ∀ W', Ext W W' → K (fr (upd V 3 (wv b))) W' from fun W' he => hK _ W' ⟨upd V 3 (wv b), rfl, HV.up 3 _ (fun x hx => Option.some.inj hx), Ks.ext hB he⟩)
    clear hK hC hW hL HV
    rw [HFR.out]
    have HLn := Lib.hid (hB.at (w.heap.size + 1) (b) (by simp))
    clear hB
    go_wp2_with ((with_reducible refine wpList_load_wordG ?_ 46 44 (.tmp 3) rfl Try.underlying46 winfo (w.heap.size + 1) (b) ?_ ?_ ?_); (exact rfl); (exact rfl); (exact HLn.out))
    show K _ _
    have := H.out _ (Ext.refl _)
    rw [HFR.out] at this
    exact this
  · rintro L A W K hL hC hW ⟨V, rfl, HV, hB⟩ hK
    have H := Lib.hid (show ∀ W', Ext W W' → K (fr (upd V 4 (wv a))) W' from fun W' he => hK _ W' ⟨upd V 4 (wv a), rfl, HV.up 4 _ (fun x hx => Option.some.inj hx), Ks.ext hB he⟩)
    clear hK hC hW hL HV
    rw [HFR.out]
    have HLn := Lib.hid (hB.at (w.heap.size) (a) (by simp))
    clear hB
    go_wp2_with ((with_reducible refine wpList_load_wordG ?_ 46 44 (.tmp 2) rfl Try.underlying46 winfo (w.heap.size) (a) ?_ ?_ ?_); (exact rfl); (exact rfl); (exact HLn.out))
    show K _ _
    have := H.out _ (Ext.refl _)
    rw [HFR.out] at this
    exact this
  · rintro L A W K hL hC hW ⟨V, rfl, HV, hB⟩ hK
    have e3 : V 3 = wv b := HV 3 _ rfl (hW 3 rfl)
    have e4 : V 4 = wv a := HV 4 _ rfl (hW 4 rfl)
    have H := Lib.hid (show ∀ W', Ext W W' → K (fr (upd V 5 (.bool bk))) W' from fun W' he => hK _ W' ⟨upd V 5 (.bool bk), rfl, HV.up 5 _ (fun x hx => Option.some.inj hx), Ks.ext hB he⟩)
    clear hK hC hW hL HV
    have u3 : (upd V 5 (.bool bk)) 3 = wv b := e3
    have u4 : (upd V 5 (.bool bk)) 4 = wv a := e4
    have HU := Lib.hid (show (upd V 5 (.bool bk)) 3 = wv b ∧ (upd V 5 (.bool bk)) 4 = wv a from ⟨u3, u4⟩)
    clear u3 u4
    rw [HFR.out]
    rw [e3, e4]
    clear e3 e4
    go_wp2_with fail
    refine (HN2.out _).mono ?_
    rintro e wx ⟨rfl, he⟩
    go_wp2_with fail
    show K _ _
    have := H.out _ he
    rw [HFR.out] at this
    obtain ⟨u3, u4⟩ := HU.out
    rw [u3, u4] at this
    exact this
  · rintro L A W K hL hC hW ⟨V, rfl, HV, hB⟩ hK
    have e2 : V 2 = .bool nr := HV 2 _ rfl (hW 2 rfl)
    have H := Lib.hid (show ∀ W', Ext W W' → K (fr (upd V 6 (.bool nr))) W' from fun W' he => hK _ W' ⟨upd V 6 (.bool nr), rfl, HV.up 6 _ (fun x hx => Option.some.inj hx), Ks.ext hB he⟩)
    clear hK hC hW hL HV
    have u2 : (upd V 6 (.bool nr)) 2 = .bool nr := e2
    have HU := Lib.hid (show (upd V 6 (.bool nr)) 2 = .bool nr from u2)
    clear u2
    rw [HFR.out]
    rw [e2]
    clear e2
    clear hB
    go_wp2_with fail
    show K _ _
    have := H.out _ (Ext.refl _)
    rw [HFR.out] at this
    obtain u2 := HU.out
    rw [u2] at this
    exact this
  · rintro L A W K hL hC hW ⟨V, rfl, HV, hB⟩ hK
    have e5 : V 5 = .bool bk := HV 5 _ rfl (hW 5 rfl)
    have H := Lib.hid (show ∀ W', Ext W W' → K (fr (upd V 7 (.bool bk))) W' from fun W' he => hK _ W' ⟨upd V 7 (.bool bk), rfl, HV.up 7 _ (fun x hx => Option.some.inj hx), Ks.ext hB he⟩)
    clear hK hC hW hL HV
    have u5 : (upd V 7 (.bool bk)) 5 = .bool bk := e5
    have HU := Lib.hid (show (upd V 7 (.bool bk)) 5 = .bool bk from u5)
    clear u5
    rw [HFR.out]
    rw [e5]
    clear e5
    clear hB
    go_wp2_with fail
    show K _ _
    have := H.out _ (Ext.refl _)
    rw [HFR.out] at this
    obtain u5 := HU.out
    rw [u5] at this
    exact this
  · rintro L A W hL ⟨V, rfl, HV, hB⟩
    have e0 : V 0 = wv a := HV 0 _ rfl (hL 0 (by simp))
    have e1 : V 1 = wv b := HV 1 _ rfl (hL 1 (by simp))
    have e2 : V 2 = .bool nr := HV 2 _ rfl (hL 2 (by simp))
    have e3 : V 3 = wv b := HV 3 _ rfl (hL 3 (by simp))
    have e4 : V 4 = wv a := HV 4 _ rfl (hL 4 (by simp))
    have e5 : V 5 = .bool bk := HV 5 _ rfl (hL 5 (by simp))
    have e6 : V 6 = .bool nr := HV 6 _ rfl (hL 6 (by simp))
    have e7 : V 7 = .bool bk := HV 7 _ rfl (hL 7 (by simp))
    rw [HFR.out]
    rw [e0, e1, e2, e3, e4, e5, e6, e7]
    clear hL HV HFR e0 e1 e2 e3 e4 e5 e6 e7
    have HS := hB
    clear hB HN1 HN2
    cases hu : und a b with
    | true =>
      obtain rfl : nr = false := by rw [HNB.out.1, hu]; rfl
      go_wp2_with (first
        | ((with_reducible refine wpList_load_wordG ?_ 46 44 (.tmp 2) rfl Try.underlying46 winfo (w.heap.size) (a) ?_ ?_ ?_); (exact rfl); (exact rfl); (exact HS.at (w.heap.size) (a) (by simp)))
        | ((with_reducible refine wpList_load_wordG ?_ 46 44 (.tmp 3) rfl Try.underlying46 winfo (w.heap.size + 1) (b) ?_ ?_ ?_); (exact rfl); (exact rfl); (exact HS.at (w.heap.size + 1) (b) (by simp))))
      refine (HSUB.out _).mono ?_
      rintro e w5 ⟨rfl, he⟩
      have HS := HS.ext he
      clear he
      go_upto_region 9 with (first
              | ((with_reducible refine wpList_store_word rfl rfl 46 (.tmp 7) (.tmp 43) rfl winfo (w5.heap.size) (wc 0) (d) ?_ ?_ ?_ ?_ ?_); (exact rfl); (exact rfl); (exact heap_alloc_new _ _); (exact rfl); intro w6 kz gz; have HS := HS.put gz kz; clear kz gz))
      have HK : Ks w [(w5.heap.size, d)] w6 := ⟨fun x hx => HS.1 x (by simp only [List.mem_cons, List.not_mem_nil, or_false] at hx; subst hx; exact List.mem_cons_self), HS.2⟩
      generalize w5.heap.size = g7 at *
      clear HS
      refine wp_named fun a0 ha0 => ?_
      obtain ⟨fr, hfr⟩ : ∃ fr : (Nat → Value) → Act, ∀ V, fr V = (((((((((((a0.put (some 45) (V 0)).put (some 46) (V 1)).put (some 47) (V 2)).put (some 48) (V 3)).put (some 49) (V 4)).put (some 50) (V 5)).put (some 51) (V 6)).put (some 52) (V 7)).put (some 53) (V 8)).put (some 54) (V 9)).put (some 4) (V 10)) := ⟨fun V => (((((((((((a0.put (some 45) (V 0)).put (some 46) (V 1)).put (some 47) (V 2)).put (some 48) (V 3)).put (some 49) (V 4)).put (some 50) (V 5)).put (some 51) (V 6)).put (some 52) (V 7)).put (some 53) (V 8)).put (some 54) (V 9)).put (some 4) (V 10)), fun _ => rfl⟩
      rw [ha0] at hfr
      simp only [Act.put, List.setIfInBounds_toArray, List.set_cons_zero, List.set_cons_succ] at hfr
      have HFR := Lib.hid hfr
      clear hfr
      refine wp_region_inv (by kernel_rfl) (by kernel_rfl) (fun L A W => ∃ V : Nat → Value, A = fr V ∧ Vals (fun j => ([some (.bool false), some (.bool true), some (.bool false), some (.bool false), some (undef), some (undef), some (undef), some (undef), some (.bool false), some (.bool true), some (.bool true)] : List (Option Value)).getD j none) L V ∧ Ks w [(g7, d)] W) ?_ ⟨?_, ?_, ?_, ?_, ?_, ?_, ?_, ?_, ?_, ?_, ?_, trivial⟩ ?_
      · refine ⟨fun j => a0.tmps.getD (([45, 46, 47, 48, 49, 50, 51, 52, 53, 54, 4] : List Nat).getD j 0) undef, ?_, Vals.no _ _ _ (far_none _ _ rfl), HK.drew⟩
        rw [HFR.out, ha0]
        rfl
      all_goals clear ha0
      · rintro L A W K hL hC hW ⟨V, rfl, HV, hB⟩ hK
        have H := Lib.hid (show ∀ W', Ext W W' → K (fr (upd V 0 (.bool false))) W' from fun W' he => hK _ W' ⟨upd V 0 (.bool false), rfl, HV.up 0 _ (fun x hx => Option.some.inj hx), Ks.ext hB he⟩)
        clear hK hC hW hL HV
        rw [HFR.out]
        clear hB
        go_wp2_with fail
        show K _ _
        have := H.out _ (Ext.refl _)
        rw [HFR.out] at this
        exact this
      · rintro L A W K hL hC hW ⟨V, rfl, HV, hB⟩ hK
        have H := Lib.hid (show ∀ W', Ext W W' → K (fr (upd V 1 (.bool true))) W' from fun W' he => hK _ W' ⟨upd V 1 (.bool true), rfl, HV.up 1 _ (fun x hx => Option.some.inj hx), Ks.ext hB he⟩)
        clear hK hC hW hL HV
        rw [HFR.out]
        clear hB
        go_wp2_with fail
        show K _ _
        have := H.out _ (Ext.refl _)
        rw [HFR.out] at this
        exact this
      · rintro L A W K hL hC hW ⟨V, rfl, HV, hB⟩ hK
        have e1 : V 1 = .bool true := HV 1 _ rfl (hW 1 rfl)
        have H := Lib.hid (show ∀ W', Ext W W' → K (fr (upd V 2 (.bool false))) W' from fun W' he => hK _ W' ⟨upd V 2 (.bool false), rfl, HV.up 2 _ (fun x hx => Option.some.inj hx), Ks.ext hB he⟩)
        clear hK hC hW hL HV
        have u1 : (upd V 2 (.bool false)) 1 = .bool true := e1
        have HU := Lib.hid (show (upd V 2 (.bool false)) 1 = .bool true from u1)
        clear u1
        rw [HFR.out]
        rw [e1]
        clear e1
        clear hB
        go_wp2_with fail
        show K _ _
        have := H.out _ (Ext.refl _)
        rw [HFR.out] at this
        obtain u1 := HU.out
        rw [u1] at this
        exact this
      · rintro L A W K hL hC hW ⟨V, rfl, HV, hB⟩ hK
        have e2 : V 2 = .bool false := HV 2 _ rfl (hW 2 rfl)
        have H := Lib.hid (show ∀ W', Ext W W' → K (fr (upd V 3 (.bool false))) W' from fun W' he => hK _ W' ⟨upd V 3 (.bool false), rfl, HV.up 3 _ (fun x hx => Option.some.inj hx), Ks.ext hB he⟩)
        clear hK hC hW hL HV
        have u2 : (upd V 3 (.bool false)) 2 = .bool false := e2
        have HU := Lib.hid (show (upd V 3 (.bool false)) 2 = .bool false from u2)
        clear u2
        rw [HFR.out]
        rw [e2]
        clear e2
        clear hB
        go_wp2_with fail
        show K _ _
        have := H.out _ (Ext.refl _)
        rw [HFR.out] at this
        obtain u2 := HU.out
        rw [u2] at this
        exact this
      · rintro L A W K hL hC hW ⟨V, rfl, HV, hB⟩ hK
        have e3 : V 3 = .bool false := HV 3 _ rfl (hW 3 rfl)
        have H := Lib.hid (show ∀ W', Ext W W' → K (fr (upd V 4 (undef))) W' from fun W' he => hK _ W' ⟨upd V 4 (undef), rfl, HV.up 4 _ (fun x hx => Option.some.inj hx), Ks.ext hB he⟩)
        clear hK hC hW hL HV
        have u3 : (upd V 4 (undef)) 3 = .bool false := e3
        have HU := Lib.hid (show (upd V 4 (undef)) 3 = .bool false from u3)
        clear u3
        rw [HFR.out]
        rw [e3]
        clear e3
        clear hB
        go_wp2_with fail
        show K _ _
        have := H.out _ (Ext.refl _)
        rw [HFR.out] at this
        obtain u3 := HU.out
        rw [u3] at this
        exact this
      · rintro L A W K hL hC hW ⟨V, rfl, HV, hB⟩ hK
        have e3 : V 3 = .bool false := HV 3 _ rfl (hW 3 rfl)
        have H := Lib.hid (show ∀ W', Ext W W' → K (fr (upd V 5 (undef))) W' from fun W' he => hK _ W' ⟨upd V 5 (undef), rfl, HV.up 5 _ (fun x hx => Option.some.inj hx), Ks.ext hB he⟩)
        clear hK hC hW hL HV
        have u3 : (upd V 5 (undef)) 3 = .bool false := e3
        have HU := Lib.hid (show (upd V 5 (undef)) 3 = .bool false from u3)
        clear u3
        rw [HFR.out]
        rw [e3]
        clear e3
        clear hB
        go_wp2_with fail
        show K _ _
        have := H.out _ (Ext.refl _)
        rw [HFR.out] at this
        obtain u3 := HU.out
        rw [u3] at this
        exact this
      · rintro L A W K hL hC hW ⟨V, rfl, HV, hB⟩ hK
        have e3 : V 3 = .bool false := HV 3 _ rfl (hW 3 rfl)
        have e4 : V 4 = undef := HV 4 _ rfl (hW 4 rfl)
        have e5 : V 5 = undef := HV 5 _ rfl (hW 5 rfl)
        have H := Lib.hid (show ∀ W', Ext W W' → K (fr (upd V 6 (undef))) W' from fun W' he => hK _ W' ⟨upd V 6 (undef), rfl, HV.up 6 _ (fun x hx => Option.some.inj hx), Ks.ext hB he⟩)
        clear hK hC hW hL HV
        have u3 : (upd V 6 (undef)) 3 = .bool false := e3
        have u4 : (upd V 6 (undef)) 4 = undef := e4
        have u5 : (upd V 6 (undef)) 5 = undef := e5
        have HU := Lib.hid (show (upd V 6 (undef)) 3 = .bool false ∧ (upd V 6 (undef)) 4 = undef ∧ (upd V 6 (undef)) 5 = undef from ⟨u3, u4, u5⟩)
        clear u3 u4 u5
        rw [HFR.out]
        rw [e3, e4, e5]
        clear e3 e4 e5
        clear hB
        go_wp2_with fail
        show K _ _
        have := H.out _ (Ext.refl _)
        rw [HFR.out] at this
        obtain ⟨u3, u4, u5⟩ := HU.out
        rw [u3, u4, u5] at this
        exact this
      · rintro L A W K hL hC hW ⟨V, rfl, HV, hB⟩ hK
        have e3 : V 3 = .bool false := HV 3 _ rfl (hW 3 rfl)
        have e6 : V 6 = undef := HV 6 _ rfl (hW 6 rfl)
        have H := Lib.hid (show ∀ W', Ext W W' → K (fr (upd V 7 (undef))) W' from fun W' he => hK _ W' ⟨upd V 7 (undef), rfl, HV.up 7 _ (fun x hx => Option.some.inj hx), Ks.ext hB he⟩)
        clear hK hC hW hL HV
        have u3 : (upd V 7 (undef)) 3 = .bool false := e3
        have u6 : (upd V 7 (undef)) 6 = undef := e6
        have HU := Lib.hid (show (upd V 7 (undef)) 3 = .bool false ∧ (upd V 7 (undef)) 6 = undef from ⟨u3, u6⟩)
        clear u3 u6
        rw [HFR.out]
        rw [e3, e6]
        clear e3 e6
        clear hB
        go_wp2_with fail
        show K _ _
        have := H.out _ (Ext.refl _)
        rw [HFR.out] at this
        obtain ⟨u3, u6⟩ := HU.out
        rw [u3, u6] at this
        exact this
      · rintro L A W K hL hC hW ⟨V, rfl, HV, hB⟩ hK
        have e3 : V 3 = .bool false := HV 3 _ rfl (hW 3 rfl)
        have e7 : V 7 = undef := HV 7 _ rfl (hW 7 rfl)
        have H := Lib.hid (show ∀ W', Ext W W' → K (fr (upd V 8 (.bool false))) W' from fun W' he => hK _ W' ⟨upd V 8 (.bool false), rfl, HV.up 8 _ (fun x hx => Option.some.inj hx), Ks.ext hB he⟩)
        clear hK hC hW hL HV
        have u3 : (upd V 8 (.bool false)) 3 = .bool false := e3
        have u7 : (upd V 8 (.bool false)) 7 = undef := e7
        have HU := Lib.hid (show (upd V 8 (.bool false)) 3 = .bool false ∧ (upd V 8 (.bool false)) 7 = undef from ⟨u3, u7⟩)
        clear u3 u7
        rw [HFR.out]
        rw [e3, e7]
        clear e3 e7
        clear hB
        go_wp2_with fail
        show K _ _
        have := H.out _ (Ext.refl _)
        rw [HFR.out] at this
        obtain ⟨u3, u7⟩ := HU.out
        rw [u3, u7] at this
        exact this
      · rintro L A W K hL hC hW ⟨V, rfl, HV, hB⟩ hK
        have e0 : V 0 = .bool false := HV 0 _ rfl (hW 0 rfl)
        have e8 : V 8 = .bool false := HV 8 _ rfl (hW 8 rfl)
        have H := Lib.hid (show ∀ W', Ext W W' → K (fr (upd V 9 (.bool true))) W' from fun W' he => hK _ W' ⟨upd V 9 (.bool true), rfl, HV.up 9 _ (fun x hx => Option.some.inj hx), Ks.ext hB he⟩)
        clear hK hC hW hL HV
        have u0 : (upd V 9 (.bool true)) 0 = .bool false := e0
        have u8 : (upd V 9 (.bool true)) 8 = .bool false := e8
        have HU := Lib.hid (show (upd V 9 (.bool true)) 0 = .bool false ∧ (upd V 9 (.bool true)) 8 = .bool false from ⟨u0, u8⟩)
        clear u0 u8
        rw [HFR.out]
        rw [e0, e8]
        clear e0 e8
        clear hB
        go_wp2_with fail
        show K _ _
        have := H.out _ (Ext.refl _)
        rw [HFR.out] at this
        obtain ⟨u0, u8⟩ := HU.out
        rw [u0, u8] at this
        exact this
      · rintro L A W K hL hC hW ⟨V, rfl, HV, hB⟩ hK
        have e9 : V 9 = .bool true := HV 9 _ rfl (hW 9 rfl)
        have H := Lib.hid (show ∀ W', Ext W W' → K (fr (upd V 10 (.bool true))) W' from fun W' he => hK _ W' ⟨upd V 10 (.bool true), rfl, HV.up 10 _ (fun x hx => Option.some.inj hx), Ks.ext hB he⟩)
        clear hK hC hW hL HV
        have u9 : (upd V 10 (.bool true)) 9 = .bool true := e9
        have HU := Lib.hid (show (upd V 10 (.bool true)) 9 = .bool true from u9)
        clear u9
        rw [HFR.out]
        rw [e9]
        clear e9
        clear hB
        go_wp2_with fail
        show K _ _
        have := H.out _ (Ext.refl _)
        rw [HFR.out] at this
        obtain u9 := HU.out
        rw [u9] at this
        exact this
      · rintro L A W hL ⟨V, rfl, HV, hB⟩
        have e0 : V 0 = .bool false := HV 0 _ rfl (hL 0 (by simp))
        have e1 : V 1 = .bool true := HV 1 _ rfl (hL 1 (by simp))
        have e2 : V 2 = .bool false := HV 2 _ rfl (hL 2 (by simp))
        have e3 : V 3 = .bool false := HV 3 _ rfl (hL 3 (by simp))
        have e4 : V 4 = undef := HV 4 _ rfl (hL 4 (by simp))
        have e5 : V 5 = undef := HV 5 _ rfl (hL 5 (by simp))
        have e6 : V 6 = undef := HV 6 _ rfl (hL 6 (by simp))
        have e7 : V 7 = undef := HV 7 _ rfl (hL 7 (by simp))
        have e8 : V 8 = .bool false := HV 8 _ rfl (hL 8 (by simp))
        have e9 : V 9 = .bool true := HV 9 _ rfl (hL 9 (by simp))
        have e10 : V 10 = .bool true := HV 10 _ rfl (hL 10 (by simp))
        rw [HFR.out]
        rw [e0, e1, e2, e3, e4, e5, e6, e7, e8, e9, e10]
        clear hL HV HFR e0 e1 e2 e3 e4 e5 e6 e7 e8 e9 e10
        go_wp2_with fail
        go_ret
        exact ⟨rfl, hB.2⟩
    | false =>
      by_cases hd : d < 128
      · obtain rfl : nr = true := by rw [HNB.out.1, hu, decide_eq_true hd]; rfl
        have hq : decide (cmpN d 128 < 0) = true := by rw [cmp_lt]; simp [hd]
        have hc := HNB.out.2.2.1 rfl
        go_wp2_with (first
          | ((with_reducible refine wpList_load_wordG ?_ 46 44 (.tmp 2) rfl Try.underlying46 winfo (w.heap.size) (a) ?_ ?_ ?_); (exact rfl); (exact rfl); (exact HS.at (w.heap.size) (a) (by simp)))
          | ((with_reducible refine wpList_load_wordG ?_ 46 44 (.tmp 3) rfl Try.underlying46 winfo (w.heap.size + 1) (b) ?_ ?_ ?_); (exact rfl); (exact rfl); (exact HS.at (w.heap.size + 1) (b) (by simp))))
        refine (HCM.out _).mono ?_
        rintro e w4 ⟨rfl, he⟩
        have HS := HS.ext he
        clear he
        cases bk with
        | true =>
          have hab := HNB.out.2.2.2 (HNB.out.2.1 (by first | rfl | trivial) (by first | rfl | trivial))
          go_wp2_with (first
            | ((with_reducible refine wpList_load_wordG ?_ 46 44 (.tmp 2) rfl Try.underlying46 winfo (w.heap.size) (a) ?_ ?_ ?_); (exact rfl); (exact rfl); (exact HS.at (w.heap.size) (a) (by simp)))
            | ((with_reducible refine wpList_load_wordG ?_ 46 44 (.tmp 3) rfl Try.underlying46 winfo (w.heap.size + 1) (b) ?_ ?_ ?_); (exact rfl); (exact rfl); (exact HS.at (w.heap.size + 1) (b) (by simp)))
            | ((with_reducible refine wpList_neq_word ?_ (.tmp 34) (.tmp 35) rfl (a) (b) (HA.out) (HB.out) ?_ ?_ ?_); (exact rfl); (exact rfl); (exact rfl); rw [hab]))
          refine (HSUB.out _).mono ?_
          rintro e w5 ⟨rfl, he⟩
          have HS := HS.ext he
          clear he
          go_upto_region 9 with (first
                      | ((with_reducible refine wpList_store_word rfl rfl 46 (.tmp 7) (.tmp 43) rfl winfo (w5.heap.size) (wc 0) (d) ?_ ?_ ?_ ?_ ?_); (exact rfl); (exact rfl); (exact heap_alloc_new _ _); (exact rfl); intro w6 kz gz; have HS := HS.put gz kz; clear kz gz))
          have HK : Ks w [(w5.heap.size, d)] w6 := ⟨fun x hx => HS.1 x (by simp only [List.mem_cons, List.not_mem_nil, or_false] at hx; subst hx; exact List.mem_cons_self), HS.2⟩
          generalize w5.heap.size = g7 at *
          clear HS
          refine wp_named fun a0 ha0 => ?_
          obtain ⟨fr, hfr⟩ : ∃ fr : (Nat → Value) → Act, ∀ V, fr V = (((((((((((a0.put (some 45) (V 0)).put (some 46) (V 1)).put (some 47) (V 2)).put (some 48) (V 3)).put (some 49) (V 4)).put (some 50) (V 5)).put (some 51) (V 6)).put (some 52) (V 7)).put (some 53) (V 8)).put (some 54) (V 9)).put (some 4) (V 10)) := ⟨fun V => (((((((((((a0.put (some 45) (V 0)).put (some 46) (V 1)).put (some 47) (V 2)).put (some 48) (V 3)).put (some 49) (V 4)).put (some 50) (V 5)).put (some 51) (V 6)).put (some 52) (V 7)).put (some 53) (V 8)).put (some 54) (V 9)).put (some 4) (V 10)), fun _ => rfl⟩
          rw [ha0] at hfr
          simp only [Act.put, List.setIfInBounds_toArray, List.set_cons_zero, List.set_cons_succ] at hfr
          have HFR := Lib.hid hfr
          clear hfr
          refine wp_region_inv (by kernel_rfl) (by kernel_rfl) (fun L A W => ∃ V : Nat → Value, A = fr V ∧ Vals (fun j => ([some (.bool true), some (.bool false), some (.bool true), some (.bool true), some (wv d), some (wv 128), some (.int .i64 (cmpN d 128)), some (.bool true), some (.bool true), some (.bool true), some (.bool true)] : List (Option Value)).getD j none) L V ∧ Ks w [(g7, d)] W) ?_ ⟨?_, ?_, ?_, ?_, ?_, ?_, ?_, ?_, ?_, ?_, ?_, trivial⟩ ?_
          · refine ⟨fun j => a0.tmps.getD (([45, 46, 47, 48, 49, 50, 51, 52, 53, 54, 4] : List Nat).getD j 0) undef, ?_, Vals.no _ _ _ (far_none _ _ rfl), HK.drew⟩
            rw [HFR.out, ha0]
            rfl
          all_goals clear ha0
          · rintro L A W K hL hC hW ⟨V, rfl, HV, hB⟩ hK
            have H := Lib.hid (show ∀ W', Ext W W' → K (fr (upd V 0 (.bool true))) W' from fun W' he => hK _ W' ⟨upd V 0 (.bool true), rfl, HV.up 0 _ (fun x hx => Option.some.inj hx), Ks.ext hB he⟩)
            clear hK hC hW hL HV
            rw [HFR.out]
            clear hB
            go_wp2_with fail
            show K _ _
            have := H.out _ (Ext.refl _)
            rw [HFR.out] at this
            exact this
          · rintro L A W K hL hC hW ⟨V, rfl, HV, hB⟩ hK
            have H := Lib.hid (show ∀ W', Ext W W' → K (fr (upd V 1 (.bool false))) W' from fun W' he => hK _ W' ⟨upd V 1 (.bool false), rfl, HV.up 1 _ (fun x hx => Option.some.inj hx), Ks.ext hB he⟩)
            clear hK hC hW hL HV
            rw [HFR.out]
            clear hB
            go_wp2_with fail
            show K _ _
            have := H.out _ (Ext.refl _)
            rw [HFR.out] at this
            exact this
          · rintro L A W K hL hC hW ⟨V, rfl, HV, hB⟩ hK
            have e1 : V 1 = .bool false := HV 1 _ rfl (hW 1 rfl)
            have H := Lib.hid (show ∀ W', Ext W W' → K (fr (upd V 2 (.bool true))) W' from fun W' he => hK _ W' ⟨upd V 2 (.bool true), rfl, HV.up 2 _ (fun x hx => Option.some.inj hx), Ks.ext hB he⟩)
            clear hK hC hW hL HV
            have u1 : (upd V 2 (.bool true)) 1 = .bool false := e1
            have HU := Lib.hid (show (upd V 2 (.bool true)) 1 = .bool false from u1)
            clear u1
            rw [HFR.out]
            rw [e1]
            clear e1
            clear hB
            go_wp2_with fail
            show K _ _
            have := H.out _ (Ext.refl _)
            rw [HFR.out] at this
            obtain u1 := HU.out
            rw [u1] at this
            exact this
          · rintro L A W K hL hC hW ⟨V, rfl, HV, hB⟩ hK
            have e2 : V 2 = .bool true := HV 2 _ rfl (hW 2 rfl)
            have H := Lib.hid (show ∀ W', Ext W W' → K (fr (upd V 3 (.bool true))) W' from fun W' he => hK _ W' ⟨upd V 3 (.bool true), rfl, HV.up 3 _ (fun x hx => Option.some.inj hx), Ks.ext hB he⟩)
            clear hK hC hW hL HV
            have u2 : (upd V 3 (.bool true)) 2 = .bool true := e2
            have HU := Lib.hid (show (upd V 3 (.bool true)) 2 = .bool true from u2)
            clear u2
            rw [HFR.out]
            rw [e2]
            clear e2
            clear hB
            go_wp2_with fail
            show K _ _
            have := H.out _ (Ext.refl _)
            rw [HFR.out] at this
            obtain u2 := HU.out
            rw [u2] at this
            exact this
          · rintro L A W K hL hC hW ⟨V, rfl, HV, hB⟩ hK
            have e3 : V 3 = .bool true := HV 3 _ rfl (hW 3 rfl)
            have H := Lib.hid (show ∀ W', Ext W W' → K (fr (upd V 4 (wv d))) W' from fun W' he => hK _ W' ⟨upd V 4 (wv d), rfl, HV.up 4 _ (fun x hx => Option.some.inj hx), Ks.ext hB he⟩)
            clear hK hC hW hL HV
            have u3 : (upd V 4 (wv d)) 3 = .bool true := e3
            have HU := Lib.hid (show (upd V 4 (wv d)) 3 = .bool true from u3)
            clear u3
            rw [HFR.out]
            rw [e3]
            clear e3
            have HLn := Lib.hid (hB.at (g7) (d) (by simp))
            clear hB
            go_wp2_with ((with_reducible refine wpList_load_wordG ?_ 46 44 (.tmp 7) rfl Try.underlying46 winfo (g7) (d) ?_ ?_ ?_); (exact rfl); (exact rfl); (exact HLn.out))
            show K _ _
            have := H.out _ (Ext.refl _)
            rw [HFR.out] at this
            obtain u3 := HU.out
            rw [u3] at this
            exact this
          · rintro L A W K hL hC hW ⟨V, rfl, HV, hB⟩ hK
            have e3 : V 3 = .bool true := HV 3 _ rfl (hW 3 rfl)
            have H := Lib.hid (show ∀ W', Ext W W' → K (fr (upd V 5 (wv 128))) W' from fun W' he => hK _ W' ⟨upd V 5 (wv 128), rfl, HV.up 5 _ (fun x hx => Option.some.inj hx), Ks.ext hB he⟩)
            clear hK hC hW hL HV
            have u3 : (upd V 5 (wv 128)) 3 = .bool true := e3
            have HU := Lib.hid (show (upd V 5 (wv 128)) 3 = .bool true from u3)
            clear u3
            rw [HFR.out]
            rw [e3]
            clear e3
            go_wp2_with fail
            refine (HOF.out _).mono ?_
            rintro e wx ⟨rfl, he⟩
            go_wp2_with fail
            show K _ _
            have := H.out _ he
            rw [HFR.out] at this
            obtain u3 := HU.out
            rw [u3] at this
            exact this
          · rintro L A W K hL hC hW ⟨V, rfl, HV, hB⟩ hK
            have e3 : V 3 = .bool true := HV 3 _ rfl (hW 3 rfl)
            have e4 : V 4 = wv d := HV 4 _ rfl (hW 4 rfl)
            have e5 : V 5 = wv 128 := HV 5 _ rfl (hW 5 rfl)
            have H := Lib.hid (show ∀ W', Ext W W' → K (fr (upd V 6 (.int .i64 (cmpN d 128)))) W' from fun W' he => hK _ W' ⟨upd V 6 (.int .i64 (cmpN d 128)), rfl, HV.up 6 _ (fun x hx => Option.some.inj hx), Ks.ext hB he⟩)
            clear hK hC hW hL HV
            have u3 : (upd V 6 (.int .i64 (cmpN d 128))) 3 = .bool true := e3
            have u4 : (upd V 6 (.int .i64 (cmpN d 128))) 4 = wv d := e4
            have u5 : (upd V 6 (.int .i64 (cmpN d 128))) 5 = wv 128 := e5
            have HU := Lib.hid (show (upd V 6 (.int .i64 (cmpN d 128))) 3 = .bool true ∧ (upd V 6 (.int .i64 (cmpN d 128))) 4 = wv d ∧ (upd V 6 (.int .i64 (cmpN d 128))) 5 = wv 128 from ⟨u3, u4, u5⟩)
            clear u3 u4 u5
            rw [HFR.out]
            rw [e3, e4, e5]
            clear e3 e4 e5
            go_wp2_with fail
            refine (HCD.out _).mono ?_
            rintro e wx ⟨rfl, he⟩
            go_wp2_with fail
            show K _ _
            have := H.out _ he
            rw [HFR.out] at this
            obtain ⟨u3, u4, u5⟩ := HU.out
            rw [u3, u4, u5] at this
            exact this
          · rintro L A W K hL hC hW ⟨V, rfl, HV, hB⟩ hK
            have e3 : V 3 = .bool true := HV 3 _ rfl (hW 3 rfl)
            have e6 : V 6 = .int .i64 (cmpN d 128) := HV 6 _ rfl (hW 6 rfl)
            have H := Lib.hid (show ∀ W', Ext W W' → K (fr (upd V 7 (.bool true))) W' from fun W' he => hK _ W' ⟨upd V 7 (.bool true), rfl, HV.up 7 _ (fun x hx => Option.some.inj hx), Ks.ext hB he⟩)
            clear hK hC hW hL HV
            have u3 : (upd V 7 (.bool true)) 3 = .bool true := e3
            have u6 : (upd V 7 (.bool true)) 6 = .int .i64 (cmpN d 128) := e6
            have HU := Lib.hid (show (upd V 7 (.bool true)) 3 = .bool true ∧ (upd V 7 (.bool true)) 6 = .int .i64 (cmpN d 128) from ⟨u3, u6⟩)
            clear u3 u6
            rw [HFR.out]
            rw [e3, e6]
            clear e3 e6
            clear hB
            go_wp2_with fail
            show K _ _
            have := H.out _ (Ext.refl _)
            rw [HFR.out] at this
            obtain ⟨u3, u6⟩ := HU.out
            rw [u3, u6] at this
            exact this
          · rintro L A W K hL hC hW ⟨V, rfl, HV, hB⟩ hK
            have e3 : V 3 = .bool true := HV 3 _ rfl (hW 3 rfl)
            have e7 : V 7 = .bool true := HV 7 _ rfl (hW 7 rfl)
            have H := Lib.hid (show ∀ W', Ext W W' → K (fr (upd V 8 (.bool true))) W' from fun W' he => hK _ W' ⟨upd V 8 (.bool true), rfl, HV.up 8 _ (fun x hx => Option.some.inj hx), Ks.ext hB he⟩)
            clear hK hC hW hL HV
            have u3 : (upd V 8 (.bool true)) 3 = .bool true := e3
            have u7 : (upd V 8 (.bool true)) 7 = .bool true := e7
            have HU := Lib.hid (show (upd V 8 (.bool true)) 3 = .bool true ∧ (upd V 8 (.bool true)) 7 = .bool true from ⟨u3, u7⟩)
            clear u3 u7
            rw [HFR.out]
            rw [e3, e7]
            clear e3 e7
            clear hB
            go_wp2_with fail
            show K _ _
            have := H.out _ (Ext.refl _)
            rw [HFR.out] at this
            obtain ⟨u3, u7⟩ := HU.out
            rw [u3, u7] at this
            exact this
          · rintro L A W K hL hC hW ⟨V, rfl, HV, hB⟩ hK
            have e0 : V 0 = .bool true := HV 0 _ rfl (hW 0 rfl)
            have e8 : V 8 = .bool true := HV 8 _ rfl (hW 8 rfl)
            have H := Lib.hid (show ∀ W', Ext W W' → K (fr (upd V 9 (.bool true))) W' from fun W' he => hK _ W' ⟨upd V 9 (.bool true), rfl, HV.up 9 _ (fun x hx => Option.some.inj hx), Ks.ext hB he⟩)
            clear hK hC hW hL HV
            have u0 : (upd V 9 (.bool true)) 0 = .bool true := e0
            have u8 : (upd V 9 (.bool true)) 8 = .bool true := e8
            have HU := Lib.hid (show (upd V 9 (.bool true)) 0 = .bool true ∧ (upd V 9 (.bool true)) 8 = .bool true from ⟨u0, u8⟩)
            clear u0 u8
            rw [HFR.out]
            rw [e0, e8]
            clear e0 e8
            clear hB
            go_wp2_with fail
            show K _ _
            have := H.out _ (Ext.refl _)
            rw [HFR.out] at this
            obtain ⟨u0, u8⟩ := HU.out
            rw [u0, u8] at this
            exact this
          · rintro L A W K hL hC hW ⟨V, rfl, HV, hB⟩ hK
            have e9 : V 9 = .bool true := HV 9 _ rfl (hW 9 rfl)
            have H := Lib.hid (show ∀ W', Ext W W' → K (fr (upd V 10 (.bool true))) W' from fun W' he => hK _ W' ⟨upd V 10 (.bool true), rfl, HV.up 10 _ (fun x hx => Option.some.inj hx), Ks.ext hB he⟩)
            clear hK hC hW hL HV
            have u9 : (upd V 10 (.bool true)) 9 = .bool true := e9
            have HU := Lib.hid (show (upd V 10 (.bool true)) 9 = .bool true from u9)
            clear u9
            rw [HFR.out]
            rw [e9]
            clear e9
            clear hB
            go_wp2_with fail
            show K _ _
            have := H.out _ (Ext.refl _)
            rw [HFR.out] at this
            obtain u9 := HU.out
            rw [u9] at this
            exact this
          · rintro L A W hL ⟨V, rfl, HV, hB⟩
            have e0 : V 0 = .bool true := HV 0 _ rfl (hL 0 (by simp))
            have e1 : V 1 = .bool false := HV 1 _ rfl (hL 1 (by simp))
            have e2 : V 2 = .bool true := HV 2 _ rfl (hL 2 (by simp))
            have e3 : V 3 = .bool true := HV 3 _ rfl (hL 3 (by simp))
            have e4 : V 4 = wv d := HV 4 _ rfl (hL 4 (by simp))
            have e5 : V 5 = wv 128 := HV 5 _ rfl (hL 5 (by simp))
            have e6 : V 6 = .int .i64 (cmpN d 128) := HV 6 _ rfl (hL 6 (by simp))
            have e7 : V 7 = .bool true := HV 7 _ rfl (hL 7 (by simp))
            have e8 : V 8 = .bool true := HV 8 _ rfl (hL 8 (by simp))
            have e9 : V 9 = .bool true := HV 9 _ rfl (hL 9 (by simp))
            have e10 : V 10 = .bool true := HV 10 _ rfl (hL 10 (by simp))
            rw [HFR.out]
            rw [e0, e1, e2, e3, e4, e5, e6, e7, e8, e9, e10]
            clear hL HV HFR e0 e1 e2 e3 e4 e5 e6 e7 e8 e9 e10
            go_wp2_with fail
            go_ret
            exact ⟨rfl, hB.2⟩
        | false =>
          go_wp2_with (first
            | ((with_reducible refine wpList_load_wordG ?_ 46 44 (.tmp 2) rfl Try.underlying46 winfo (w.heap.size) (a) ?_ ?_ ?_); (exact rfl); (exact rfl); (exact HS.at (w.heap.size) (a) (by simp)))
            | ((with_reducible refine wpList_load_wordG ?_ 46 44 (.tmp 3) rfl Try.underlying46 winfo (w.heap.size + 1) (b) ?_ ?_ ?_); (exact rfl); (exact rfl); (exact HS.at (w.heap.size + 1) (b) (by simp))))
          refine (HSUB.out _).mono ?_
          rintro e w5 ⟨rfl, he⟩
          have HS := HS.ext he
          clear he
          go_upto_region 9 with (first
                      | ((with_reducible refine wpList_store_word rfl rfl 46 (.tmp 7) (.tmp 43) rfl winfo (w5.heap.size) (wc 0) (d) ?_ ?_ ?_ ?_ ?_); (exact rfl); (exact rfl); (exact heap_alloc_new _ _); (exact rfl); intro w6 kz gz; have HS := HS.put gz kz; clear kz gz))
          have HK : Ks w [(w5.heap.size, d)] w6 := ⟨fun x hx => HS.1 x (by simp only [List.mem_cons, List.not_mem_nil, or_false] at hx; subst hx; exact List.mem_cons_self), HS.2⟩
          generalize w5.heap.size = g7 at *
          clear HS
          refine wp_named fun a0 ha0 => ?_
          obtain ⟨fr, hfr⟩ : ∃ fr : (Nat → Value) → Act, ∀ V, fr V = (((((((((((a0.put (some 45) (V 0)).put (some 46) (V 1)).put (some 47) (V 2)).put (some 48) (V 3)).put (some 49) (V 4)).put (some 50) (V 5)).put (some 51) (V 6)).put (some 52) (V 7)).put (some 53) (V 8)).put (some 54) (V 9)).put (some 4) (V 10)) := ⟨fun V => (((((((((((a0.put (some 45) (V 0)).put (some 46) (V 1)).put (some 47) (V 2)).put (some 48) (V 3)).put (some 49) (V 4)).put (some 50) (V 5)).put (some 51) (V 6)).put (some 52) (V 7)).put (some 53) (V 8)).put (some 54) (V 9)).put (some 4) (V 10)), fun _ => rfl⟩
          rw [ha0] at hfr
          simp only [Act.put, List.setIfInBounds_toArray, List.set_cons_zero, List.set_cons_succ] at hfr
          have HFR := Lib.hid hfr
          clear hfr
          refine wp_region_inv (by kernel_rfl) (by kernel_rfl) (fun L A W => ∃ V : Nat → Value, A = fr V ∧ Vals (fun j => ([some (.bool true), some (.bool false), some (.bool true), some (.bool true), some (wv d), some (wv 128), some (.int .i64 (cmpN d 128)), some (.bool true), some (.bool true), some (.bool true), some (.bool true)] : List (Option Value)).getD j none) L V ∧ Ks w [(g7, d)] W) ?_ ⟨?_, ?_, ?_, ?_, ?_, ?_, ?_, ?_, ?_, ?_, ?_, trivial⟩ ?_
          · refine ⟨fun j => a0.tmps.getD (([45, 46, 47, 48, 49, 50, 51, 52, 53, 54, 4] : List Nat).getD j 0) undef, ?_, Vals.no _ _ _ (far_none _ _ rfl), HK.drew⟩
            rw [HFR.out, ha0]
            rfl
          all_goals clear ha0
          · rintro L A W K hL hC hW ⟨V, rfl, HV, hB⟩ hK
            have H := Lib.hid (show ∀ W', Ext W W' → K (fr (upd V 0 (.bool true))) W' from fun W' he => hK _ W' ⟨upd V 0 (.bool true), rfl, HV.up 0 _ (fun x hx => Option.some.inj hx), Ks.ext hB he⟩)
            clear hK hC hW hL HV
            rw [HFR.out]
            clear hB
            go_wp2_with fail
            show K _ _
            have := H.out _ (Ext.refl _)
            rw [HFR.out] at this
            exact this
          · rintro L A W K hL hC hW ⟨V, rfl, HV, hB⟩ hK
            have H := Lib.hid (show ∀ W', Ext W W' → K (fr (upd V 1 (.bool false))) W' from fun W' he => hK _ W' ⟨upd V 1 (.bool false), rfl, HV.up 1 _ (fun x hx => Option.some.inj hx), Ks.ext hB he⟩)
            clear hK hC hW hL HV
            rw [HFR.out]
            clear hB
            go_wp2_with fail
            show K _ _
            have := H.out _ (Ext.refl _)
            rw [HFR.out] at this
            exact this
          · rintro L A W K hL hC hW ⟨V, rfl, HV, hB⟩ hK
            have e1 : V 1 = .bool false := HV 1 _ rfl (hW 1 rfl)
            have H := Lib.hid (show ∀ W', Ext W W' → K (fr (upd V 2 (.bool true))) W' from fun W' he => hK _ W' ⟨upd V 2 (.bool true), rfl, HV.up 2 _ (fun x hx => Option.some.inj hx), Ks.ext hB he⟩)
            clear hK hC hW hL HV
            have u1 : (upd V 2 (.bool true)) 1 = .bool false := e1
            have HU := Lib.hid (show (upd V 2 (.bool true)) 1 = .bool false from u1)
            clear u1
            rw [HFR.out]
            rw [e1]
            clear e1
            clear hB
            go_wp2_with fail
            show K _ _
            have := H.out _ (Ext.refl _)
            rw [HFR.out] at this
            obtain u1 := HU.out
            rw [u1] at this
            exact this
          · rintro L A W K hL hC hW ⟨V, rfl, HV, hB⟩ hK
            have e2 : V 2 = .bool true := HV 2 _ rfl (hW 2 rfl)
            have H := Lib.hid (show ∀ W', Ext W W' → K (fr (upd V 3 (.bool true))) W' from fun W' he => hK _ W' ⟨upd V 3 (.bool true), rfl, HV.up 3 _ (fun x hx => Option.some.inj hx), Ks.ext hB he⟩)
            clear hK hC hW hL HV
            have u2 : (upd V 3 (.bool true)) 2 = .bool true := e2
            have HU := Lib.hid (show (upd V 3 (.bool true)) 2 = .bool true from u2)
            clear u2
            rw [HFR.out]
            rw [e2]
            clear e2
            clear hB
            go_wp2_with fail
            show K _ _
            have := H.out _ (Ext.refl _)
            rw [HFR.out] at this
            obtain u2 := HU.out
            rw [u2] at this
            exact this
          · rintro L A W K hL hC hW ⟨V, rfl, HV, hB⟩ hK
            have e3 : V 3 = .bool true := HV 3 _ rfl (hW 3 rfl)
            have H := Lib.hid (show ∀ W', Ext W W' → K (fr (upd V 4 (wv d))) W' from fun W' he => hK _ W' ⟨upd V 4 (wv d), rfl, HV.up 4 _ (fun x hx => Option.some.inj hx), Ks.ext hB he⟩)
            clear hK hC hW hL HV
            have u3 : (upd V 4 (wv d)) 3 = .bool true := e3
            have HU := Lib.hid (show (upd V 4 (wv d)) 3 = .bool true from u3)
            clear u3
            rw [HFR.out]
            rw [e3]
            clear e3
            have HLn := Lib.hid (hB.at (g7) (d) (by simp))
            clear hB
            go_wp2_with ((with_reducible refine wpList_load_wordG ?_ 46 44 (.tmp 7) rfl Try.underlying46 winfo (g7) (d) ?_ ?_ ?_); (exact rfl); (exact rfl); (exact HLn.out))
            show K _ _
            have := H.out _ (Ext.refl _)
            rw [HFR.out] at this
            obtain u3 := HU.out
            rw [u3] at this
            exact this
          · rintro L A W K hL hC hW ⟨V, rfl, HV, hB⟩ hK
            have e3 : V 3 = .bool true := HV 3 _ rfl (hW 3 rfl)
            have H := Lib.hid (show ∀ W', Ext W W' → K (fr (upd V 5 (wv 128))) W' from fun W' he => hK _ W' ⟨upd V 5 (wv 128), rfl, HV.up 5 _ (fun x hx => Option.some.inj hx), Ks.ext hB he⟩)
            clear hK hC hW hL HV
            have u3 : (upd V 5 (wv 128)) 3 = .bool true := e3
            have HU := Lib.hid (show (upd V 5 (wv 128)) 3 = .bool true from u3)
            clear u3
            rw [HFR.out]
            rw [e3]
            clear e3
            go_wp2_with fail
            refine (HOF.out _).mono ?_
            rintro e wx ⟨rfl, he⟩
            go_wp2_with fail
            show K _ _
            have := H.out _ he
            rw [HFR.out] at this
            obtain u3 := HU.out
            rw [u3] at this
            exact this
          · rintro L A W K hL hC hW ⟨V, rfl, HV, hB⟩ hK
            have e3 : V 3 = .bool true := HV 3 _ rfl (hW 3 rfl)
            have e4 : V 4 = wv d := HV 4 _ rfl (hW 4 rfl)
            have e5 : V 5 = wv 128 := HV 5 _ rfl (hW 5 rfl)
            have H := Lib.hid (show ∀ W', Ext W W' → K (fr (upd V 6 (.int .i64 (cmpN d 128)))) W' from fun W' he => hK _ W' ⟨upd V 6 (.int .i64 (cmpN d 128)), rfl, HV.up 6 _ (fun x hx => Option.some.inj hx), Ks.ext hB he⟩)
            clear hK hC hW hL HV
            have u3 : (upd V 6 (.int .i64 (cmpN d 128))) 3 = .bool true := e3
            have u4 : (upd V 6 (.int .i64 (cmpN d 128))) 4 = wv d := e4
            have u5 : (upd V 6 (.int .i64 (cmpN d 128))) 5 = wv 128 := e5
            have HU := Lib.hid (show (upd V 6 (.int .i64 (cmpN d 128))) 3 = .bool true ∧ (upd V 6 (.int .i64 (cmpN d 128))) 4 = wv d ∧ (upd V 6 (.int .i64 (cmpN d 128))) 5 = wv 128 from ⟨u3, u4, u5⟩)
            clear u3 u4 u5
            rw [HFR.out]
            rw [e3, e4, e5]
            clear e3 e4 e5
            go_wp2_with fail
            refine (HCD.out _).mono ?_
            rintro e wx ⟨rfl, he⟩
            go_wp2_with fail
            show K _ _
            have := H.out _ he
            rw [HFR.out] at this
            obtain ⟨u3, u4, u5⟩ := HU.out
            rw [u3, u4, u5] at this
            exact this
          · rintro L A W K hL hC hW ⟨V, rfl, HV, hB⟩ hK
            have e3 : V 3 = .bool true := HV 3 _ rfl (hW 3 rfl)
            have e6 : V 6 = .int .i64 (cmpN d 128) := HV 6 _ rfl (hW 6 rfl)
            have H := Lib.hid (show ∀ W', Ext W W' → K (fr (upd V 7 (.bool true))) W' from fun W' he => hK _ W' ⟨upd V 7 (.bool true), rfl, HV.up 7 _ (fun x hx => Option.some.inj hx), Ks.ext hB he⟩)
            clear hK hC hW hL HV
            have u3 : (upd V 7 (.bool true)) 3 = .bool true := e3
            have u6 : (upd V 7 (.bool true)) 6 = .int .i64 (cmpN d 128) := e6
            have HU := Lib.hid (show (upd V 7 (.bool true)) 3 = .bool true ∧ (upd V 7 (.bool true)) 6 = .int .i64 (cmpN d 128) from ⟨u3, u6⟩)
            clear u3 u6
            rw [HFR.out]
            rw [e3, e6]
            clear e3 e6
            clear hB
            go_wp2_with fail
            show K _ _
            have := H.out _ (Ext.refl _)
            rw [HFR.out] at this
            obtain ⟨u3, u6⟩ := HU.out
            rw [u3, u6] at this
            exact this
          · rintro L A W K hL hC hW ⟨V, rfl, HV, hB⟩ hK
            have e3 : V 3 = .bool true := HV 3 _ rfl (hW 3 rfl)
            have e7 : V 7 = .bool true := HV 7 _ rfl (hW 7 rfl)
            have H := Lib.hid (show ∀ W', Ext W W' → K (fr (upd V 8 (.bool true))) W' from fun W' he => hK _ W' ⟨upd V 8 (.bool true), rfl, HV.up 8 _ (fun x hx => Option.some.inj hx), Ks.ext hB he⟩)
            clear hK hC hW hL HV
            have u3 : (upd V 8 (.bool true)) 3 = .bool true := e3
            have u7 : (upd V 8 (.bool true)) 7 = .bool true := e7
            have HU := Lib.hid (show (upd V 8 (.bool true)) 3 = .bool true ∧ (upd V 8 (.bool true)) 7 = .bool true from ⟨u3, u7⟩)
            clear u3 u7
            rw [HFR.out]
            rw [e3, e7]
            clear e3 e7
            clear hB
            go_wp2_with fail
            show K _ _
            have := H.out _ (Ext.refl _)
            rw [HFR.out] at this
            obtain ⟨u3, u7⟩ := HU.out
            rw [u3, u7] at this
            exact this
          · rintro L A W K hL hC hW ⟨V, rfl, HV, hB⟩ hK
            have e0 : V 0 = .bool true := HV 0 _ rfl (hW 0 rfl)
            have e8 : V 8 = .bool true := HV 8 _ rfl (hW 8 rfl)
            have H := Lib.hid (show ∀ W', Ext W W' → K (fr (upd V 9 (.bool true))) W' from fun W' he => hK _ W' ⟨upd V 9 (.bool true), rfl, HV.up 9 _ (fun x hx => Option.some.inj hx), Ks.ext hB he⟩)
            clear hK hC hW hL HV
            have u0 : (upd V 9 (.bool true)) 0 = .bool true := e0
            have u8 : (upd V 9 (.bool true)) 8 = .bool true := e8
            have HU := Lib.hid (show (upd V 9 (.bool true)) 0 = .bool true ∧ (upd V 9 (.bool true)) 8 = .bool true from ⟨u0, u8⟩)
            clear u0 u8
            rw [HFR.out]
            rw [e0, e8]
            clear e0 e8
            clear hB
            go_wp2_with fail
            show K _ _
            have := H.out _ (Ext.refl _)
            rw [HFR.out] at this
            obtain ⟨u0, u8⟩ := HU.out
            rw [u0, u8] at this
            exact this
          · rintro L A W K hL hC hW ⟨V, rfl, HV, hB⟩ hK
            have e9 : V 9 = .bool true := HV 9 _ rfl (hW 9 rfl)
            have H := Lib.hid (show ∀ W', Ext W W' → K (fr (upd V 10 (.bool true))) W' from fun W' he => hK _ W' ⟨upd V 10 (.bool true), rfl, HV.up 10 _ (fun x hx => Option.some.inj hx), Ks.ext hB he⟩)
            clear hK hC hW hL HV
            have u9 : (upd V 10 (.bool true)) 9 = .bool true := e9
            have HU := Lib.hid (show (upd V 10 (.bool true)) 9 = .bool true from u9)
            clear u9
            rw [HFR.out]
            rw [e9]
            clear e9
            clear hB
            go_wp2_with fail
            show K _ _
            have := H.out _ (Ext.refl _)
            rw [HFR.out] at this
            obtain u9 := HU.out
            rw [u9] at this
            exact this
          · rintro L A W hL ⟨V, rfl, HV, hB⟩
            have e0 : V 0 = .bool true := HV 0 _ rfl (hL 0 (by simp))
            have e1 : V 1 = .bool false := HV 1 _ rfl (hL 1 (by simp))
            have e2 : V 2 = .bool true := HV 2 _ rfl (hL 2 (by simp))
            have e3 : V 3 = .bool true := HV 3 _ rfl (hL 3 (by simp))
            have e4 : V 4 = wv d := HV 4 _ rfl (hL 4 (by simp))
            have e5 : V 5 = wv 128 := HV 5 _ rfl (hL 5 (by simp))
            have e6 : V 6 = .int .i64 (cmpN d 128) := HV 6 _ rfl (hL 6 (by simp))
            have e7 : V 7 = .bool true := HV 7 _ rfl (hL 7 (by simp))
            have e8 : V 8 = .bool true := HV 8 _ rfl (hL 8 (by simp))
            have e9 : V 9 = .bool true := HV 9 _ rfl (hL 9 (by simp))
            have e10 : V 10 = .bool true := HV 10 _ rfl (hL 10 (by simp))
            rw [HFR.out]
            rw [e0, e1, e2, e3, e4, e5, e6, e7, e8, e9, e10]
            clear hL HV HFR e0 e1 e2 e3 e4 e5 e6 e7 e8 e9 e10
            go_wp2_with fail
            go_ret
            exact ⟨rfl, hB.2⟩
      · obtain rfl : nr = false := by rw [HNB.out.1, hu, decide_eq_false hd]; rfl
        have hq : decide (cmpN d 128 < 0) = false := by rw [cmp_lt]; simp; omega
        go_wp2_with (first
          | ((with_reducible refine wpList_load_wordG ?_ 46 44 (.tmp 2) rfl Try.underlying46 winfo (w.heap.size) (a) ?_ ?_ ?_); (exact rfl); (exact rfl); (exact HS.at (w.heap.size) (a) (by simp)))
          | ((with_reducible refine wpList_load_wordG ?_ 46 44 (.tmp 3) rfl Try.underlying46 winfo (w.heap.size + 1) (b) ?_ ?_ ?_); (exact rfl); (exact rfl); (exact HS.at (w.heap.size + 1) (b) (by simp))))
        refine (HSUB.out _).mono ?_
        rintro e w5 ⟨rfl, he⟩
        have HS := HS.ext he
        clear he
        go_upto_region 9 with (first
                  | ((with_reducible refine wpList_store_word rfl rfl 46 (.tmp 7) (.tmp 43) rfl winfo (w5.heap.size) (wc 0) (d) ?_ ?_ ?_ ?_ ?_); (exact rfl); (exact rfl); (exact heap_alloc_new _ _); (exact rfl); intro w6 kz gz; have HS := HS.put gz kz; clear kz gz))
        have HK : Ks w [(w5.heap.size, d)] w6 := ⟨fun x hx => HS.1 x (by simp only [List.mem_cons, List.not_mem_nil, or_false] at hx; subst hx; exact List.mem_cons_self), HS.2⟩
        generalize w5.heap.size = g7 at *
        clear HS
        refine wp_named fun a0 ha0 => ?_
        obtain ⟨fr, hfr⟩ : ∃ fr : (Nat → Value) → Act, ∀ V, fr V = (((((((((((a0.put (some 45) (V 0)).put (some 46) (V 1)).put (some 47) (V 2)).put (some 48) (V 3)).put (some 49) (V 4)).put (some 50) (V 5)).put (some 51) (V 6)).put (some 52) (V 7)).put (some 53) (V 8)).put (some 54) (V 9)).put (some 4) (V 10)) := ⟨fun V => (((((((((((a0.put (some 45) (V 0)).put (some 46) (V 1)).put (some 47) (V 2)).put (some 48) (V 3)).put (some 49) (V 4)).put (some 50) (V 5)).put (some 51) (V 6)).put (some 52) (V 7)).put (some 53) (V 8)).put (some 54) (V 9)).put (some 4) (V 10)), fun _ => rfl⟩
        rw [ha0] at hfr
        simp only [Act.put, List.setIfInBounds_toArray, List.set_cons_zero, List.set_cons_succ] at hfr
        have HFR := Lib.hid hfr
        clear hfr
        refine wp_region_inv (by kernel_rfl) (by kernel_rfl) (fun L A W => ∃ V : Nat → Value, A = fr V ∧ Vals (fun j => ([some (.bool false), some (.bool false), some (.bool true), some (.bool true), some (wv d), some (wv 128), some (.int .i64 (cmpN d 128)), some (.bool false), some (.bool false), some (.bool true), some (.bool true)] : List (Option Value)).getD j none) L V ∧ Ks w [(g7, d)] W) ?_ ⟨?_, ?_, ?_, ?_, ?_, ?_, ?_, ?_, ?_, ?_, ?_, trivial⟩ ?_
        · refine ⟨fun j => a0.tmps.getD (([45, 46, 47, 48, 49, 50, 51, 52, 53, 54, 4] : List Nat).getD j 0) undef, ?_, Vals.no _ _ _ (far_none _ _ rfl), HK.drew⟩
          rw [HFR.out, ha0]
          rfl
        all_goals clear ha0
        · rintro L A W K hL hC hW ⟨V, rfl, HV, hB⟩ hK
          have H := Lib.hid (show ∀ W', Ext W W' → K (fr (upd V 0 (.bool false))) W' from fun W' he => hK _ W' ⟨upd V 0 (.bool false), rfl, HV.up 0 _ (fun x hx => Option.some.inj hx), Ks.ext hB he⟩)
          clear hK hC hW hL HV
          rw [HFR.out]
          clear hB
          go_wp2_with fail
          show K _ _
          have := H.out _ (Ext.refl _)
          rw [HFR.out] at this
          exact this
        · rintro L A W K hL hC hW ⟨V, rfl, HV, hB⟩ hK
          have H := Lib.hid (show ∀ W', Ext W W' → K (fr (upd V 1 (.bool false))) W' from fun W' he => hK _ W' ⟨upd V 1 (.bool false), rfl, HV.up 1 _ (fun x hx => Option.some.inj hx), Ks.ext hB he⟩)
          clear hK hC hW hL HV
          rw [HFR.out]
          clear hB
          go_wp2_with fail
          show K _ _
          have := H.out _ (Ext.refl _)
          rw [HFR.out] at this
          exact this
        · rintro L A W K hL hC hW ⟨V, rfl, HV, hB⟩ hK
          have e1 : V 1 = .bool false := HV 1 _ rfl (hW 1 rfl)
          have H := Lib.hid (show ∀ W', Ext W W' → K (fr (upd V 2 (.bool true))) W' from fun W' he => hK _ W' ⟨upd V 2 (.bool true), rfl, HV.up 2 _ (fun x hx => Option.some.inj hx), Ks.ext hB he⟩)
          clear hK hC hW hL HV
          have u1 : (upd V 2 (.bool true)) 1 = .bool false := e1
          have HU := Lib.hid (show (upd V 2 (.bool true)) 1 = .bool false from u1)
          clear u1
          rw [HFR.out]
          rw [e1]
          clear e1
          clear hB
          go_wp2_with fail
          show K _ _
          have := H.out _ (Ext.refl _)
          rw [HFR.out] at this
          obtain u1 := HU.out
          rw [u1] at this
          exact this
        · rintro L A W K hL hC hW ⟨V, rfl, HV, hB⟩ hK
          have e2 : V 2 = .bool true := HV 2 _ rfl (hW 2 rfl)
          have H := Lib.hid (show ∀ W', Ext W W' → K (fr (upd V 3 (.bool true))) W' from fun W' he => hK _ W' ⟨upd V 3 (.bool true), rfl, HV.up 3 _ (fun x hx => Option.some.inj hx), Ks.ext hB he⟩)
          clear hK hC hW hL HV
          have u2 : (upd V 3 (.bool true)) 2 = .bool true := e2
          have HU := Lib.hid (show (upd V 3 (.bool true)) 2 = .bool true from u2)
          clear u2
          rw [HFR.out]
          rw [e2]
          clear e2
          clear hB
          go_wp2_with fail
          show K _ _
          have := H.out _ (Ext.refl _)
          rw [HFR.out] at this
          obtain u2 := HU.out
          rw [u2] at this
          exact this
        · rintro L A W K hL hC hW ⟨V, rfl, HV, hB⟩ hK
          have e3 : V 3 = .bool true := HV 3 _ rfl (hW 3 rfl)
          have H := Lib.hid (show ∀ W', Ext W W' → K (fr (upd V 4 (wv d))) W' from fun W' he => hK _ W' ⟨upd V 4 (wv d), rfl, HV.up 4 _ (fun x hx => Option.some.inj hx), Ks.ext hB he⟩)
          clear hK hC hW hL HV
          have u3 : (upd V 4 (wv d)) 3 = .bool true := e3
          have HU := Lib.hid (show (upd V 4 (wv d)) 3 = .bool true from u3)
          clear u3
          rw [HFR.out]
          rw [e3]
          clear e3
          have HLn := Lib.hid (hB.at (g7) (d) (by simp))
          clear hB
          go_wp2_with ((with_reducible refine wpList_load_wordG ?_ 46 44 (.tmp 7) rfl Try.underlying46 winfo (g7) (d) ?_ ?_ ?_); (exact rfl); (exact rfl); (exact HLn.out))
          show K _ _
          have := H.out _ (Ext.refl _)
          rw [HFR.out] at this
          obtain u3 := HU.out
          rw [u3] at this
          exact this
        · rintro L A W K hL hC hW ⟨V, rfl, HV, hB⟩ hK
          have e3 : V 3 = .bool true := HV 3 _ rfl (hW 3 rfl)
          have H := Lib.hid (show ∀ W', Ext W W' → K (fr (upd V 5 (wv 128))) W' from fun W' he => hK _ W' ⟨upd V 5 (wv 128), rfl, HV.up 5 _ (fun x hx => Option.some.inj hx), Ks.ext hB he⟩)
          clear hK hC hW hL HV
          have u3 : (upd V 5 (wv 128)) 3 = .bool true := e3
          have HU := Lib.hid (show (upd V 5 (wv 128)) 3 = .bool true from u3)
          clear u3
          rw [HFR.out]
          rw [e3]
          clear e3
          go_wp2_with fail
          refine (HOF.out _).mono ?_
          rintro e wx ⟨rfl, he⟩
          go_wp2_with fail
          show K _ _
          have := H.out _ he
          rw [HFR.out] at this
          obtain u3 := HU.out
          rw [u3] at this
          exact this
        · rintro L A W K hL hC hW ⟨V, rfl, HV, hB⟩ hK
          have e3 : V 3 = .bool true := HV 3 _ rfl (hW 3 rfl)
          have e4 : V 4 = wv d := HV 4 _ rfl (hW 4 rfl)
          have e5 : V 5 = wv 128 := HV 5 _ rfl (hW 5 rfl)
          have H := Lib.hid (show ∀ W', Ext W W' → K (fr (upd V 6 (.int .i64 (cmpN d 128)))) W' from fun W' he => hK _ W' ⟨upd V 6 (.int .i64 (cmpN d 128)), rfl, HV.up 6 _ (fun x hx => Option.some.inj hx), Ks.ext hB he⟩)
          clear hK hC hW hL HV
          have u3 : (upd V 6 (.int .i64 (cmpN d 128))) 3 = .bool true := e3
          have u4 : (upd V 6 (.int .i64 (cmpN d 128))) 4 = wv d := e4
          have u5 : (upd V 6 (.int .i64 (cmpN d 128))) 5 = wv 128 := e5
          have HU := Lib.hid (show (upd V 6 (.int .i64 (cmpN d 128))) 3 = .bool true ∧ (upd V 6 (.int .i64 (cmpN d 128))) 4 = wv d ∧ (upd V 6 (.int .i64 (cmpN d 128))) 5 = wv 128 from ⟨u3, u4, u5⟩)
          clear u3 u4 u5
          rw [HFR.out]
          rw [e3, e4, e5]
          clear e3 e4 e5
          go_wp2_with fail
          refine (HCD.out _).mono ?_
          rintro e wx ⟨rfl, he⟩
          go_wp2_with fail
          show K _ _
          have := H.out _ he
          rw [HFR.out] at this
          obtain ⟨u3, u4, u5⟩ := HU.out
          rw [u3, u4, u5] at this
          exact this
        · rintro L A W K hL hC hW ⟨V, rfl, HV, hB⟩ hK
          have e3 : V 3 = .bool true := HV 3 _ rfl (hW 3 rfl)
          have e6 : V 6 = .int .i64 (cmpN d 128) := HV 6 _ rfl (hW 6 rfl)
          have H := Lib.hid (show ∀ W', Ext W W' → K (fr (upd V 7 (.bool false))) W' from fun W' he => hK _ W' ⟨upd V 7 (.bool false), rfl, HV.up 7 _ (fun x hx => Option.some.inj hx), Ks.ext hB he⟩)
          clear hK hC hW hL HV
          have u3 : (upd V 7 (.bool false)) 3 = .bool true := e3
          have u6 : (upd V 7 (.bool false)) 6 = .int .i64 (cmpN d 128) := e6
          have HU := Lib.hid (show (upd V 7 (.bool false)) 3 = .bool true ∧ (upd V 7 (.bool false)) 6 = .int .i64 (cmpN d 128) from ⟨u3, u6⟩)
          clear u3 u6
          rw [HFR.out]
          rw [e3, e6]
          clear e3 e6
          clear hB
          go_wp2_with fail
          show K _ _
          have := H.out _ (Ext.refl _)
          rw [HFR.out] at this
          obtain ⟨u3, u6⟩ := HU.out
          rw [u3, u6] at this
          exact this
        · rintro L A W K hL hC hW ⟨V, rfl, HV, hB⟩ hK
          have e3 : V 3 = .bool true := HV 3 _ rfl (hW 3 rfl)
          have e7 : V 7 = .bool false := HV 7 _ rfl (hW 7 rfl)
          have H := Lib.hid (show ∀ W', Ext W W' → K (fr (upd V 8 (.bool false))) W' from fun W' he => hK _ W' ⟨upd V 8 (.bool false), rfl, HV.up 8 _ (fun x hx => Option.some.inj hx), Ks.ext hB he⟩)
          clear hK hC hW hL HV
          have u3 : (upd V 8 (.bool false)) 3 = .bool true := e3
          have u7 : (upd V 8 (.bool false)) 7 = .bool false := e7
          have HU := Lib.hid (show (upd V 8 (.bool false)) 3 = .bool true ∧ (upd V 8 (.bool false)) 7 = .bool false from ⟨u3, u7⟩)
          clear u3 u7
          rw [HFR.out]
          rw [e3, e7]
          clear e3 e7
          clear hB
          go_wp2_with fail
          show K _ _
          have := H.out _ (Ext.refl _)
          rw [HFR.out] at this
          obtain ⟨u3, u7⟩ := HU.out
          rw [u3, u7] at this
          exact this
        · rintro L A W K hL hC hW ⟨V, rfl, HV, hB⟩ hK
          have e0 : V 0 = .bool false := HV 0 _ rfl (hW 0 rfl)
          have e8 : V 8 = .bool false := HV 8 _ rfl (hW 8 rfl)
          have H := Lib.hid (show ∀ W', Ext W W' → K (fr (upd V 9 (.bool true))) W' from fun W' he => hK _ W' ⟨upd V 9 (.bool true), rfl, HV.up 9 _ (fun x hx => Option.some.inj hx), Ks.ext hB he⟩)
          clear hK hC hW hL HV
          have u0 : (upd V 9 (.bool true)) 0 = .bool false := e0
          have u8 : (upd V 9 (.bool true)) 8 = .bool false := e8
          have HU := Lib.hid (show (upd V 9 (.bool true)) 0 = .bool false ∧ (upd V 9 (.bool true)) 8 = .bool false from ⟨u0, u8⟩)
          clear u0 u8
          rw [HFR.out]
          rw [e0, e8]
          clear e0 e8
          clear hB
          go_wp2_with fail
          show K _ _
          have := H.out _ (Ext.refl _)
          rw [HFR.out] at this
          obtain ⟨u0, u8⟩ := HU.out
          rw [u0, u8] at this
          exact this
        · rintro L A W K hL hC hW ⟨V, rfl, HV, hB⟩ hK
          have e9 : V 9 = .bool true := HV 9 _ rfl (hW 9 rfl)
          have H := Lib.hid (show ∀ W', Ext W W' → K (fr (upd V 10 (.bool true))) W' from fun W' he => hK _ W' ⟨upd V 10 (.bool true), rfl, HV.up 10 _ (fun x hx => Option.some.inj hx), Ks.ext hB he⟩)
          clear hK hC hW hL HV
          have u9 : (upd V 10 (.bool true)) 9 = .bool true := e9
          have HU := Lib.hid (show (upd V 10 (.bool true)) 9 = .bool true from u9)
          clear u9
          rw [HFR.out]
          rw [e9]
          clear e9
          clear hB
          go_wp2_with fail
          show K _ _
          have := H.out _ (Ext.refl _)
          rw [HFR.out] at this
          obtain u9 := HU.out
          rw [u9] at this
          exact this
        · rintro L A W hL ⟨V, rfl, HV, hB⟩
          have e0 : V 0 = .bool false := HV 0 _ rfl (hL 0 (by simp))
          have e1 : V 1 = .bool false := HV 1 _ rfl (hL 1 (by simp))
          have e2 : V 2 = .bool true := HV 2 _ rfl (hL 2 (by simp))
          have e3 : V 3 = .bool true := HV 3 _ rfl (hL 3 (by simp))
          have e4 : V 4 = wv d := HV 4 _ rfl (hL 4 (by simp))
          have e5 : V 5 = wv 128 := HV 5 _ rfl (hL 5 (by simp))
          have e6 : V 6 = .int .i64 (cmpN d 128) := HV 6 _ rfl (hL 6 (by simp))
          have e7 : V 7 = .bool false := HV 7 _ rfl (hL 7 (by simp))
          have e8 : V 8 = .bool false := HV 8 _ rfl (hL 8 (by simp))
          have e9 : V 9 = .bool true := HV 9 _ rfl (hL 9 (by simp))
          have e10 : V 10 = .bool true := HV 10 _ rfl (hL 10 (by simp))
          rw [HFR.out]
          rw [e0, e1, e2, e3, e4, e5, e6, e7, e8, e9, e10]
          clear hL HV HFR e0 e1 e2 e3 e4 e5 e6 e7 e8 e9 e10
          go_wp2_with fail
          go_ret
          exact ⟨rfl, hB.2⟩

set_option maxRecDepth 100000 in
theorem reach_told (W : World) (args : Array Value) (h : Told Try.f14 W args) : Calls Try.prog 14 args W (RetT W) := by
  obtain ⟨H, enc, base, ds, p, hval, hA⟩ := h
  rw [Try.params14] at hA hval
  obtain ⟨v0, v1, d0, d1, p0, p1, ha, rfl, rfl, h0, h1⟩ := trodAll_two hA
  obtain rfl : args = #[v0, v1] := by apply Array.toList_inj.1; rw [ha]
  obtain ⟨a, hx, rfl⟩ := word_came (hval 0 _ _ rfl rfl) h0
  obtain ⟨b, hy, rfl⟩ := word_came (hval 1 _ _ rfl rfl) h1
  exact reach_any a b W hx hy

set_option maxRecDepth 100000 in
theorem reach_spec (H : Type) : ∀ ds : List (DataW H), ds.length = Try.f14.params.toList.length → Rows.addrReachSpec.fn H ds = { results := [.lit (.bool true)], args := ds }
  | [_, _], _ => rfl
  | [], h | [_], h | _ :: _ :: _ :: _, h => by rw [Try.params14] at h; simp at h

set_option maxRecDepth 100000 in
theorem addrReach_holds : Rows.AddrReachSaid :=
  OpenClaim.holds_of_wide 14 Try.f14 rfl rfl rfl rfl rfl rfl rfl ⟨rfl, rfl, rfl, rfl, rfl⟩ rfl rfl rfl rfl rfl (by kernel_rfl) Try.func14 (by kernel_rfl)
    (of_decide_eq_true (by kernel_rfl)) (by unfold Func.isWrapper; first | (rw [if_pos (by decide +kernel)]; kernel_rfl) | (rw [if_neg (by decide +kernel)]; exact ⟨rfl, rfl⟩))
    (fun os started H enc _ => law_lifted started (by kernel_rfl) Try.func14 rfl rfl (reach_spec H) (of_decide_eq_true (by kernel_rfl))
      (ChangeSpec.witness6 (enc := enc) (C := Try.checked) false ⟨#[], #[.agg #[.int .u64 0, .int .u64 0, .int .u64 0, .int .u64 0], .agg #[.int .u64 0, .int .u64 0, .int .u64 0, .int .u64 0]], []⟩ 8 (by kernel_rfl) (by kernel_rfl) (by kernel_rfl) (by kernel_rfl)) reach_told)
end Go.Proofs.Ytdkjpoodfkkmlaa
