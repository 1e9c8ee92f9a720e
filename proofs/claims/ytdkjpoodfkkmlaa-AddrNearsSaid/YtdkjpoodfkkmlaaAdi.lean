/- AddrNears: which slots are near which. -/
import Derived.Test.YtdkjpoodfkkmlaaAdf
namespace Go.Proofs.Ytdkjpoodfkkmlaa
open Go.ChangeShapes Go.WideShapes Go.ChangeAt Go.RowKit

set_option maxRecDepth 100000 in
set_option maxHeartbeats 8000000 in
theorem nears_any (a b : Nat) (w : World) (ha : a < M256) (hb : b < M256) : Calls Try.prog 10 #[wv a, wv b] w (RetT w) := by
  have HS : Ks w [(w.heap.size, a), (w.heap.size + 1, b)] ((w.alloc (.cells (wc a) 46)).alloc (.cells (wc b) 46)) :=
    ⟨fun x hx => by
      simp only [List.mem_cons, List.not_mem_nil, or_false] at hx
      rcases hx with rfl | rfl
      · exact (Cs.new _ _ _ _ rfl).alloc _
      · exact Cs.new _ _ _ _ (by simp), ((Ext.refl w).alloc _).alloc _⟩
  have HN1 := Lib.hid (fun W => near_any a b W ha hb)
  have HN2 := Lib.hid (fun W => refNear_any a b W ha hb)
  have HN3 := Lib.hid (fun W => near_any b a W hb ha)
  have HN4 := Lib.hid (fun W => refNear_any b a W hb ha)
  generalize nearB a b = nr at *
  generalize nearB b a = bk at *
  clear ha hb
  unfold wv
  go_enter Try.func10, Try.ntmps10
  go_wp2_with fail
  refine (adrWakes_any _).mono ?_
  rintro e w1 ⟨rfl, he⟩
  have HS := HS.ext he
  clear he
  go_upto_region 3 with fail
  refine wp_named fun a0 ha0 => ?_
  obtain ⟨fr, hfr⟩ : ∃ fr : (Nat → Value) → Act, ∀ V, fr V = (((((((((((((((((a0.put (some 7) (V 0)).put (some 8) (V 1)).put (some 9) (V 2)).put (some 10) (V 3)).put (some 11) (V 4)).put (some 12) (V 5)).put (some 13) (V 6)).put (some 14) (V 7)).put (some 15) (V 8)).put (some 16) (V 9)).put (some 17) (V 10)).put (some 18) (V 11)).put (some 19) (V 12)).put (some 20) (V 13)).put (some 21) (V 14)).put (some 22) (V 15)).put (some 4) (V 16)) := ⟨fun V => (((((((((((((((((a0.put (some 7) (V 0)).put (some 8) (V 1)).put (some 9) (V 2)).put (some 10) (V 3)).put (some 11) (V 4)).put (some 12) (V 5)).put (some 13) (V 6)).put (some 14) (V 7)).put (some 15) (V 8)).put (some 16) (V 9)).put (some 17) (V 10)).put (some 18) (V 11)).put (some 19) (V 12)).put (some 20) (V 13)).put (some 21) (V 14)).put (some 22) (V 15)).put (some 4) (V 16)), fun _ => rfl⟩
  rw [ha0] at hfr
  simp only [Act.put, List.setIfInBounds_toArray, List.set_cons_zero, List.set_cons_succ] at hfr
  have HFR := Lib.hid hfr
  clear hfr
  refine wp_region_inv (by kernel_rfl) (by kernel_rfl) (fun L A W => ∃ V : Nat → Value, A = fr V ∧ Vals (fun j => ([some (wv a), some (wv b), some (.bool nr), some (wv a), some (wv b), some (.bool nr), some (.bool true), some (.bool true), some (wv b), some (wv a), some (.bool bk), some (wv b), some (wv a), some (.bool bk), some (.bool true), some (.bool true), some (.bool true)] : List (Option Value)).getD j none) L V ∧ Ks w [(w.heap.size, a), (w.heap.size + 1, b)] W) ?_ ⟨?_, ?_, ?_, ?_, ?_, ?_, ?_, ?_, ?_, ?_, ?_, ?_, ?_, ?_, ?_, ?_, ?_, trivial⟩ ?_
  · refine ⟨fun j => a0.tmps.getD (([7, 8, 9, 10, 11, 12, 13, 14, 15, 16, 17, 18, 19, 20, 21, 22, 4] : List Nat).getD j 0) undef, ?_, Vals.no _ _ _ (far_none _ _ rfl), HS.drew⟩
    rw [HFR.out, ha0]
    rfl
  all_goals clear ha0
  · rintro L A W K hL hC hW ⟨V, rfl, HV, hB⟩ hK
    have H := Lib.hid (show ∀ W', Ext W W' → K (fr (upd V 0 (wv a))) W' from fun W' he => hK _ W' ⟨upd V 0 (wv a), rfl, HV.up 0 _ (fun x hx => Option.some.inj hx), Ks.ext hB he⟩)
    clear hK hC hW hL HV
    rw [HFR.out]
    have HLn := Lib.hid (hB.at (w.heap.size) (a) (by simp))
    clear hB
    go_wp2_with ((with_reducible refine wpList_load_wordG ?_ 46 44 (.tmp 2) rfl Try.underlying46 winfo (w.heap.size) (a) ?_ ?_ ?_); (exact rfl); (exact rfl); (exact HLn.out))
    show K _ _
    have := H.out _ (Ext.refl _)
    rw [HFR.out] at this
    exact this
  · rintro L A W K hL hC hW ⟨V, rfl, HV, hB⟩ hK
    have H := Lib.hid (show ∀ W', Ext W W' → K (fr (upd V 1 (wv b))) W' from fun W' he => hK _ W' ⟨upd V 1 (wv b), rfl, HV.up 1 _ (fun x hx => Option.some.inj hx), Ks.ext hB he⟩)
    clear hK hC hW hL HV
    rw [HFR.out]
    have HLn := Lib.hid (hB.at (w.heap.size + 1) (b) (by simp))
    clear hB
    go_wp2_with ((with_reducible refine wpList_load_wordG ?_ 46 44 (.tmp 3) rfl Try.underlying46 winfo (w.heap.size + 1) (b) ?_ ?_ ?_); (exact rfl); (exact rfl); (exact HLn.out))
    show K _ _
    have := H.out _ (Ext.refl _)
    rw [HFR.out] at this
    exact this
  · rintro L A W K hL hC hW ⟨V, rfl, HV, hB⟩ hK
    have e0 : V 0 = wv a := HV 0 _ rfl (hW 0 rfl)
    have e1 : V 1 = wv b := HV 1 _ rfl (hW 1 rfl)
    have H := Lib.hid (show ∀ W', Ext W W' → K (fr (upd V 2 (.bool nr))) W' from fun W' he => hK _ W' ⟨upd V 2 (.bool nr), rfl, HV.up 2 _ (fun x hx => Option.some.inj hx), Ks.ext hB he⟩)
    clear hK hC hW hL HV
    have u0 : (upd V 2 (.bool nr)) 0 = wv a := e0
    have u1 : (upd V 2 (.bool nr)) 1 = wv b := e1
    have HU := Lib.hid (show (upd V 2 (.bool nr)) 0 = wv a ∧ (upd V 2 (.bool nr)) 1 = wv b from ⟨u0, u1⟩)
    clear u0 u1
    rw [HFR.out]
    rw [e0, e1]
    clear e0 e1
    go_wp2_with fail
    refine (HN1.out _).mono ?_
    rintro e wx ⟨rfl, he⟩
    go_wp2_with fail
    show K _ _
    have := H.out _ he
    rw [HFR.out] at this
    obtain ⟨u0, u1⟩ := HU.out
    rw [u0, u1] at this
    exact this
  · rintro L A W K hL hC hW ⟨V, rfl, HV, hB⟩ hK
    have H := Lib.hid (show ∀ W', Ext W W' → K (fr (upd V 3 (wv a))) W' from fun W' he => hK _ W' ⟨upd V 3 (wv a), rfl, HV.up 3 _ (fun x hx => Option.some.inj hx), Ks.ext hB he⟩)
    clear hK hC hW hL HV
    rw [HFR.out]
    have HLn := Lib.hid (hB.at (w.heap.size) (a) (by simp))
    clear hB
    go_wp2_with ((with_reducible refine wpList_load_wordG ?_ 46 44 (.tmp 2) rfl Try.underlying46 winfo (w.heap.size) (a) ?_ ?_ ?_); (exact rfl); (exact rfl); (exact HLn.out))
    show K _ _
    have := H.out _ (Ext.refl _)
    rw [HFR.out] at this
    exact this
  · rintro L A W K hL hC hW ⟨V, rfl, HV, hB⟩ hK
    have H := Lib.hid (show ∀ W', Ext W W' → K (fr (upd V 4 (wv b))) W' from fun W' he => hK _ W' ⟨upd V 4 (wv b), rfl, HV.up 4 _ (fun x hx => Option.some.inj hx), Ks.ext hB he⟩)
    clear hK hC hW hL HV
    rw [HFR.out]
    have HLn := Lib.hid (hB.at (w.heap.size + 1) (b) (by simp))
    clear hB
    go_wp2_with ((with_reducible refine wpList_load_wordG ?_ 46 44 (.tmp 3) rfl Try.underlying46 winfo (w.heap.size + 1) (b) ?_ ?_ ?_); (exact rfl); (exact rfl); (exact HLn.out))
    show K _ _
    have := H.out _ (Ext.refl _)
    rw [HFR.out] at this
    exact this
  · rintro L A W K hL hC hW ⟨V, rfl, HV, hB⟩ hK
    have e3 : V 3 = wv a := HV 3 _ rfl (hW 3 rfl)
    have e4 : V 4 = wv b := HV 4 _ rfl (hW 4 rfl)
    have H := Lib.hid (show ∀ W', Ext W W' → K (fr (upd V 5 (.bool nr))) W' from fun W' he => hK _ W' ⟨upd V 5 (.bool nr), rfl, HV.up 5 _ (fun x hx => Option.some.inj hx), Ks.ext hB he⟩)
    clear hK hC hW hL HV
    have u3 : (upd V 5 (.bool nr)) 3 = wv a := e3
    have u4 : (upd V 5 (.bool nr)) 4 = wv b := e4
    have HU := Lib.hid (show (upd V 5 (.bool nr)) 3 = wv a ∧ (upd V 5 (.bool nr)) 4 = wv b from ⟨u3, u4⟩)
    clear u3 u4
    rw [HFR.out]
    rw [e3, e4]
    clear e3 e4
    go_wp2_with fail
    refine (HN2.out _).mono ?_
    rintro e wx ⟨rfl, he⟩
    go_wp2_with fail
    show K _ _
    have := H.out _ he
    rw [HFR.out] at this
    obtain ⟨u3, u4⟩ := HU.out
    rw [u3, u4] at this
    exact this
  · rintro L A W K hL hC hW ⟨V, rfl, HV, hB⟩ hK
    have e2 : V 2 = .bool nr := HV 2 _ rfl (hW 2 rfl)
    have e5 : V 5 = .bool nr := HV 5 _ rfl (hW 5 rfl)
    have H := Lib.hid (show ∀ W', Ext W W' → K (fr (upd V 6 (.bool true))) W' from fun W' he => hK _ W' ⟨upd V 6 (.bool true), rfl, HV.up 6 _ (fun x hx => Option.some.inj hx), Ks.ext hB he⟩)
    clear hK hC hW hL HV
    have u2 : (upd V 6 (.bool true)) 2 = .bool nr := e2
    have u5 : (upd V 6 (.bool true)) 5 = .bool nr := e5
    have HU := Lib.hid (show (upd V 6 (.bool true)) 2 = .bool nr ∧ (upd V 6 (.bool true)) 5 = .bool nr from ⟨u2, u5⟩)
    clear u2 u5
    rw [HFR.out]
    rw [e2, e5]
    clear e2 e5
    have hbb : (nr == nr) = true := beq_self_eq_true nr
    clear hB
    go_wp2_with fail
    show K _ _
    have := H.out _ (Ext.refl _)
    rw [HFR.out] at this
    obtain ⟨u2, u5⟩ := HU.out
    rw [u2, u5] at this
    exact this
  · rintro L A W K hL hC hW ⟨V, rfl, HV, hB⟩ hK
    have e6 : V 6 = .bool true := HV 6 _ rfl (hW 6 rfl)
    have H := Lib.hid (show ∀ W', Ext W W' → K (fr (upd V 7 (.bool true))) W' from fun W' he => hK _ W' ⟨upd V 7 (.bool true), rfl, HV.up 7 _ (fun x hx => Option.some.inj hx), Ks.ext hB he⟩)
    clear hK hC hW hL HV
    have u6 : (upd V 7 (.bool true)) 6 = .bool true := e6
    have HU := Lib.hid (show (upd V 7 (.bool true)) 6 = .bool true from u6)
    clear u6
    rw [HFR.out]
    rw [e6]
    clear e6
    clear hB
    go_wp2_with fail
    show K _ _
    have := H.out _ (Ext.refl _)
    rw [HFR.out] at this
    obtain u6 := HU.out
    rw [u6] at this
    exact this
  · rintro L A W K hL hC hW ⟨V, rfl, HV, hB⟩ hK
    have e7 : V 7 = .bool true := HV 7 _ rfl (hW 7 rfl)
    have H := Lib.hid (show ∀ W', Ext W W' → K (fr (upd V 8 (wv b))) W' from fun W' he => hK _ W' ⟨upd V 8 (wv b), rfl, HV.up 8 _ (fun x hx => Option.some.inj hx), Ks.ext hB he⟩)
    clear hK hC hW hL HV
    have u7 : (upd V 8 (wv b)) 7 = .bool true := e7
    have HU := Lib.hid (show (upd V 8 (wv b)) 7 = .bool true from u7)
    clear u7
    rw [HFR.out]
    rw [e7]
    clear e7
    have HLn := Lib.hid (hB.at (w.heap.size + 1) (b) (by simp))
    clear hB
    go_wp2_with ((with_reducible refine wpList_load_wordG ?_ 46 44 (.tmp 3) rfl Try.underlying46 winfo (w.heap.size + 1) (b) ?_ ?_ ?_); (exact rfl); (exact rfl); (exact HLn.out))
    show K _ _
    have := H.out _ (Ext.refl _)
    rw [HFR.out] at this
    obtain u7 := HU.out
    rw [u7] at this
    exact this
  · rintro L A W K hL hC hW ⟨V, rfl, HV, hB⟩ hK
    have e7 : V 7 = .bool true := HV 7 _ rfl (hW 7 rfl)
    have H := Lib.hid (show ∀ W', Ext W W' → K (fr (upd V 9 (wv a))) W' from fun W' he => hK _ W' ⟨upd V 9 (wv a), rfl, HV.up 9 _ (fun x hx => Option.some.inj hx), Ks.ext hB he⟩)
    clear hK hC hW hL HV
    have u7 : (upd V 9 (wv a)) 7 = .bool true := e7
    have HU := Lib.hid (show (upd V 9 (wv a)) 7 = .bool true from u7)
    clear u7
    rw [HFR.out]
    rw [e7]
    clear e7
    have HLn := Lib.hid (hB.at (w.heap.size) (a) (by simp))
    clear hB
    go_wp2_with ((with_reducible refine wpList_load_wordG ?_ 46 44 (.tmp 2) rfl Try.underlying46 winfo (w.heap.size) (a) ?_ ?_ ?_); (exact rfl); (exact rfl); (exact HLn.out))
    show K _ _
    have := H.out _ (Ext.refl _)
    rw [HFR.out] at this
    obtain u7 := HU.out
    rw [u7] at this
    exact this
  · rintro L A W K hL hC hW ⟨V, rfl, HV, hB⟩ hK
    have e7 : V 7 = .bool true := HV 7 _ rfl (hW 7 rfl)
    have e8 : V 8 = wv b := HV 8 _ rfl (hW 8 rfl)
    have e9 : V 9 = wv a := HV 9 _ rfl (hW 9 rfl)
    have H := Lib.hid (show ∀ W', Ext W W' → K (fr (upd V 10 (.bool bk))) W' from fun W' he => hK _ W' ⟨upd V 10 (.bool bk), rfl, HV.up 10 _ (fun x hx => Option.some.inj hx), Ks.ext hB he⟩)
    clear hK hC hW hL HV
    have u7 : (upd V 10 (.bool bk)) 7 = .bool true := e7
    have u8 : (upd V 10 (.bool bk)) 8 = wv b := e8
    have u9 : (upd V 10 (.bool bk)) 9 = wv a := e9
    have HU := Lib.hid (show (upd V 10 (.bool bk)) 7 = .bool true ∧ (upd V 10 (.bool bk)) 8 = wv b ∧ (upd V 10 (.bool bk)) 9 = wv a from ⟨u7, u8, u9⟩)
    clear u7 u8 u9
    rw [HFR.out]
    rw [e7, e8, e9]
    clear e7 e8 e9
    go_wp2_with fail
    refine (HN3.out _).mono ?_
    rintro e wx ⟨rfl, he⟩
    go_wp2_with fail
    show K _ _
    have := H.out _ he
    rw [HFR.out] at this
    obtain ⟨u7, u8, u9⟩ := HU.out
    rw [u7, u8, u9] at this
    exact this
  · rintro L A W K hL hC hW ⟨V, rfl, HV, hB⟩ hK
    have e7 : V 7 = .bool true := HV 7 _ rfl (hW 7 rfl)
    have H := Lib.hid (show ∀ W', Ext W W' → K (fr (upd V 11 (wv b))) W' from fun W' he => hK _ W' ⟨upd V 11 (wv b), rfl, HV.up 11 _ (fun x hx => Option.some.inj hx), Ks.ext hB he⟩)
    clear hK hC hW hL HV
    have u7 : (upd V 11 (wv b)) 7 = .bool true := e7
    have HU := Lib.hid (show (upd V 11 (wv b)) 7 = .bool true from u7)
    clear u7
    rw [HFR.out]
    rw [e7]
    clear e7
    have HLn := Lib.hid (hB.at (w.heap.size + 1) (b) (by simp))
    clear hB
    go_wp2_with ((with_reducible refine wpList_load_wordG ?_ 46 44 (.tmp 3) rfl Try.underlying46 winfo (w.heap.size + 1) (b) ?_ ?_ ?_); (exact rfl); (exact rfl); (exact HLn.out))
    show K _ _
    have := H.out _ (Ext.refl _)
    rw [HFR.out] at this
    obtain u7 := HU.out
    rw [u7] at this
    exact this
  · rintro L A W K hL hC hW ⟨V, rfl, HV, hB⟩ hK
    have e7 : V 7 = .bool true := HV 7 _ rfl (hW 7 rfl)
    have H := Lib.hid (show ∀ W', Ext W W' → K (fr (upd V 12 (wv a))) W' from fun W' he => hK _ W' ⟨upd V 12 (wv a), rfl, HV.up 12 _ (fun x hx => Option.some.inj hx), Ks.ext hB he⟩)
    clear hK hC hW hL HV
    have u7 : (upd V 12 (wv a)) 7 = .bool true := e7
    have HU := Lib.hid (show (upd V 12 (wv a)) 7 = .bool true from u7)
    clear u7
    rw [HFR.out]
    rw [e7]
    clear e7
    have HLn := Lib.hid (hB.at (w.heap.size) (a) (by simp))
    clear hB
    go_wp2_with ((with_reducible refine wpList_load_wordG ?_ 46 44 (.tmp 2) rfl Try.underlying46 winfo (w.heap.size) (a) ?_ ?_ ?_); (exact rfl); (exact rfl); (exact HLn.out))
    show K _ _
    have := H.out _ (Ext.refl _)
    rw [HFR.out] at this
    obtain u7 := HU.out
    rw [u7] at this
    exact this
  · rintro L A W K hL hC hW ⟨V, rfl, HV, hB⟩ hK
    have e7 : V 7 = .bool true := HV 7 _ rfl (hW 7 rfl)
    have e11 : V 11 = wv b := HV 11 _ rfl (hW 11 rfl)
    have e12 : V 12 = wv a := HV 12 _ rfl (hW 12 rfl)
    have H := Lib.hid (show ∀ W', Ext W W' → K (fr (upd V 13 (.bool bk))) W' from fun W' he => hK _ W' ⟨upd V 13 (.bool bk), rfl, HV.up 13 _ (fun x hx => Option.some.inj hx), Ks.ext hB he⟩)
    clear hK hC hW hL HV
    have u7 : (upd V 13 (.bool bk)) 7 = .bool true := e7
    have u11 : (upd V 13 (.bool bk)) 11 = wv b := e11
    have u12 : (upd V 13 (.bool bk)) 12 = wv a := e12
    have HU := Lib.hid (show (upd V 13 (.bool bk)) 7 = .bool true ∧ (upd V 13 (.bool bk)) 11 = wv b ∧ (upd V 13 (.bool bk)) 12 = wv a from ⟨u7, u11, u12⟩)
    clear u7 u11 u12
    rw [HFR.out]
    rw [e7, e11, e12]
    clear e7 e11 e12
    go_wp2_with fail
    refine (HN4.out _).mono ?_
    rintro e wx ⟨rfl, he⟩
    go_wp2_with fail
    show K _ _
    have := H.out _ he
    rw [HFR.out] at this
    obtain ⟨u7, u11, u12⟩ := HU.out
    rw [u7, u11, u12] at this
    exact this
  · rintro L A W K hL hC hW ⟨V, rfl, HV, hB⟩ hK
    have e7 : V 7 = .bool true := HV 7 _ rfl (hW 7 rfl)
    have e10 : V 10 = .bool bk := HV 10 _ rfl (hW 10 rfl)
    have e13 : V 13 = .bool bk := HV 13 _ rfl (hW 13 rfl)
    have H := Lib.hid (show ∀ W', Ext W W' → K (fr (upd V 14 (.bool true))) W' from fun W' he => hK _ W' ⟨upd V 14 (.bool true), rfl, HV.up 14 _ (fun x hx => Option.some.inj hx), Ks.ext hB he⟩)
    clear hK hC hW hL HV
    have u7 : (upd V 14 (.bool true)) 7 = .bool true := e7
    have u10 : (upd V 14 (.bool true)) 10 = .bool bk := e10
    have u13 : (upd V 14 (.bool true)) 13 = .bool bk := e13
    have HU := Lib.hid (show (upd V 14 (.bool true)) 7 = .bool true ∧ (upd V 14 (.bool true)) 10 = .bool bk ∧ (upd V 14 (.bool true)) 13 = .bool bk from ⟨u7, u10, u13⟩)
    clear u7 u10 u13
    rw [HFR.out]
    rw [e7, e10, e13]
    clear e7 e10 e13
    have hbb : (bk == bk) = true := beq_self_eq_true bk
    clear hB
    go_wp2_with fail
    show K _ _
    have := H.out _ (Ext.refl _)
    rw [HFR.out] at this
    obtain ⟨u7, u10, u13⟩ := HU.out
    rw [u7, u10, u13] at this
    exact this
  · rintro L A W K hL hC hW ⟨V, rfl, HV, hB⟩ hK
    have e7 : V 7 = .bool true := HV 7 _ rfl (hW 7 rfl)
    have e14 : V 14 = .bool true := HV 14 _ rfl (hW 14 rfl)
    have H := Lib.hid (show ∀ W', Ext W W' → K (fr (upd V 15 (.bool true))) W' from fun W' he => hK _ W' ⟨upd V 15 (.bool true), rfl, HV.up 15 _ (fun x hx => Option.some.inj hx), Ks.ext hB he⟩)
    clear hK hC hW hL HV
    have u7 : (upd V 15 (.bool true)) 7 = .bool true := e7
    have u14 : (upd V 15 (.bool true)) 14 = .bool true := e14
    have HU := Lib.hid (show (upd V 15 (.bool true)) 7 = .bool true ∧ (upd V 15 (.bool true)) 14 = .bool true from ⟨u7, u14⟩)
    clear u7 u14
    rw [HFR.out]
    rw [e7, e14]
    clear e7 e14
    clear hB
    go_wp2_with fail
    show K _ _
    have := H.out _ (Ext.refl _)
    rw [HFR.out] at this
    obtain ⟨u7, u14⟩ := HU.out
    rw [u7, u14] at this
    exact this
  · rintro L A W K hL hC hW ⟨V, rfl, HV, hB⟩ hK
    have e15 : V 15 = .bool true := HV 15 _ rfl (hW 15 rfl)
    have H := Lib.hid (show ∀ W', Ext W W' → K (fr (upd V 16 (.bool true))) W' from fun W' he => hK _ W' ⟨upd V 16 (.bool true), rfl, HV.up 16 _ (fun x hx => Option.some.inj hx), Ks.ext hB he⟩)
    clear hK hC hW hL HV
    have u15 : (upd V 16 (.bool true)) 15 = .bool true := e15
    have HU := Lib.hid (show (upd V 16 (.bool true)) 15 = .bool true from u15)
    clear u15
    rw [HFR.out]
    rw [e15]
    clear e15
    clear hB
    go_wp2_with fail
    show K _ _
    have := H.out _ (Ext.refl _)
    rw [HFR.out] at this
    obtain u15 := HU.out
    rw [u15] at this
    exact this
  · rintro L A W hL ⟨V, rfl, HV, hB⟩
    have e0 : V 0 = wv a := HV 0 _ rfl (hL 0 (by simp))
    have e1 : V 1 = wv b := HV 1 _ rfl (hL 1 (by simp))
    have e2 : V 2 = .bool nr := HV 2 _ rfl (hL 2 (by simp))
    have e3 : V 3 = wv a := HV 3 _ rfl (hL 3 (by simp))
    have e4 : V 4 = wv b := HV 4 _ rfl (hL 4 (by simp))
    have e5 : V 5 = .bool nr := HV 5 _ rfl (hL 5 (by simp))
    have e6 : V 6 = .bool true := HV 6 _ rfl (hL 6 (by simp))
    have e7 : V 7 = .bool true := HV 7 _ rfl (hL 7 (by simp))
    have e8 : V 8 = wv b := HV 8 _ rfl (hL 8 (by simp))
    have e9 : V 9 = wv a := HV 9 _ rfl (hL 9 (by simp))
    have e10 : V 10 = .bool bk := HV 10 _ rfl (hL 10 (by simp))
    have e11 : V 11 = wv b := HV 11 _ rfl (hL 11 (by simp))
    have e12 : V 12 = wv a := HV 12 _ rfl (hL 12 (by simp))
    have e13 : V 13 = .bool bk := HV 13 _ rfl (hL 13 (by simp))
    have e14 : V 14 = .bool true := HV 14 _ rfl (hL 14 (by simp))
    have e15 : V 15 = .bool true := HV 15 _ rfl (hL 15 (by simp))
    have e16 : V 16 = .bool true := HV 16 _ rfl (hL 16 (by simp))
    rw [HFR.out]
    rw [e0, e1, e2, e3, e4, e5, e6, e7, e8, e9, e10, e11, e12, e13, e14, e15, e16]
    clear hL HV HFR e0 e1 e2 e3 e4 e5 e6 e7 e8 e9 e10 e11 e12 e13 e14 e15 e16
    go_wp2_with fail
    go_ret
    exact ⟨rfl, hB.2⟩

set_option maxRecDepth 100000 in
theorem nears_told (W : World) (args : Array Value) (h : Told Try.f10 W args) : Calls Try.prog 10 args W (RetT W) := by
  obtain ⟨H, enc, base, ds, p, hval, hA⟩ := h
  rw [Try.params10] at hA hval
  obtain ⟨v0, v1, d0, d1, p0, p1, ha, rfl, rfl, h0, h1⟩ := trodAll_two hA
  obtain rfl : args = #[v0, v1] := by apply Array.toList_inj.1; rw [ha]
  obtain ⟨a, hx, rfl⟩ := word_came (hval 0 _ _ rfl rfl) h0
  obtain ⟨b, hy, rfl⟩ := word_came (hval 1 _ _ rfl rfl) h1
  exact nears_any a b W hx hy

set_option maxRecDepth 100000 in
theorem nears_spec (H : Type) : ∀ ds : List (DataW H), ds.length = Try.f10.params.toList.length → Rows.addrNearsSpec.fn H ds = { results := [.lit (.bool true)], args := ds }
  | [_, _], _ => rfl
  | [], h | [_], h | _ :: _ :: _ :: _, h => by rw [Try.params10] at h; simp at h

set_option maxRecDepth 100000 in
theorem addrNears_holds : Rows.AddrNearsSaid :=
  OpenClaim.holds_of_wide 10 Try.f10 rfl rfl rfl rfl rfl rfl rfl ⟨rfl, rfl, rfl, rfl, rfl⟩ rfl rfl rfl rfl rfl (by kernel_rfl) Try.func10 (by kernel_rfl)
    (of_decide_eq_true (by kernel_rfl)) (by unfold Func.isWrapper; first | (rw [if_pos (by decide +kernel)]; kernel_rfl) | (rw [if_neg (by decide +kernel)]; exact ⟨rfl, rfl⟩))
    (fun os started H enc _ => law_lifted started (by kernel_rfl) Try.func10 rfl rfl (nears_spec H) (of_decide_eq_true (by kernel_rfl))
      (ChangeSpec.witness6 (enc := enc) (C := Try.checked) false ⟨#[], #[.agg #[.int .u64 0, .int .u64 0, .int .u64 0, .int .u64 0], .agg #[.int .u64 0, .int .u64 0, .int .u64 0, .int .u64 0]], []⟩ 8 (by kernel_rfl) (by kernel_rfl) (by kernel_rfl) (by kernel_rfl)) nears_told)
end Go.Proofs.Ytdkjpoodfkkmlaa
