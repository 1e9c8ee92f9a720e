/- AddrTells: words, bytes, and which addresses are kept. -/
import Derived.Test.YtdkjpoodfkkmlaaAdg
import Derived.Test.YtdkjpoodfkkmlaaLbe
namespace Go.Proofs.Ytdkjpoodfkkmlaa
open Go.ChangeShapes Go.WideShapes Go.ChangeAt Go.RowKit

set_option maxRecDepth 100000 in
set_option maxHeartbeats 8000000 in
theorem tells_any (a n : Nat) (v : Value) (l : List UInt8) (w : World) (ha : a < 18446744073709551616) (hl : Bs w v l) : Calls Try.prog 9 #[.int .u64 (a : Int), wv n, v] w (RetT w) := by
  have HS : Ks w [(w.heap.size, n)] (w.alloc (.cells (wc n) 46)) :=
    ⟨fun x hx => by
      simp only [List.mem_cons, List.not_mem_nil, or_false] at hx
      subst hx
      exact Cs.new _ _ _ _ rfl, (Ext.refl w).alloc _⟩
  have HL := Lib.hid hl
  have HA := Lib.hid (show a < M256 by unfold M256; omega)
  have HW1 := Lib.hid (fun W => adrWord_any a W ha)
  have HW2 := Lib.hid (fun W => refAdrWord_any a W ha)
  have HOF := Lib.hid (fun W => adrOf_any n W)
  have HB1 := Lib.hid (fun W => adrBytes_any a W ha)
  have HB2 := Lib.hid (fun W => refAdrBytes_any a W)
  obtain ⟨kb, hkb⟩ : ∃ kb, decide (a < 16) = kb := ⟨_, rfl⟩
  have HKP := Lib.hid (fun W => (adrKept_any a W).mono fun e w' (h : e = .returned (.bool (decide (a < 16))) ∧ W = w') => (show e = .returned (.bool kb) ∧ Ext W w' from ⟨by rw [h.1, hkb], h.2 ▸ Ext.refl _⟩))
  have HKB := Lib.hid (show decide ((a : Int) < 16) = kb by rw [← hkb, decide_eq_decide]; omega)
  obtain ⟨A0, c0, rfl, hl1, hl2, _⟩ := id hl
  unfold maxLen at hl2
  clear hl hkb ha
  unfold wv
  go_enter Try.func9, Try.ntmps9
  go_wp2_with fail
  refine (adrWakes_any _).mono ?_
  rintro e w1 ⟨rfl, he⟩
  have HS := HS.ext he
  clear he
  go_upto_region 3 with fail
  refine wp_named fun a0 ha0 => ?_
  obtain ⟨fr, hfr⟩ : ∃ fr : (Nat → Value) → Act, ∀ V, fr V = (((((((((((((((((((((((((((a0.put (some 11) (V 0)).put (some 12) (V 1)).put (some 13) (V 2)).put (some 14) (V 3)).put (some 15) (V 4)).put (some 16) (V 5)).put (some 17) (V 6)).put (some 18) (V 7)).put (some 19) (V 8)).put (some 20) (V 9)).put (some 21) (V 10)).put (some 22) (V 11)).put (some 23) (V 12)).put (some 24) (V 13)).put (some 25) (V 14)).put (some 26) (V 15)).put (some 27) (V 16)).put (some 28) (V 17)).put (some 29) (V 18)).put (some 30) (V 19)).put (some 31) (V 20)).put (some 32) (V 21)).put (some 33) (V 22)).put (some 34) (V 23)).put (some 35) (V 24)).put (some 36) (V 25)).put (some 37) (V 26)) := ⟨fun V => (((((((((((((((((((((((((((a0.put (some 11) (V 0)).put (some 12) (V 1)).put (some 13) (V 2)).put (some 14) (V 3)).put (some 15) (V 4)).put (some 16) (V 5)).put (some 17) (V 6)).put (some 18) (V 7)).put (some 19) (V 8)).put (some 20) (V 9)).put (some 21) (V 10)).put (some 22) (V 11)).put (some 23) (V 12)).put (some 24) (V 13)).put (some 25) (V 14)).put (some 26) (V 15)).put (some 27) (V 16)).put (some 28) (V 17)).put (some 29) (V 18)).put (some 30) (V 19)).put (some 31) (V 20)).put (some 32) (V 21)).put (some 33) (V 22)).put (some 34) (V 23)).put (some 35) (V 24)).put (some 36) (V 25)).put (some 37) (V 26)), fun _ => rfl⟩
  rw [ha0] at hfr
  simp only [Act.put, List.setIfInBounds_toArray, List.set_cons_zero, List.set_cons_succ] at hfr
  have HFR := Lib.hid hfr
  clear hfr
  refine wp_region_inv (by kernel_rfl) (by kernel_rfl) (fun L A W => ∃ V : Nat → Value, A = fr V ∧ Ks w [(w.heap.size, n)] W ∧ Vals (fun j => ([some (.int .u64 (a : Int)), some (wv a), some (.int .u64 (a : Int)), some (wv a), some (.bool false), some (.bool false), some (wv (n)), some (.int .u64 (lb n 0 : Nat)), some (.pointer (some ⟨w.heap.size, 0, none⟩)), some (.int .u64 (lb n 0 : Nat)), some (.bool false), some (.bool false), some (.bool false), some (.int .u64 (a : Int)), none, some (.int .u64 (a : Int)), none, some (.bool true), some (.bool false), some (.bool false), some (.bool false), some (.int .u64 (a : Int)), some (.bool kb), some (.int .u64 (a : Int)), some (.bool kb), some (.bool false), some (.bool false)] : List (Option Value)).getD j none) L V ∧ Bs W (.slice A0 l.length c0) l ∧ (L 14 = true → Bs W (V 14) (hi8 a)) ∧ (L 16 = true → Bs W (V 16) (hi8 a))) ?_ ⟨?_, ?_, ?_, ?_, ?_, ?_, ?_, ?_, ?_, ?_, ?_, ?_, ?_, ?_, ?_, ?_, ?_, ?_, ?_, ?_, ?_, ?_, ?_, ?_, ?_, ?_, ?_, trivial⟩ ?_
  · refine ⟨fun j => a0.tmps.getD (([11, 12, 13, 14, 15, 16, 17, 18, 19, 20, 21, 22, 23, 24, 25, 26, 27, 28, 29, 30, 31, 32, 33, 34, 35, 36, 37] : List Nat).getD j 0) undef, ?_, HS.drew, Vals.no _ _ _ (far_none _ _ rfl), Bs.ext (HL.out.ext HS.2) (Ext.refl _).drew, fun h => absurd h (by decide), fun h => absurd h (by decide)⟩
    rw [HFR.out, ha0]
    rfl
  all_goals clear ha0
  · rintro L A W K hL hC hW ⟨V, rfl, HS, HV, x0, f14, f16⟩ hK
    have H := Lib.hid (show ∀ W', Ext W W' → K (fr (upd V 0 (.int .u64 (a : Int)))) W' from fun W' he => hK _ _ ⟨upd V 0 (.int .u64 (a : Int)), rfl, HS.ext he, HV.up 0 _ (fun x hx => Option.some.inj hx), Bs.ext x0 he, fun h => Bs.ext (f14 (more_ne h rfl)) he, fun h => Bs.ext (f16 (more_ne h rfl)) he⟩)
    clear hK hC hW hL HV f14 f16
    rw [HFR.out]
    go_wp2_with fail
    show K _ _
    have := H.out _ (Ext.refl _)
    rw [HFR.out] at this
    exact this
  · rintro L A W K hL hC hW ⟨V, rfl, HS, HV, x0, f14, f16⟩ hK
    have e0 : V 0 = .int .u64 (a : Int) := HV 0 _ rfl (hW 0 rfl)
    have u0 : (upd V 1 (wv a)) 0 = .int .u64 (a : Int) := e0
    have HU := Lib.hid (show (upd V 1 (wv a)) 0 = .int .u64 (a : Int) from u0)
    clear u0
    have H := Lib.hid (show ∀ W', Ext W W' → K (fr (upd V 1 (wv a))) W' from fun W' he => hK _ _ ⟨upd V 1 (wv a), rfl, HS.ext he, HV.up 1 _ (fun x hx => Option.some.inj hx), Bs.ext x0 he, fun h => Bs.ext (f14 (more_ne h rfl)) he, fun h => Bs.ext (f16 (more_ne h rfl)) he⟩)
    clear hK hC hW hL HV f14 f16
    rw [HFR.out]
    rw [e0]
    clear e0
    go_wp2_with fail
    refine (HW1.out _).mono ?_
    rintro e wx ⟨rfl, he⟩
    have := H.out _ he
    clear H
    go_wp2_with fail
    show K _ _
    rw [HFR.out] at this
    obtain u0 := HU.out
    rw [u0] at this
    exact this
  · rintro L A W K hL hC hW ⟨V, rfl, HS, HV, x0, f14, f16⟩ hK
    have H := Lib.hid (show ∀ W', Ext W W' → K (fr (upd V 2 (.int .u64 (a : Int)))) W' from fun W' he => hK _ _ ⟨upd V 2 (.int .u64 (a : Int)), rfl, HS.ext he, HV.up 2 _ (fun x hx => Option.some.inj hx), Bs.ext x0 he, fun h => Bs.ext (f14 (more_ne h rfl)) he, fun h => Bs.ext (f16 (more_ne h rfl)) he⟩)
    clear hK hC hW hL HV f14 f16
    rw [HFR.out]
    go_wp2_with fail
    show K _ _
    have := H.out _ (Ext.refl _)
    rw [HFR.out] at this
    exact this
  · rintro L A W K hL hC hW ⟨V, rfl, HS, HV, x0, f14, f16⟩ hK
    have e2 : V 2 = .int .u64 (a : Int) := HV 2 _ rfl (hW 2 rfl)
    have u2 : (upd V 3 (wv a)) 2 = .int .u64 (a : Int) := e2
    have HU := Lib.hid (show (upd V 3 (wv a)) 2 = .int .u64 (a : Int) from u2)
    clear u2
    have H := Lib.hid (show ∀ W', Ext W W' → K (fr (upd V 3 (wv a))) W' from fun W' he => hK _ _ ⟨upd V 3 (wv a), rfl, HS.ext he, HV.up 3 _ (fun x hx => Option.some.inj hx), Bs.ext x0 he, fun h => Bs.ext (f14 (more_ne h rfl)) he, fun h => Bs.ext (f16 (more_ne h rfl)) he⟩)
    clear hK hC hW hL HV f14 f16
    rw [HFR.out]
    rw [e2]
    clear e2
    go_wp2_with fail
    refine (HW2.out _).mono ?_
    rintro e wx ⟨rfl, he⟩
    have := H.out _ he
    clear H
    go_wp2_with fail
    show K _ _
    rw [HFR.out] at this
    obtain u2 := HU.out
    rw [u2] at this
    exact this
  · rintro L A W K hL hC hW ⟨V, rfl, HS, HV, x0, f14, f16⟩ hK
    have e1 : V 1 = wv a := HV 1 _ rfl (hW 1 rfl)
    have e3 : V 3 = wv a := HV 3 _ rfl (hW 3 rfl)
    have u1 : (upd V 4 (.bool false)) 1 = wv a := e1
    have u3 : (upd V 4 (.bool false)) 3 = wv a := e3
    have HU := Lib.hid (show (upd V 4 (.bool false)) 1 = wv a ∧ (upd V 4 (.bool false)) 3 = wv a from ⟨u1, u3⟩)
    clear u1 u3
    have H := Lib.hid (show ∀ W', Ext W W' → K (fr (upd V 4 (.bool false))) W' from fun W' he => hK _ _ ⟨upd V 4 (.bool false), rfl, HS.ext he, HV.up 4 _ (fun x hx => Option.some.inj hx), Bs.ext x0 he, fun h => Bs.ext (f14 (more_ne h rfl)) he, fun h => Bs.ext (f16 (more_ne h rfl)) he⟩)
    clear hK hC hW hL HV f14 f16
    rw [HFR.out]
    rw [e1, e3]
    clear e1 e3
    refine wpList_neq_word rfl (.tmp 12) (.tmp 14) rfl (a) (a) (HA.out) (HA.out) rfl rfl ?_
    rw [show ((a) != (a)) = false from bne_self_eq_false a]
    show K _ _
    have := H.out _ (Ext.refl _)
    rw [HFR.out] at this
    obtain ⟨u1, u3⟩ := HU.out
    rw [u1, u3] at this
    exact this
  · rintro L A W K hL hC hW ⟨V, rfl, HS, HV, x0, f14, f16⟩ hK
    have e4 : V 4 = .bool false := HV 4 _ rfl (hW 4 rfl)
    have u4 : (upd V 5 (.bool false)) 4 = .bool false := e4
    have HU := Lib.hid (show (upd V 5 (.bool false)) 4 = .bool false from u4)
    clear u4
    have H := Lib.hid (show ∀ W', Ext W W' → K (fr (upd V 5 (.bool false))) W' from fun W' he => hK _ _ ⟨upd V 5 (.bool false), rfl, HS.ext he, HV.up 5 _ (fun x hx => Option.some.inj hx), Bs.ext x0 he, fun h => Bs.ext (f14 (more_ne h rfl)) he, fun h => Bs.ext (f16 (more_ne h rfl)) he⟩)
    clear hK hC hW hL HV f14 f16
    rw [HFR.out]
    rw [e4]
    clear e4
    go_wp2_with fail
    show K _ _
    have := H.out _ (Ext.refl _)
    rw [HFR.out] at this
    obtain u4 := HU.out
    rw [u4] at this
    exact this
  · rintro L A W K hL hC hW ⟨V, rfl, HS, HV, x0, f14, f16⟩ hK
    have e5 : V 5 = .bool false := HV 5 _ rfl (hW 5 rfl)
    have u5 : (upd V 6 (wv (n))) 5 = .bool false := e5
    have HU := Lib.hid (show (upd V 6 (wv (n))) 5 = .bool false from u5)
    clear u5
    have H := Lib.hid (show ∀ W', Ext W W' → K (fr (upd V 6 (wv (n)))) W' from fun W' he => hK _ _ ⟨upd V 6 (wv (n)), rfl, HS.ext he, HV.up 6 _ (fun x hx => Option.some.inj hx), Bs.ext x0 he, fun h => Bs.ext (f14 (more_ne h rfl)) he, fun h => Bs.ext (f16 (more_ne h rfl)) he⟩)
    clear hK hC hW hL HV f14 f16
    rw [HFR.out]
    rw [e5]
    clear e5
    refine wpList_load_wordG rfl 46 44 (.tmp 4) rfl Try.underlying46 winfo (w.heap.size) (n) rfl (HS.at (w.heap.size) (n) (by simp)) ?_
    show K _ _
    have := H.out _ (Ext.refl _)
    rw [HFR.out] at this
    obtain u5 := HU.out
    rw [u5] at this
    exact this
  · rintro L A W K hL hC hW ⟨V, rfl, HS, HV, x0, f14, f16⟩ hK
    have e5 : V 5 = .bool false := HV 5 _ rfl (hW 5 rfl)
    have e6 : V 6 = wv (n) := HV 6 _ rfl (hW 6 rfl)
    have u5 : (upd V 7 (.int .u64 (lb n 0 : Nat))) 5 = .bool false := e5
    have u6 : (upd V 7 (.int .u64 (lb n 0 : Nat))) 6 = wv (n) := e6
    have HU := Lib.hid (show (upd V 7 (.int .u64 (lb n 0 : Nat))) 5 = .bool false ∧ (upd V 7 (.int .u64 (lb n 0 : Nat))) 6 = wv (n) from ⟨u5, u6⟩)
    clear u5 u6
    have H := Lib.hid (show ∀ W', Ext W W' → K (fr (upd V 7 (.int .u64 (lb n 0 : Nat)))) W' from fun W' he => hK _ _ ⟨upd V 7 (.int .u64 (lb n 0 : Nat)), rfl, HS.ext he, HV.up 7 _ (fun x hx => Option.some.inj hx), Bs.ext x0 he, fun h => Bs.ext (f14 (more_ne h rfl)) he, fun h => Bs.ext (f16 (more_ne h rfl)) he⟩)
    clear hK hC hW hL HV f14 f16
    rw [HFR.out]
    rw [e5, e6]
    clear e5 e6
    go_wp2_with fail
    refine (HOF.out _).mono ?_
    rintro e wx ⟨rfl, he⟩
    have := H.out _ he
    clear H
    go_wp2_with fail
    show K _ _
    rw [HFR.out] at this
    obtain ⟨u5, u6⟩ := HU.out
    rw [u5, u6] at this
    exact this
  · rintro L A W K hL hC hW ⟨V, rfl, HS, HV, x0, f14, f16⟩ hK
    have e5 : V 5 = .bool false := HV 5 _ rfl (hW 5 rfl)
    have u5 : (upd V 8 (.pointer (some ⟨w.heap.size, 0, none⟩))) 5 = .bool false := e5
    have HU := Lib.hid (show (upd V 8 (.pointer (some ⟨w.heap.size, 0, none⟩))) 5 = .bool false from u5)
    clear u5
    have H := Lib.hid (show ∀ W', Ext W W' → K (fr (upd V 8 (.pointer (some ⟨w.heap.size, 0, none⟩)))) W' from fun W' he => hK _ _ ⟨upd V 8 (.pointer (some ⟨w.heap.size, 0, none⟩)), rfl, HS.ext he, HV.up 8 _ (fun x hx => Option.some.inj hx), Bs.ext x0 he, fun h => Bs.ext (f14 (more_ne h rfl)) he, fun h => Bs.ext (f16 (more_ne h rfl)) he⟩)
    clear hK hC hW hL HV f14 f16
    rw [HFR.out]
    rw [e5]
    clear e5
    go_wp2_with fail
    show K _ _
    have := H.out _ (Ext.refl _)
    rw [HFR.out] at this
    obtain u5 := HU.out
    rw [u5] at this
    exact this
  · rintro L A W K hL hC hW ⟨V, rfl, HS, HV, x0, f14, f16⟩ hK
    have e5 : V 5 = .bool false := HV 5 _ rfl (hW 5 rfl)
    have e8 : V 8 = .pointer (some ⟨w.heap.size, 0, none⟩) := HV 8 _ rfl (hW 8 rfl)
    have u5 : (upd V 9 (.int .u64 (lb n 0 : Nat))) 5 = .bool false := e5
    have u8 : (upd V 9 (.int .u64 (lb n 0 : Nat))) 8 = .pointer (some ⟨w.heap.size, 0, none⟩) := e8
    have HU := Lib.hid (show (upd V 9 (.int .u64 (lb n 0 : Nat))) 5 = .bool false ∧ (upd V 9 (.int .u64 (lb n 0 : Nat))) 8 = .pointer (some ⟨w.heap.size, 0, none⟩) from ⟨u5, u8⟩)
    clear u5 u8
    have H := Lib.hid (show ∀ W', Ext W W' → K (fr (upd V 9 (.int .u64 (lb n 0 : Nat)))) W' from fun W' he => hK _ _ ⟨upd V 9 (.int .u64 (lb n 0 : Nat)), rfl, HS.ext he, HV.up 9 _ (fun x hx => Option.some.inj hx), Bs.ext x0 he, fun h => Bs.ext (f14 (more_ne h rfl)) he, fun h => Bs.ext (f16 (more_ne h rfl)) he⟩)
    clear hK hC hW hL HV f14 f16
    rw [HFR.out]
    rw [e5, e8]
    clear e5 e8
    have c0 := (HS.at w.heap.size n (by simp)).cell 0 (by omega)
    go_wp2_with fail
    show K _ _
    have := H.out _ (Ext.refl _)
    rw [HFR.out] at this
    obtain ⟨u5, u8⟩ := HU.out
    rw [u5, u8] at this
    exact this
  · rintro L A W K hL hC hW ⟨V, rfl, HS, HV, x0, f14, f16⟩ hK
    have e5 : V 5 = .bool false := HV 5 _ rfl (hW 5 rfl)
    have e7 : V 7 = .int .u64 (lb n 0 : Nat) := HV 7 _ rfl (hW 7 rfl)
    have e9 : V 9 = .int .u64 (lb n 0 : Nat) := HV 9 _ rfl (hW 9 rfl)
    have u5 : (upd V 10 (.bool false)) 5 = .bool false := e5
    have u7 : (upd V 10 (.bool false)) 7 = .int .u64 (lb n 0 : Nat) := e7
    have u9 : (upd V 10 (.bool false)) 9 = .int .u64 (lb n 0 : Nat) := e9
    have HU := Lib.hid (show (upd V 10 (.bool false)) 5 = .bool false ∧ (upd V 10 (.bool false)) 7 = .int .u64 (lb n 0 : Nat) ∧ (upd V 10 (.bool false)) 9 = .int .u64 (lb n 0 : Nat) from ⟨u5, u7, u9⟩)
    clear u5 u7 u9
    have H := Lib.hid (show ∀ W', Ext W W' → K (fr (upd V 10 (.bool false))) W' from fun W' he => hK _ _ ⟨upd V 10 (.bool false), rfl, HS.ext he, HV.up 10 _ (fun x hx => Option.some.inj hx), Bs.ext x0 he, fun h => Bs.ext (f14 (more_ne h rfl)) he, fun h => Bs.ext (f16 (more_ne h rfl)) he⟩)
    clear hK hC hW hL HV f14 f16
    rw [HFR.out]
    rw [e5, e7, e9]
    clear e5 e7 e9
    go_wp2_with fail
    show K _ _
    have := H.out _ (Ext.refl _)
    rw [HFR.out] at this
    obtain ⟨u5, u7, u9⟩ := HU.out
    rw [u5, u7, u9] at this
    exact this
  · rintro L A W K hL hC hW ⟨V, rfl, HS, HV, x0, f14, f16⟩ hK
    have e5 : V 5 = .bool false := HV 5 _ rfl (hW 5 rfl)
    have e10 : V 10 = .bool false := HV 10 _ rfl (hW 10 rfl)
    have u5 : (upd V 11 (.bool false)) 5 = .bool false := e5
    have u10 : (upd V 11 (.bool false)) 10 = .bool false := e10
    have HU := Lib.hid (show (upd V 11 (.bool false)) 5 = .bool false ∧ (upd V 11 (.bool false)) 10 = .bool false from ⟨u5, u10⟩)
    clear u5 u10
    have H := Lib.hid (show ∀ W', Ext W W' → K (fr (upd V 11 (.bool false))) W' from fun W' he => hK _ _ ⟨upd V 11 (.bool false), rfl, HS.ext he, HV.up 11 _ (fun x hx => Option.some.inj hx), Bs.ext x0 he, fun h => Bs.ext (f14 (more_ne h rfl)) he, fun h => Bs.ext (f16 (more_ne h rfl)) he⟩)
    clear hK hC hW hL HV f14 f16
    rw [HFR.out]
    rw [e5, e10]
    clear e5 e10
    go_wp2_with fail
    show K _ _
    have := H.out _ (Ext.refl _)
    rw [HFR.out] at this
    obtain ⟨u5, u10⟩ := HU.out
    rw [u5, u10] at this
    exact this
  · rintro L A W K hL hC hW ⟨V, rfl, HS, HV, x0, f14, f16⟩ hK
    have e11 : V 11 = .bool false := HV 11 _ rfl (hW 11 rfl)
    have u11 : (upd V 12 (.bool false)) 11 = .bool false := e11
    have HU := Lib.hid (show (upd V 12 (.bool false)) 11 = .bool false from u11)
    clear u11
    have H := Lib.hid (show ∀ W', Ext W W' → K (fr (upd V 12 (.bool false))) W' from fun W' he => hK _ _ ⟨upd V 12 (.bool false), rfl, HS.ext he, HV.up 12 _ (fun x hx => Option.some.inj hx), Bs.ext x0 he, fun h => Bs.ext (f14 (more_ne h rfl)) he, fun h => Bs.ext (f16 (more_ne h rfl)) he⟩)
    clear hK hC hW hL HV f14 f16
    rw [HFR.out]
    rw [e11]
    clear e11
    go_wp2_with fail
    show K _ _
    have := H.out _ (Ext.refl _)
    rw [HFR.out] at this
    obtain u11 := HU.out
    rw [u11] at this
    exact this
  · rintro L A W K hL hC hW ⟨V, rfl, HS, HV, x0, f14, f16⟩ hK
    have e12 : V 12 = .bool false := HV 12 _ rfl (hW 12 rfl)
    have u12 : (upd V 13 (.int .u64 (a : Int))) 12 = .bool false := e12
    have HU := Lib.hid (show (upd V 13 (.int .u64 (a : Int))) 12 = .bool false from u12)
    clear u12
    have H := Lib.hid (show ∀ W', Ext W W' → K (fr (upd V 13 (.int .u64 (a : Int)))) W' from fun W' he => hK _ _ ⟨upd V 13 (.int .u64 (a : Int)), rfl, HS.ext he, HV.up 13 _ (fun x hx => Option.some.inj hx), Bs.ext x0 he, fun h => Bs.ext (f14 (more_ne h rfl)) he, fun h => Bs.ext (f16 (more_ne h rfl)) he⟩)
    clear hK hC hW hL HV f14 f16
    rw [HFR.out]
    rw [e12]
    clear e12
    go_wp2_with fail
    show K _ _
    have := H.out _ (Ext.refl _)
    rw [HFR.out] at this
    obtain u12 := HU.out
    rw [u12] at this
    exact this
  · rintro L A W K hL hC hW ⟨V, rfl, HS, HV, x0, f14, f16⟩ hK
    have e12 : V 12 = .bool false := HV 12 _ rfl (hW 12 rfl)
    have e13 : V 13 = .int .u64 (a : Int) := HV 13 _ rfl (hW 13 rfl)
    have H := Lib.hid (show ∀ v W', Ext W W' → Bs W' v (hi8 a) → K (fr (upd V 14 v)) W' from fun v W' he hp => hK _ _ ⟨upd V 14 v, rfl, HS.ext he, HV.up 14 _ (fun x hx => absurd hx (by intro h; cases h)), Bs.ext x0 he, fun _ => hp, fun h => Bs.ext (f16 (more_ne h rfl)) he⟩)
    have HU := Lib.hid (show ∀ v, (upd V 14 v) 12 = .bool false ∧ (upd V 14 v) 13 = .int .u64 (a : Int) from fun v => ⟨e12, e13⟩)
    clear hK hC hW hL HV f14 f16
    rw [HFR.out]
    rw [e12, e13]
    clear e12 e13
    go_wp2_with fail
    refine (HB1.out _).mono ?_
    rintro e wx ⟨vx, rfl, ho, he⟩
    have := H.out _ _ he (ho.bs)
    clear H
    go_wp2_with fail
    show K _ _
    rw [HFR.out] at this
    obtain ⟨u12, u13⟩ := HU.out _
    rw [u12, u13] at this
    exact this
  · rintro L A W K hL hC hW ⟨V, rfl, HS, HV, x0, f14, f16⟩ hK
    have e12 : V 12 = .bool false := HV 12 _ rfl (hW 12 rfl)
    have u12 : (upd V 15 (.int .u64 (a : Int))) 12 = .bool false := e12
    have HU := Lib.hid (show (upd V 15 (.int .u64 (a : Int))) 12 = .bool false from u12)
    clear u12
    have H := Lib.hid (show ∀ W', Ext W W' → K (fr (upd V 15 (.int .u64 (a : Int)))) W' from fun W' he => hK _ _ ⟨upd V 15 (.int .u64 (a : Int)), rfl, HS.ext he, HV.up 15 _ (fun x hx => Option.some.inj hx), Bs.ext x0 he, fun h => Bs.ext (f14 (more_ne h rfl)) he, fun h => Bs.ext (f16 (more_ne h rfl)) he⟩)
    clear hK hC hW hL HV f14 f16
    rw [HFR.out]
    rw [e12]
    clear e12
    go_wp2_with fail
    show K _ _
    have := H.out _ (Ext.refl _)
    rw [HFR.out] at this
    obtain u12 := HU.out
    rw [u12] at this
    exact this
  · rintro L A W K hL hC hW ⟨V, rfl, HS, HV, x0, f14, f16⟩ hK
    have e12 : V 12 = .bool false := HV 12 _ rfl (hW 12 rfl)
    have e15 : V 15 = .int .u64 (a : Int) := HV 15 _ rfl (hW 15 rfl)
    have H := Lib.hid (show ∀ v W', Ext W W' → Bs W' v (hi8 a) → K (fr (upd V 16 v)) W' from fun v W' he hp => hK _ _ ⟨upd V 16 v, rfl, HS.ext he, HV.up 16 _ (fun x hx => absurd hx (by intro h; cases h)), Bs.ext x0 he, fun h => Bs.ext (f14 (more_ne h rfl)) he, fun _ => hp⟩)
    have HU := Lib.hid (show ∀ v, (upd V 16 v) 12 = .bool false ∧ (upd V 16 v) 15 = .int .u64 (a : Int) from fun v => ⟨e12, e15⟩)
    clear hK hC hW hL HV f14 f16
    rw [HFR.out]
    rw [e12, e15]
    clear e12 e15
    go_wp2_with fail
    refine (HB2.out _).mono ?_
    rintro e wx ⟨vx, rfl, ho, he⟩
    have := H.out _ _ he (ho.bs)
    clear H
    go_wp2_with fail
    show K _ _
    rw [HFR.out] at this
    obtain ⟨u12, u15⟩ := HU.out _
    rw [u12, u15] at this
    exact this
  · rintro L A W K hL hC hW ⟨V, rfl, HS, HV, x0, f14, f16⟩ hK
    have e12 : V 12 = .bool false := HV 12 _ rfl (hW 12 rfl)
    have u12 : (upd V 17 (.bool true)) 12 = .bool false := e12
    have b1 := f14 (hW 14 rfl)
    have b2 := f16 (hW 16 rfl)
    have HU := Lib.hid (show (upd V 17 (.bool true)) 12 = .bool false from u12)
    clear u12
    have H := Lib.hid (show ∀ W', Ext W W' → K (fr (upd V 17 (.bool true))) W' from fun W' he => hK _ _ ⟨upd V 17 (.bool true), rfl, HS.ext he, HV.up 17 _ (fun x hx => Option.some.inj hx), Bs.ext x0 he, fun h => Bs.ext (f14 (more_ne h rfl)) he, fun h => Bs.ext (f16 (more_ne h rfl)) he⟩)
    clear hK hC hW hL HV f14 f16
    rw [HFR.out]
    rw [e12]
    clear e12
    go_wp2_with fail
    refine (bytesEqual_same _ _ _ _ b1 b2).mono ?_
    rintro e wx ⟨rfl, he⟩
    have := H.out _ he
    clear H
    go_wp2_with fail
    show K _ _
    rw [HFR.out] at this
    obtain u12 := HU.out
    rw [u12] at this
    exact this
  · rintro L A W K hL hC hW ⟨V, rfl, HS, HV, x0, f14, f16⟩ hK
    have e12 : V 12 = .bool false := HV 12 _ rfl (hW 12 rfl)
    have e17 : V 17 = .bool true := HV 17 _ rfl (hW 17 rfl)
    have u12 : (upd V 18 (.bool false)) 12 = .bool false := e12
    have u17 : (upd V 18 (.bool false)) 17 = .bool true := e17
    have HU := Lib.hid (show (upd V 18 (.bool false)) 12 = .bool false ∧ (upd V 18 (.bool false)) 17 = .bool true from ⟨u12, u17⟩)
    clear u12 u17
    have H := Lib.hid (show ∀ W', Ext W W' → K (fr (upd V 18 (.bool false))) W' from fun W' he => hK _ _ ⟨upd V 18 (.bool false), rfl, HS.ext he, HV.up 18 _ (fun x hx => Option.some.inj hx), Bs.ext x0 he, fun h => Bs.ext (f14 (more_ne h rfl)) he, fun h => Bs.ext (f16 (more_ne h rfl)) he⟩)
    clear hK hC hW hL HV f14 f16
    rw [HFR.out]
    rw [e12, e17]
    clear e12 e17
    go_wp2_with fail
    show K _ _
    have := H.out _ (Ext.refl _)
    rw [HFR.out] at this
    obtain ⟨u12, u17⟩ := HU.out
    rw [u12, u17] at this
    exact this
  · rintro L A W K hL hC hW ⟨V, rfl, HS, HV, x0, f14, f16⟩ hK
    have e12 : V 12 = .bool false := HV 12 _ rfl (hW 12 rfl)
    have e18 : V 18 = .bool false := HV 18 _ rfl (hW 18 rfl)
    have u12 : (upd V 19 (.bool false)) 12 = .bool false := e12
    have u18 : (upd V 19 (.bool false)) 18 = .bool false := e18
    have HU := Lib.hid (show (upd V 19 (.bool false)) 12 = .bool false ∧ (upd V 19 (.bool false)) 18 = .bool false from ⟨u12, u18⟩)
    clear u12 u18
    have H := Lib.hid (show ∀ W', Ext W W' → K (fr (upd V 19 (.bool false))) W' from fun W' he => hK _ _ ⟨upd V 19 (.bool false), rfl, HS.ext he, HV.up 19 _ (fun x hx => Option.some.inj hx), Bs.ext x0 he, fun h => Bs.ext (f14 (more_ne h rfl)) he, fun h => Bs.ext (f16 (more_ne h rfl)) he⟩)
    clear hK hC hW hL HV f14 f16
    rw [HFR.out]
    rw [e12, e18]
    clear e12 e18
    go_wp2_with fail
    show K _ _
    have := H.out _ (Ext.refl _)
    rw [HFR.out] at this
    obtain ⟨u12, u18⟩ := HU.out
    rw [u12, u18] at this
    exact this
  · rintro L A W K hL hC hW ⟨V, rfl, HS, HV, x0, f14, f16⟩ hK
    have e19 : V 19 = .bool false := HV 19 _ rfl (hW 19 rfl)
    have u19 : (upd V 20 (.bool false)) 19 = .bool false := e19
    have HU := Lib.hid (show (upd V 20 (.bool false)) 19 = .bool false from u19)
    clear u19
    have H := Lib.hid (show ∀ W', Ext W W' → K (fr (upd V 20 (.bool false))) W' from fun W' he => hK _ _ ⟨upd V 20 (.bool false), rfl, HS.ext he, HV.up 20 _ (fun x hx => Option.some.inj hx), Bs.ext x0 he, fun h => Bs.ext (f14 (more_ne h rfl)) he, fun h => Bs.ext (f16 (more_ne h rfl)) he⟩)
    clear hK hC hW hL HV f14 f16
    rw [HFR.out]
    rw [e19]
    clear e19
    go_wp2_with fail
    show K _ _
    have := H.out _ (Ext.refl _)
    rw [HFR.out] at this
    obtain u19 := HU.out
    rw [u19] at this
    exact this
  · rintro L A W K hL hC hW ⟨V, rfl, HS, HV, x0, f14, f16⟩ hK
    have e20 : V 20 = .bool false := HV 20 _ rfl (hW 20 rfl)
    have u20 : (upd V 21 (.int .u64 (a : Int))) 20 = .bool false := e20
    have HU := Lib.hid (show (upd V 21 (.int .u64 (a : Int))) 20 = .bool false from u20)
    clear u20
    have H := Lib.hid (show ∀ W', Ext W W' → K (fr (upd V 21 (.int .u64 (a : Int)))) W' from fun W' he => hK _ _ ⟨upd V 21 (.int .u64 (a : Int)), rfl, HS.ext he, HV.up 21 _ (fun x hx => Option.some.inj hx), Bs.ext x0 he, fun h => Bs.ext (f14 (more_ne h rfl)) he, fun h => Bs.ext (f16 (more_ne h rfl)) he⟩)
    clear hK hC hW hL HV f14 f16
    rw [HFR.out]
    rw [e20]
    clear e20
    go_wp2_with fail
    show K _ _
    have := H.out _ (Ext.refl _)
    rw [HFR.out] at this
    obtain u20 := HU.out
    rw [u20] at this
    exact this
  · rintro L A W K hL hC hW ⟨V, rfl, HS, HV, x0, f14, f16⟩ hK
    have e20 : V 20 = .bool false := HV 20 _ rfl (hW 20 rfl)
    have e21 : V 21 = .int .u64 (a : Int) := HV 21 _ rfl (hW 21 rfl)
    have u20 : (upd V 22 (.bool kb)) 20 = .bool false := e20
    have u21 : (upd V 22 (.bool kb)) 21 = .int .u64 (a : Int) := e21
    have HU := Lib.hid (show (upd V 22 (.bool kb)) 20 = .bool false ∧ (upd V 22 (.bool kb)) 21 = .int .u64 (a : Int) from ⟨u20, u21⟩)
    clear u20 u21
    have H := Lib.hid (show ∀ W', Ext W W' → K (fr (upd V 22 (.bool kb))) W' from fun W' he => hK _ _ ⟨upd V 22 (.bool kb), rfl, HS.ext he, HV.up 22 _ (fun x hx => Option.some.inj hx), Bs.ext x0 he, fun h => Bs.ext (f14 (more_ne h rfl)) he, fun h => Bs.ext (f16 (more_ne h rfl)) he⟩)
    clear hK hC hW hL HV f14 f16
    rw [HFR.out]
    rw [e20, e21]
    clear e20 e21
    go_wp2_with fail
    refine (HKP.out _).mono ?_
    rintro e wx ⟨rfl, he⟩
    have := H.out _ he
    clear H
    go_wp2_with fail
    show K _ _
    rw [HFR.out] at this
    obtain ⟨u20, u21⟩ := HU.out
    rw [u20, u21] at this
    exact this
  · rintro L A W K hL hC hW ⟨V, rfl, HS, HV, x0, f14, f16⟩ hK
    have e20 : V 20 = .bool false := HV 20 _ rfl (hW 20 rfl)
    have u20 : (upd V 23 (.int .u64 (a : Int))) 20 = .bool false := e20
    have HU := Lib.hid (show (upd V 23 (.int .u64 (a : Int))) 20 = .bool false from u20)
    clear u20
    have H := Lib.hid (show ∀ W', Ext W W' → K (fr (upd V 23 (.int .u64 (a : Int)))) W' from fun W' he => hK _ _ ⟨upd V 23 (.int .u64 (a : Int)), rfl, HS.ext he, HV.up 23 _ (fun x hx => Option.some.inj hx), Bs.ext x0 he, fun h => Bs.ext (f14 (more_ne h rfl)) he, fun h => Bs.ext (f16 (more_ne h rfl)) he⟩)
    clear hK hC hW hL HV f14 f16
    rw [HFR.out]
    rw [e20]
    clear e20
    go_wp2_with fail
    show K _ _
    have := H.out _ (Ext.refl _)
    rw [HFR.out] at this
    obtain u20 := HU.out
    rw [u20] at this
    exact this
  · rintro L A W K hL hC hW ⟨V, rfl, HS, HV, x0, f14, f16⟩ hK
    have e20 : V 20 = .bool false := HV 20 _ rfl (hW 20 rfl)
    have e23 : V 23 = .int .u64 (a : Int) := HV 23 _ rfl (hW 23 rfl)
    have u20 : (upd V 24 (.bool kb)) 20 = .bool false := e20
    have u23 : (upd V 24 (.bool kb)) 23 = .int .u64 (a : Int) := e23
    have HU := Lib.hid (show (upd V 24 (.bool kb)) 20 = .bool false ∧ (upd V 24 (.bool kb)) 23 = .int .u64 (a : Int) from ⟨u20, u23⟩)
    clear u20 u23
    have H := Lib.hid (show ∀ W', Ext W W' → K (fr (upd V 24 (.bool kb))) W' from fun W' he => hK _ _ ⟨upd V 24 (.bool kb), rfl, HS.ext he, HV.up 24 _ (fun x hx => Option.some.inj hx), Bs.ext x0 he, fun h => Bs.ext (f14 (more_ne h rfl)) he, fun h => Bs.ext (f16 (more_ne h rfl)) he⟩)
    clear hK hC hW hL HV f14 f16
    rw [HFR.out]
    rw [e20, e23]
    clear e20 e23
    have hk0 := HKB.out
    go_wp2_with fail
    show K _ _
    have := H.out _ (Ext.refl _)
    rw [HFR.out] at this
    obtain ⟨u20, u23⟩ := HU.out
    rw [u20, u23] at this
    exact this
  · rintro L A W K hL hC hW ⟨V, rfl, HS, HV, x0, f14, f16⟩ hK
    have e20 : V 20 = .bool false := HV 20 _ rfl (hW 20 rfl)
    have e22 : V 22 = .bool kb := HV 22 _ rfl (hW 22 rfl)
    have e24 : V 24 = .bool kb := HV 24 _ rfl (hW 24 rfl)
    have u20 : (upd V 25 (.bool false)) 20 = .bool false := e20
    have u22 : (upd V 25 (.bool false)) 22 = .bool kb := e22
    have u24 : (upd V 25 (.bool false)) 24 = .bool kb := e24
    have HU := Lib.hid (show (upd V 25 (.bool false)) 20 = .bool false ∧ (upd V 25 (.bool false)) 22 = .bool kb ∧ (upd V 25 (.bool false)) 24 = .bool kb from ⟨u20, u22, u24⟩)
    clear u20 u22 u24
    have H := Lib.hid (show ∀ W', Ext W W' → K (fr (upd V 25 (.bool false))) W' from fun W' he => hK _ _ ⟨upd V 25 (.bool false), rfl, HS.ext he, HV.up 25 _ (fun x hx => Option.some.inj hx), Bs.ext x0 he, fun h => Bs.ext (f14 (more_ne h rfl)) he, fun h => Bs.ext (f16 (more_ne h rfl)) he⟩)
    clear hK hC hW hL HV f14 f16
    rw [HFR.out]
    rw [e20, e22, e24]
    clear e20 e22 e24
    go_wp2_with fail
    show K _ _
    have := H.out _ (Ext.refl _)
    rw [HFR.out] at this
    obtain ⟨u20, u22, u24⟩ := HU.out
    rw [u20, u22, u24] at this
    exact this
  · rintro L A W K hL hC hW ⟨V, rfl, HS, HV, x0, f14, f16⟩ hK
    have e20 : V 20 = .bool false := HV 20 _ rfl (hW 20 rfl)
    have e25 : V 25 = .bool false := HV 25 _ rfl (hW 25 rfl)
    have u20 : (upd V 26 (.bool false)) 20 = .bool false := e20
    have u25 : (upd V 26 (.bool false)) 25 = .bool false := e25
    have HU := Lib.hid (show (upd V 26 (.bool false)) 20 = .bool false ∧ (upd V 26 (.bool false)) 25 = .bool false from ⟨u20, u25⟩)
    clear u20 u25
    have H := Lib.hid (show ∀ W', Ext W W' → K (fr (upd V 26 (.bool false))) W' from fun W' he => hK _ _ ⟨upd V 26 (.bool false), rfl, HS.ext he, HV.up 26 _ (fun x hx => Option.some.inj hx), Bs.ext x0 he, fun h => Bs.ext (f14 (more_ne h rfl)) he, fun h => Bs.ext (f16 (more_ne h rfl)) he⟩)
    clear hK hC hW hL HV f14 f16
    rw [HFR.out]
    rw [e20, e25]
    clear e20 e25
    go_wp2_with fail
    show K _ _
    have := H.out _ (Ext.refl _)
    rw [HFR.out] at this
    obtain ⟨u20, u25⟩ := HU.out
    rw [u20, u25] at this
    exact this
  · rintro L A W hL ⟨V, rfl, HS, HV, x0, f14, f16⟩
    have e0 : V 0 = .int .u64 (a : Int) := HV 0 _ rfl (hL 0 (by simp))
    have e1 : V 1 = wv a := HV 1 _ rfl (hL 1 (by simp))
    have e2 : V 2 = .int .u64 (a : Int) := HV 2 _ rfl (hL 2 (by simp))
    have e3 : V 3 = wv a := HV 3 _ rfl (hL 3 (by simp))
    have e4 : V 4 = .bool false := HV 4 _ rfl (hL 4 (by simp))
    have e5 : V 5 = .bool false := HV 5 _ rfl (hL 5 (by simp))
    have e6 : V 6 = wv (n) := HV 6 _ rfl (hL 6 (by simp))
    have e7 : V 7 = .int .u64 (lb n 0 : Nat) := HV 7 _ rfl (hL 7 (by simp))
    have e8 : V 8 = .pointer (some ⟨w.heap.size, 0, none⟩) := HV 8 _ rfl (hL 8 (by simp))
    have e9 : V 9 = .int .u64 (lb n 0 : Nat) := HV 9 _ rfl (hL 9 (by simp))
    have e10 : V 10 = .bool false := HV 10 _ rfl (hL 10 (by simp))
    have e11 : V 11 = .bool false := HV 11 _ rfl (hL 11 (by simp))
    have e12 : V 12 = .bool false := HV 12 _ rfl (hL 12 (by simp))
    have e13 : V 13 = .int .u64 (a : Int) := HV 13 _ rfl (hL 13 (by simp))
    have e15 : V 15 = .int .u64 (a : Int) := HV 15 _ rfl (hL 15 (by simp))
    have e17 : V 17 = .bool true := HV 17 _ rfl (hL 17 (by simp))
    have e18 : V 18 = .bool false := HV 18 _ rfl (hL 18 (by simp))
    have e19 : V 19 = .bool false := HV 19 _ rfl (hL 19 (by simp))
    have e20 : V 20 = .bool false := HV 20 _ rfl (hL 20 (by simp))
    have e21 : V 21 = .int .u64 (a : Int) := HV 21 _ rfl (hL 21 (by simp))
    have e22 : V 22 = .bool kb := HV 22 _ rfl (hL 22 (by simp))
    have e23 : V 23 = .int .u64 (a : Int) := HV 23 _ rfl (hL 23 (by simp))
    have e24 : V 24 = .bool kb := HV 24 _ rfl (hL 24 (by simp))
    have e25 : V 25 = .bool false := HV 25 _ rfl (hL 25 (by simp))
    have e26 : V 26 = .bool false := HV 26 _ rfl (hL 26 (by simp))
    have q25 := f14 (hL 14 (by simp))
    have q27 := f16 (hL 16 (by simp))
    rw [HFR.out]
    rw [e0, e1, e2, e3, e4, e5, e6, e7, e8, e9, e10, e11, e12, e13, e15, e17, e18, e19, e20, e21, e22, e23, e24, e25, e26]
    clear hL HV e0 e1 e2 e3 e4 e5 e6 e7 e8 e9 e10 e11 e12 e13 e15 e17 e18 e19 e20 e21 e22 e23 e24 e25 e26 f14 f16
    clear HFR HW1 HW2 HOF HB1 HB2 HKP HKB
    by_cases h8 : l.length < 8
    · have hd : decide ((l.length : Int) < 8) = true := by simp; omega
      have HV := Lib.hid (show adrRd l = .tuple #[.int .u64 0, .int .i64 7] by unfold adrRd; rw [if_pos h8])
      go_wp2_with fail
      refine (adrRead_any _ l _ x0).mono ?_
      rintro e w3 ⟨rfl, rfl⟩
      rw [HV.out]
      go_wp2_with fail
      go_ret
      exact ⟨rfl, HS.2⟩
    · have hd : decide ((l.length : Int) < 8) = false := by simp; omega
      have HV := Lib.hid (show adrRd l = .tuple #[.int .u64 (num (last8 (l.take 8)) : Nat), .int .i64 0] by unfold adrRd; rw [if_neg h8])
      have HR := Lib.hid (fun W hb => refAdrRead_any (.slice A0 l.length c0) l W hb (by omega))
      generalize num (last8 (l.take 8)) = x at *
      go_wp2_with fail
      refine (adrRead_any _ l _ x0).mono ?_
      rintro e w3 ⟨rfl, rfl⟩
      rw [HV.out]
      go_wp2_with fail
      refine (HR.out _ x0).mono ?_
      rintro e w4 ⟨rfl, he⟩
      have HS := HS.ext he
      go_wp2_with fail
      go_ret
      exact ⟨rfl, HS.2⟩

set_option maxRecDepth 100000 in
theorem tells_told (W : World) (args : Array Value) (h : Told Try.f9 W args) : Calls Try.prog 9 args W (RetT W) := by
  obtain ⟨H, enc, base, ds, p, hval, hA⟩ := h
  rw [Try.params9] at hA hval
  obtain ⟨v0, v1, v2, d0, d1, d2, p0, p1, p2, ha, rfl, rfl, h0, h1, h2⟩ := trodAll_three hA
  obtain rfl : args = #[v0, v1, v2] := by apply Array.toList_inj.1; rw [ha]
  obtain ⟨a, rfl, hx⟩ := u64_came Try.underlying56 (hval 0 _ _ rfl rfl) h0
  obtain ⟨n, _, rfl⟩ := word_came (hval 1 _ _ rfl rfl) h1
  obtain ⟨l, hl⟩ := bs_came (hval 2 _ _ rfl rfl) h2
  exact tells_any a n v2 l W hx hl

set_option maxRecDepth 100000 in
theorem tells_spec (H : Type) : ∀ ds : List (DataW H), ds.length = Try.f9.params.toList.length → Rows.addrTellsSpec.fn H ds = { results := [.lit (.bool true)], args := ds }
  | [_, _, _], _ => rfl
  | [], h | [_], h | [_, _], h | _ :: _ :: _ :: _ :: _, h => by rw [Try.params9] at h; simp at h

set_option maxRecDepth 100000 in
theorem addrTells_holds : Rows.AddrTellsSaid :=
  OpenClaim.holds_of_wide 9 Try.f9 rfl rfl rfl rfl rfl rfl rfl ⟨rfl, rfl, rfl, rfl, rfl⟩ rfl rfl rfl rfl rfl (by kernel_rfl) Try.func9 (by kernel_rfl)
    (of_decide_eq_true (by kernel_rfl)) (by unfold Func.isWrapper; first | (rw [if_pos (by decide +kernel)]; kernel_rfl) | (rw [if_neg (by decide +kernel)]; exact ⟨rfl, rfl⟩))
    (fun os started H enc _ => law_lifted started (by kernel_rfl) Try.func9 rfl rfl (tells_spec H) (of_decide_eq_true (by kernel_rfl))
      (ChangeSpec.witness6 (enc := enc) (C := Try.checked) false ⟨#[], #[.int .u64 0, .agg #[.int .u64 0, .int .u64 0, .int .u64 0, .int .u64 0], .slice none 0 0], []⟩ 8 (by kernel_rfl) (by kernel_rfl) (by kernel_rfl) (by kernel_rfl)) tells_told)
end Go.Proofs.Ytdkjpoodfkkmlaa
