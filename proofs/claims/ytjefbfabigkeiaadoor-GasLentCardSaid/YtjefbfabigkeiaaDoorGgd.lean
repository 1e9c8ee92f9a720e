/- GasLent: what is lent is what is asked, or all that may be. No condition: whatever number, whatever word. -/
import Derived.Test.YtjefbfabigkeiaaDoorGsu
namespace Go.Proofs.YtjefbfabigkeiaaDoor
open Go.ChangeShapes Go.WideShapes Go.ChangeAt Go.RowKit Go.Shelf

/-- What lies there: the word that was asked for. -/
def LnS (w : World) (g a : Nat) (W : World) : Prop := Wd W g 36 a ∧ Ext w W
set_option maxRecDepth 100000 in
theorem LnS.ext {w : World} {g a : Nat} {W W' : World} (h : LnS w g a W) (he : Ext W W') : LnS w g a W' := ⟨h.1.ext he, h.2.trans he⟩
set_option maxRecDepth 100000 in
set_option maxHeartbeats 4000000 in
theorem lent_any (left a : Nat) (w : World) (hT : Tb w) (hl : left < 18446744073709551616) (ha : a < M256) : Calls Tryd.prog 8 #[.int .u64 (left : Nat), wv a] w (RetT w) := by
  have HA := Lib.hid ha
  have HX0 := Lib.hid (show LnS w w.heap.size a (w.alloc (.cells (wc a) 36)) from W1new w a)
  have HT := Lib.hid (hT.ext (W1new w a).2)
  clear hT ha
  unfold wv
  go_enter Tryd.func8, Tryd.ntmps8
  go_wp2_with fail
  generalize w.alloc (.cells (wc a) 36) = w0 at *
  obtain ⟨g1, hg1⟩ : ∃ g, w.heap.size = g := ⟨_, rfl⟩
  rw [hg1] at HX0 ⊢
  clear hg1
  refine (wakes_G w0 HT.out).mono ?_
  rintro e w1 ⟨rfl, hE1⟩
  have HX1 := Lib.hid (HX0.out.ext hE1)
  clear hE1 HX0 HT
  go_wp2_with ((with_reducible refine wpList_load_wordG ?_ 36 24 (.tmp 3) rfl Tryd.underlying36 winfo g1 a ?_ ?_ ?_); (exact rfl); (exact rfl); (exact HX1.out.1))
  refine (lendG_any left a w1 hl HA.out).mono ?_
  rintro e w2 ⟨rfl, hE2⟩
  have HX := Lib.hid (HX1.out.ext hE2)
  clear hE2 HX1
  go_wp2_with fail
  refine (partG_any left w2 hl).mono ?_
  rintro e w2 ⟨rfl, rfl⟩
  have hp1 : partG left ≤ left := partG_le left
  have hp2 : left - partG left = left / 64 := by unfold partG; omega
  have HN := Lib.hid (show lendG left a = min a (partG left) from rfl)
  generalize lendG left a = n at *
  generalize partG left = p at *
  have hn1 : n ≤ p := by rw [HN.out]; omega
  have HN6 := Lib.hid (show n < 18446744073709551616 by omega)
  have HP6 := Lib.hid (show p < 18446744073709551616 by omega)
  have HNM := Lib.hid (show n < M256 by unfold M256; omega)
  have HPM := Lib.hid (show p < M256 by unfold M256; omega)
  have d1 : decide (p < n) = false := decide_eq_false (by omega)
  have d2 : decide (left < p) = false := decide_eq_false (by omega)
  have d3 : ((left : Int) - (p : Int) != (left : Int) / 64) = false := by simp; omega
  go_upto_region 7 with fail
  clear hp1 hp2 hl d1 d2 d3
  by_cases hap : a ≤ p
  · have hna : n = a := by rw [HN.out]; omega
    have HB := Lib.hid (show (n == a) = true by simpa using hna)
    have HC := Lib.hid (show cmpN a p ≤ 0 by unfold cmpN; split <;> (try split) <;> omega)
    clear hap hna hn1 HN
    refine wp_named fun a0 ha0 => ?_
    obtain ⟨fr, hfr⟩ : ∃ fr : (Nat → Value) → Act, ∀ V, fr V = ((((((((((((((((((((((((a0.put (some 30) (V 0)).put (some 31) (V 1)).put (some 32) (V 2)).put (some 33) (V 3)).put (some 34) (V 4)).put (some 35) (V 5)).put (some 36) (V 6)).put (some 37) (V 7)).put (some 38) (V 8)).put (some 39) (V 9)).put (some 40) (V 10)).put (some 41) (V 11)).put (some 42) (V 12)).put (some 43) (V 13)).put (some 44) (V 14)).put (some 45) (V 15)).put (some 46) (V 16)).put (some 47) (V 17)).put (some 48) (V 18)).put (some 49) (V 19)).put (some 50) (V 20)).put (some 51) (V 21)).put (some 52) (V 22)).put (some 4) (V 23)) := ⟨fun V => ((((((((((((((((((((((((a0.put (some 30) (V 0)).put (some 31) (V 1)).put (some 32) (V 2)).put (some 33) (V 3)).put (some 34) (V 4)).put (some 35) (V 5)).put (some 36) (V 6)).put (some 37) (V 7)).put (some 38) (V 8)).put (some 39) (V 9)).put (some 40) (V 10)).put (some 41) (V 11)).put (some 42) (V 12)).put (some 43) (V 13)).put (some 44) (V 14)).put (some 45) (V 15)).put (some 46) (V 16)).put (some 47) (V 17)).put (some 48) (V 18)).put (some 49) (V 19)).put (some 50) (V 20)).put (some 51) (V 21)).put (some 52) (V 22)).put (some 4) (V 23)), fun _ => rfl⟩
    rw [ha0] at hfr
    simp only [Act.put, List.setIfInBounds_toArray, List.set_cons_zero, List.set_cons_succ] at hfr
    have HFR := Lib.hid hfr
    clear hfr
    refine wp_region_inv (by kernel_rfl) (by kernel_rfl) (fun L A W => ∃ V : Nat → Value, A = fr V ∧ Vals (fun j => ([some (.int .u64 (n : Nat)), some (wv n), some (wv a), some (.bool true), some (.bool true), some (wv a), some (.int .u64 (p : Nat)), some (wv p), some (.int .i64 (cmpN a p)), some (.bool true), some (.bool true), some (.bool true), some (undef), some (undef), some (undef), some (undef), some (undef), some (undef), some (undef), some (undef), some (undef), some (undef), some (.bool true), some (.bool true)] : List (Option Value)).getD j none) L V ∧ (LnS w g1 a W)) ?_ ⟨?_, ?_, ?_, ?_, ?_, ?_, ?_, ?_, ?_, ?_, ?_, ?_, ?_, ?_, ?_, ?_, ?_, ?_, ?_, ?_, ?_, ?_, ?_, ?_, trivial⟩ ?_
    · refine ⟨fun j => a0.tmps.getD (([30, 31, 32, 33, 34, 35, 36, 37, 38, 39, 40, 41, 42, 43, 44, 45, 46, 47, 48, 49, 50, 51, 52, 4] : List Nat).getD j 0) undef, ?_, Vals.no _ _ _ (far_none _ _ rfl), HX.out.ext ((Ext.refl _).drew)⟩
      rw [HFR.out, ha0]
      rfl
    all_goals clear ha0
    · rintro L A W K hL hC hW ⟨V, rfl, HV, s0⟩ hK
      have H := Lib.hid (show ∀ W', Ext W W' → K (fr (upd V 0 (.int .u64 (n : Nat)))) W' from fun W' he => hK _ _ ⟨upd V 0 (.int .u64 (n : Nat)), rfl, HV.up 0 _ (fun x hx => Option.some.inj hx), LnS.ext s0 he⟩)
      clear hK hC hW hL HV s0
      rw [HFR.out]
      go_wp2_with fail
      show K _ _
      have := H.out _ (Ext.refl _)
      rw [HFR.out] at this
      exact this
    · rintro L A W K hL hC hW ⟨V, rfl, HV, s0⟩ hK
      have e0 : V 0 = .int .u64 (n : Nat) := HV 0 _ rfl (hW 0 rfl)
      have hB := s0
      have H := Lib.hid (show ∀ W', Ext W W' → K (fr (upd V 1 (wv n))) W' from fun W' he => hK _ _ ⟨upd V 1 (wv n), rfl, HV.up 1 _ (fun x hx => Option.some.inj hx), LnS.ext s0 he⟩)
      have HU := Lib.hid (show (upd V 1 (wv n)) 0 = .int .u64 (n : Nat) from e0)
      clear hK hC hW hL HV s0
      rw [HFR.out]
      rw [e0]
      clear e0
      clear hB
      go_wp2_with fail
      refine (of_any n _ rfl _ HN6.out).mono ?_
      rintro e wx ⟨rfl, he⟩
      have := H.out _ he
      clear H
      go_wp2_with fail
      show K _ _
      rw [HFR.out] at this
      obtain u0 := HU.out
      rw [u0] at this
      exact this
    · rintro L A W K hL hC hW ⟨V, rfl, HV, s0⟩ hK
      have hB := s0
      have H := Lib.hid (show ∀ W', Ext W W' → K (fr (upd V 2 (wv a))) W' from fun W' he => hK _ _ ⟨upd V 2 (wv a), rfl, HV.up 2 _ (fun x hx => Option.some.inj hx), LnS.ext s0 he⟩)
      clear hK hC hW hL HV s0
      rw [HFR.out]
      have k1 := hB.1
      clear hB
      go_wp2_with ((with_reducible refine wpList_load_wordG ?_ 36 24 (.tmp 3) rfl Tryd.underlying36 winfo g1 a ?_ ?_ ?_); (exact rfl); (exact rfl); (exact k1))
      show K _ _
      have := H.out _ (Ext.refl _)
      rw [HFR.out] at this
      exact this
    · rintro L A W K hL hC hW ⟨V, rfl, HV, s0⟩ hK
      have e1 : V 1 = wv n := HV 1 _ rfl (hW 1 rfl)
      have e2 : V 2 = wv a := HV 2 _ rfl (hW 2 rfl)
      have hB := s0
      have H := Lib.hid (show ∀ W', Ext W W' → K (fr (upd V 3 (.bool true))) W' from fun W' he => hK _ _ ⟨upd V 3 (.bool true), rfl, HV.up 3 _ (fun x hx => Option.some.inj hx), LnS.ext s0 he⟩)
      have HU := Lib.hid (show (upd V 3 (.bool true)) 1 = wv n ∧ (upd V 3 (.bool true)) 2 = wv a from ⟨e1, e2⟩)
      clear hK hC hW hL HV s0
      rw [HFR.out]
      rw [e1, e2]
      clear e1 e2
      clear hB
      go_wp2_with ((with_reducible refine wpList_eql_word ?_ (.tmp 31) (.tmp 32) ?_ n a HNM.out HA.out ?_ ?_ ?_); (exact rfl); (exact rfl); (exact rfl); (exact rfl))
      rw [HB.out]
      show K _ _
      have := H.out _ (Ext.refl _)
      rw [HFR.out] at this
      obtain ⟨u1, u2⟩ := HU.out
      rw [u1, u2] at this
      exact this
    · rintro L A W K hL hC hW ⟨V, rfl, HV, s0⟩ hK
      have e3 : V 3 = .bool true := HV 3 _ rfl (hW 3 rfl)
      have H := Lib.hid (show ∀ W', Ext W W' → K (fr (upd V 4 (.bool true))) W' from fun W' he => hK _ _ ⟨upd V 4 (.bool true), rfl, HV.up 4 _ (fun x hx => Option.some.inj hx), LnS.ext s0 he⟩)
      have HU := Lib.hid (show (upd V 4 (.bool true)) 3 = .bool true from e3)
      clear hK hC hW hL HV s0
      rw [HFR.out]
      rw [e3]
      clear e3
      go_wp2_with fail
      show K _ _
      have := H.out _ (Ext.refl _)
      rw [HFR.out] at this
      obtain u3 := HU.out
      rw [u3] at this
      exact this
    · rintro L A W K hL hC hW ⟨V, rfl, HV, s0⟩ hK
      have e4 : V 4 = .bool true := HV 4 _ rfl (hW 4 rfl)
      have hB := s0
      have H := Lib.hid (show ∀ W', Ext W W' → K (fr (upd V 5 (wv a))) W' from fun W' he => hK _ _ ⟨upd V 5 (wv a), rfl, HV.up 5 _ (fun x hx => Option.some.inj hx), LnS.ext s0 he⟩)
      have HU := Lib.hid (show (upd V 5 (wv a)) 4 = .bool true from e4)
      clear hK hC hW hL HV s0
      rw [HFR.out]
      rw [e4]
      clear e4
      have k1 := hB.1
      clear hB
      go_wp2_with ((with_reducible refine wpList_load_wordG ?_ 36 24 (.tmp 3) rfl Tryd.underlying36 winfo g1 a ?_ ?_ ?_); (exact rfl); (exact rfl); (exact k1))
      show K _ _
      have := H.out _ (Ext.refl _)
      rw [HFR.out] at this
      obtain u4 := HU.out
      rw [u4] at this
      exact this
    · rintro L A W K hL hC hW ⟨V, rfl, HV, s0⟩ hK
      have e4 : V 4 = .bool true := HV 4 _ rfl (hW 4 rfl)
      have H := Lib.hid (show ∀ W', Ext W W' → K (fr (upd V 6 (.int .u64 (p : Nat)))) W' from fun W' he => hK _ _ ⟨upd V 6 (.int .u64 (p : Nat)), rfl, HV.up 6 _ (fun x hx => Option.some.inj hx), LnS.ext s0 he⟩)
      have HU := Lib.hid (show (upd V 6 (.int .u64 (p : Nat))) 4 = .bool true from e4)
      clear hK hC hW hL HV s0
      rw [HFR.out]
      rw [e4]
      clear e4
      go_wp2_with fail
      show K _ _
      have := H.out _ (Ext.refl _)
      rw [HFR.out] at this
      obtain u4 := HU.out
      rw [u4] at this
      exact this
    · rintro L A W K hL hC hW ⟨V, rfl, HV, s0⟩ hK
      have e4 : V 4 = .bool true := HV 4 _ rfl (hW 4 rfl)
      have e6 : V 6 = .int .u64 (p : Nat) := HV 6 _ rfl (hW 6 rfl)
      have hB := s0
      have H := Lib.hid (show ∀ W', Ext W W' → K (fr (upd V 7 (wv p))) W' from fun W' he => hK _ _ ⟨upd V 7 (wv p), rfl, HV.up 7 _ (fun x hx => Option.some.inj hx), LnS.ext s0 he⟩)
      have HU := Lib.hid (show (upd V 7 (wv p)) 4 = .bool true ∧ (upd V 7 (wv p)) 6 = .int .u64 (p : Nat) from ⟨e4, e6⟩)
      clear hK hC hW hL HV s0
      rw [HFR.out]
      rw [e4, e6]
      clear e4 e6
      clear hB
      go_wp2_with fail
      refine (of_any p _ rfl _ HP6.out).mono ?_
      rintro e wx ⟨rfl, he⟩
      have := H.out _ he
      clear H
      go_wp2_with fail
      show K _ _
      rw [HFR.out] at this
      obtain ⟨u4, u6⟩ := HU.out
      rw [u4, u6] at this
      exact this
    · rintro L A W K hL hC hW ⟨V, rfl, HV, s0⟩ hK
      have e4 : V 4 = .bool true := HV 4 _ rfl (hW 4 rfl)
      have e5 : V 5 = wv a := HV 5 _ rfl (hW 5 rfl)
      have e7 : V 7 = wv p := HV 7 _ rfl (hW 7 rfl)
      have hB := s0
      have H := Lib.hid (show ∀ W', Ext W W' → K (fr (upd V 8 (.int .i64 (cmpN a p)))) W' from fun W' he => hK _ _ ⟨upd V 8 (.int .i64 (cmpN a p)), rfl, HV.up 8 _ (fun x hx => Option.some.inj hx), LnS.ext s0 he⟩)
      have HU := Lib.hid (show (upd V 8 (.int .i64 (cmpN a p))) 4 = .bool true ∧ (upd V 8 (.int .i64 (cmpN a p))) 5 = wv a ∧ (upd V 8 (.int .i64 (cmpN a p))) 7 = wv p from ⟨e4, e5, e7⟩)
      clear hK hC hW hL HV s0
      rw [HFR.out]
      rw [e4, e5, e7]
      clear e4 e5 e7
      clear hB
      go_wp2_with fail
      refine (cmp_any a p _ HA.out HPM.out).mono ?_
      rintro e wx ⟨rfl, he⟩
      have := H.out _ he
      clear H
      go_wp2_with fail
      show K _ _
      rw [HFR.out] at this
      obtain ⟨u4, u5, u7⟩ := HU.out
      rw [u4, u5, u7] at this
      exact this
    · rintro L A W K hL hC hW ⟨V, rfl, HV, s0⟩ hK
      have e4 : V 4 = .bool true := HV 4 _ rfl (hW 4 rfl)
      have e8 : V 8 = .int .i64 (cmpN a p) := HV 8 _ rfl (hW 8 rfl)
      have hB := s0
      have H := Lib.hid (show ∀ W', Ext W W' → K (fr (upd V 9 (.bool true))) W' from fun W' he => hK _ _ ⟨upd V 9 (.bool true), rfl, HV.up 9 _ (fun x hx => Option.some.inj hx), LnS.ext s0 he⟩)
      have HU := Lib.hid (show (upd V 9 (.bool true)) 4 = .bool true ∧ (upd V 9 (.bool true)) 8 = .int .i64 (cmpN a p) from ⟨e4, e8⟩)
      clear hK hC hW hL HV s0
      rw [HFR.out]
      rw [e4, e8]
      clear e4 e8
      have hc := HC.out
      clear hB
      go_wp2_with fail
      show K _ _
      have := H.out _ (Ext.refl _)
      rw [HFR.out] at this
      obtain ⟨u4, u8⟩ := HU.out
      rw [u4, u8] at this
      exact this
    · rintro L A W K hL hC hW ⟨V, rfl, HV, s0⟩ hK
      have e4 : V 4 = .bool true := HV 4 _ rfl (hW 4 rfl)
      have e9 : V 9 = .bool true := HV 9 _ rfl (hW 9 rfl)
      have H := Lib.hid (show ∀ W', Ext W W' → K (fr (upd V 10 (.bool true))) W' from fun W' he => hK _ _ ⟨upd V 10 (.bool true), rfl, HV.up 10 _ (fun x hx => Option.some.inj hx), LnS.ext s0 he⟩)
      have HU := Lib.hid (show (upd V 10 (.bool true)) 4 = .bool true ∧ (upd V 10 (.bool true)) 9 = .bool true from ⟨e4, e9⟩)
      clear hK hC hW hL HV s0
      rw [HFR.out]
      rw [e4, e9]
      clear e4 e9
      go_wp2_with fail
      show K _ _
      have := H.out _ (Ext.refl _)
      rw [HFR.out] at this
      obtain ⟨u4, u9⟩ := HU.out
      rw [u4, u9] at this
      exact this
    · rintro L A W K hL hC hW ⟨V, rfl, HV, s0⟩ hK
      have e10 : V 10 = .bool true := HV 10 _ rfl (hW 10 rfl)
      have H := Lib.hid (show ∀ W', Ext W W' → K (fr (upd V 11 (.bool true))) W' from fun W' he => hK _ _ ⟨upd V 11 (.bool true), rfl, HV.up 11 _ (fun x hx => Option.some.inj hx), LnS.ext s0 he⟩)
      have HU := Lib.hid (show (upd V 11 (.bool true)) 10 = .bool true from e10)
      clear hK hC hW hL HV s0
      rw [HFR.out]
      rw [e10]
      clear e10
      go_wp2_with fail
      show K _ _
      have := H.out _ (Ext.refl _)
      rw [HFR.out] at this
      obtain u10 := HU.out
      rw [u10] at this
      exact this
    · rintro L A W K hL hC hW ⟨V, rfl, HV, s0⟩ hK
      have e11 : V 11 = .bool true := HV 11 _ rfl (hW 11 rfl)
      have H := Lib.hid (show ∀ W', Ext W W' → K (fr (upd V 12 (undef))) W' from fun W' he => hK _ _ ⟨upd V 12 (undef), rfl, HV.up 12 _ (fun x hx => Option.some.inj hx), LnS.ext s0 he⟩)
      have HU := Lib.hid (show (upd V 12 (undef)) 11 = .bool true from e11)
      clear hK hC hW hL HV s0
      rw [HFR.out]
      rw [e11]
      clear e11
      go_wp2_with fail
      show K _ _
      have := H.out _ (Ext.refl _)
      rw [HFR.out] at this
      obtain u11 := HU.out
      rw [u11] at this
      exact this
    · rintro L A W K hL hC hW ⟨V, rfl, HV, s0⟩ hK
      have e11 : V 11 = .bool true := HV 11 _ rfl (hW 11 rfl)
      have H := Lib.hid (show ∀ W', Ext W W' → K (fr (upd V 13 (undef))) W' from fun W' he => hK _ _ ⟨upd V 13 (undef), rfl, HV.up 13 _ (fun x hx => Option.some.inj hx), LnS.ext s0 he⟩)
      have HU := Lib.hid (show (upd V 13 (undef)) 11 = .bool true from e11)
      clear hK hC hW hL HV s0
      rw [HFR.out]
      rw [e11]
      clear e11
      go_wp2_with fail
      show K _ _
      have := H.out _ (Ext.refl _)
      rw [HFR.out] at this
      obtain u11 := HU.out
      rw [u11] at this
      exact this
    · rintro L A W K hL hC hW ⟨V, rfl, HV, s0⟩ hK
      have e11 : V 11 = .bool true := HV 11 _ rfl (hW 11 rfl)
      have e12 : V 12 = undef := HV 12 _ rfl (hW 12 rfl)
      have e13 : V 13 = undef := HV 13 _ rfl (hW 13 rfl)
      have H := Lib.hid (show ∀ W', Ext W W' → K (fr (upd V 14 (undef))) W' from fun W' he => hK _ _ ⟨upd V 14 (undef), rfl, HV.up 14 _ (fun x hx => Option.some.inj hx), LnS.ext s0 he⟩)
      have HU := Lib.hid (show (upd V 14 (undef)) 11 = .bool true ∧ (upd V 14 (undef)) 12 = undef ∧ (upd V 14 (undef)) 13 = undef from ⟨e11, e12, e13⟩)
      clear hK hC hW hL HV s0
      rw [HFR.out]
      rw [e11, e12, e13]
      clear e11 e12 e13
      go_wp2_with fail
      show K _ _
      have := H.out _ (Ext.refl _)
      rw [HFR.out] at this
      obtain ⟨u11, u12, u13⟩ := HU.out
      rw [u11, u12, u13] at this
      exact this
    · rintro L A W K hL hC hW ⟨V, rfl, HV, s0⟩ hK
      have e11 : V 11 = .bool true := HV 11 _ rfl (hW 11 rfl)
      have e14 : V 14 = undef := HV 14 _ rfl (hW 14 rfl)
      have H := Lib.hid (show ∀ W', Ext W W' → K (fr (upd V 15 (undef))) W' from fun W' he => hK _ _ ⟨upd V 15 (undef), rfl, HV.up 15 _ (fun x hx => Option.some.inj hx), LnS.ext s0 he⟩)
      have HU := Lib.hid (show (upd V 15 (undef)) 11 = .bool true ∧ (upd V 15 (undef)) 14 = undef from ⟨e11, e14⟩)
      clear hK hC hW hL HV s0
      rw [HFR.out]
      rw [e11, e14]
      clear e11 e14
      go_wp2_with fail
      show K _ _
      have := H.out _ (Ext.refl _)
      rw [HFR.out] at this
      obtain ⟨u11, u14⟩ := HU.out
      rw [u11, u14] at this
      exact this
    · rintro L A W K hL hC hW ⟨V, rfl, HV, s0⟩ hK
      have e15 : V 15 = undef := HV 15 _ rfl (hW 15 rfl)
      have H := Lib.hid (show ∀ W', Ext W W' → K (fr (upd V 16 (undef))) W' from fun W' he => hK _ _ ⟨upd V 16 (undef), rfl, HV.up 16 _ (fun x hx => Option.some.inj hx), LnS.ext s0 he⟩)
      have HU := Lib.hid (show (upd V 16 (undef)) 15 = undef from e15)
      clear hK hC hW hL HV s0
      rw [HFR.out]
      rw [e15]
      clear e15
      go_wp2_with fail
      show K _ _
      have := H.out _ (Ext.refl _)
      rw [HFR.out] at this
      obtain u15 := HU.out
      rw [u15] at this
      exact this
    · rintro L A W K hL hC hW ⟨V, rfl, HV, s0⟩ hK
      have e15 : V 15 = undef := HV 15 _ rfl (hW 15 rfl)
      have H := Lib.hid (show ∀ W', Ext W W' → K (fr (upd V 17 (undef))) W' from fun W' he => hK _ _ ⟨upd V 17 (undef), rfl, HV.up 17 _ (fun x hx => Option.some.inj hx), LnS.ext s0 he⟩)
      have HU := Lib.hid (show (upd V 17 (undef)) 15 = undef from e15)
      clear hK hC hW hL HV s0
      rw [HFR.out]
      rw [e15]
      clear e15
      go_wp2_with fail
      show K _ _
      have := H.out _ (Ext.refl _)
      rw [HFR.out] at this
      obtain u15 := HU.out
      rw [u15] at this
      exact this
    · rintro L A W K hL hC hW ⟨V, rfl, HV, s0⟩ hK
      have e15 : V 15 = undef := HV 15 _ rfl (hW 15 rfl)
      have e17 : V 17 = undef := HV 17 _ rfl (hW 17 rfl)
      have H := Lib.hid (show ∀ W', Ext W W' → K (fr (upd V 18 (undef))) W' from fun W' he => hK _ _ ⟨upd V 18 (undef), rfl, HV.up 18 _ (fun x hx => Option.some.inj hx), LnS.ext s0 he⟩)
      have HU := Lib.hid (show (upd V 18 (undef)) 15 = undef ∧ (upd V 18 (undef)) 17 = undef from ⟨e15, e17⟩)
      clear hK hC hW hL HV s0
      rw [HFR.out]
      rw [e15, e17]
      clear e15 e17
      go_wp2_with fail
      show K _ _
      have := H.out _ (Ext.refl _)
      rw [HFR.out] at this
      obtain ⟨u15, u17⟩ := HU.out
      rw [u15, u17] at this
      exact this
    · rintro L A W K hL hC hW ⟨V, rfl, HV, s0⟩ hK
      have e15 : V 15 = undef := HV 15 _ rfl (hW 15 rfl)
      have e16 : V 16 = undef := HV 16 _ rfl (hW 16 rfl)
      have e18 : V 18 = undef := HV 18 _ rfl (hW 18 rfl)
      have H := Lib.hid (show ∀ W', Ext W W' → K (fr (upd V 19 (undef))) W' from fun W' he => hK _ _ ⟨upd V 19 (undef), rfl, HV.up 19 _ (fun x hx => Option.some.inj hx), LnS.ext s0 he⟩)
      have HU := Lib.hid (show (upd V 19 (undef)) 15 = undef ∧ (upd V 19 (undef)) 16 = undef ∧ (upd V 19 (undef)) 18 = undef from ⟨e15, e16, e18⟩)
      clear hK hC hW hL HV s0
      rw [HFR.out]
      rw [e15, e16, e18]
      clear e15 e16 e18
      go_wp2_with fail
      show K _ _
      have := H.out _ (Ext.refl _)
      rw [HFR.out] at this
      obtain ⟨u15, u16, u18⟩ := HU.out
      rw [u15, u16, u18] at this
      exact this
    · rintro L A W K hL hC hW ⟨V, rfl, HV, s0⟩ hK
      have e15 : V 15 = undef := HV 15 _ rfl (hW 15 rfl)
      have e19 : V 19 = undef := HV 19 _ rfl (hW 19 rfl)
      have H := Lib.hid (show ∀ W', Ext W W' → K (fr (upd V 20 (undef))) W' from fun W' he => hK _ _ ⟨upd V 20 (undef), rfl, HV.up 20 _ (fun x hx => Option.some.inj hx), LnS.ext s0 he⟩)
      have HU := Lib.hid (show (upd V 20 (undef)) 15 = undef ∧ (upd V 20 (undef)) 19 = undef from ⟨e15, e19⟩)
      clear hK hC hW hL HV s0
      rw [HFR.out]
      rw [e15, e19]
      clear e15 e19
      go_wp2_with fail
      show K _ _
      have := H.out _ (Ext.refl _)
      rw [HFR.out] at this
      obtain ⟨u15, u19⟩ := HU.out
      rw [u15, u19] at this
      exact this
    · rintro L A W K hL hC hW ⟨V, rfl, HV, s0⟩ hK
      have e11 : V 11 = .bool true := HV 11 _ rfl (hW 11 rfl)
      have e15 : V 15 = undef := HV 15 _ rfl (hW 15 rfl)
      have e20 : V 20 = undef := HV 20 _ rfl (hW 20 rfl)
      have H := Lib.hid (show ∀ W', Ext W W' → K (fr (upd V 21 (undef))) W' from fun W' he => hK _ _ ⟨upd V 21 (undef), rfl, HV.up 21 _ (fun x hx => Option.some.inj hx), LnS.ext s0 he⟩)
      have HU := Lib.hid (show (upd V 21 (undef)) 11 = .bool true ∧ (upd V 21 (undef)) 15 = undef ∧ (upd V 21 (undef)) 20 = undef from ⟨e11, e15, e20⟩)
      clear hK hC hW hL HV s0
      rw [HFR.out]
      rw [e11, e15, e20]
      clear e11 e15 e20
      go_wp2_with fail
      show K _ _
      have := H.out _ (Ext.refl _)
      rw [HFR.out] at this
      obtain ⟨u11, u15, u20⟩ := HU.out
      rw [u11, u15, u20] at this
      exact this
    · rintro L A W K hL hC hW ⟨V, rfl, HV, s0⟩ hK
      have e11 : V 11 = .bool true := HV 11 _ rfl (hW 11 rfl)
      have e21 : V 21 = undef := HV 21 _ rfl (hW 21 rfl)
      have H := Lib.hid (show ∀ W', Ext W W' → K (fr (upd V 22 (.bool true))) W' from fun W' he => hK _ _ ⟨upd V 22 (.bool true), rfl, HV.up 22 _ (fun x hx => Option.some.inj hx), LnS.ext s0 he⟩)
      have HU := Lib.hid (show (upd V 22 (.bool true)) 11 = .bool true ∧ (upd V 22 (.bool true)) 21 = undef from ⟨e11, e21⟩)
      clear hK hC hW hL HV s0
      rw [HFR.out]
      rw [e11, e21]
      clear e11 e21
      go_wp2_with fail
      show K _ _
      have := H.out _ (Ext.refl _)
      rw [HFR.out] at this
      obtain ⟨u11, u21⟩ := HU.out
      rw [u11, u21] at this
      exact this
    · rintro L A W K hL hC hW ⟨V, rfl, HV, s0⟩ hK
      have e22 : V 22 = .bool true := HV 22 _ rfl (hW 22 rfl)
      have H := Lib.hid (show ∀ W', Ext W W' → K (fr (upd V 23 (.bool true))) W' from fun W' he => hK _ _ ⟨upd V 23 (.bool true), rfl, HV.up 23 _ (fun x hx => Option.some.inj hx), LnS.ext s0 he⟩)
      have HU := Lib.hid (show (upd V 23 (.bool true)) 22 = .bool true from e22)
      clear hK hC hW hL HV s0
      rw [HFR.out]
      rw [e22]
      clear e22
      go_wp2_with fail
      show K _ _
      have := H.out _ (Ext.refl _)
      rw [HFR.out] at this
      obtain u22 := HU.out
      rw [u22] at this
      exact this
    · rintro L A W hL ⟨V, rfl, HV, s0⟩
      have e0 : V 0 = .int .u64 (n : Nat) := HV 0 _ rfl (hL 0 (by simp))
      have e1 : V 1 = wv n := HV 1 _ rfl (hL 1 (by simp))
      have e2 : V 2 = wv a := HV 2 _ rfl (hL 2 (by simp))
      have e3 : V 3 = .bool true := HV 3 _ rfl (hL 3 (by simp))
      have e4 : V 4 = .bool true := HV 4 _ rfl (hL 4 (by simp))
      have e5 : V 5 = wv a := HV 5 _ rfl (hL 5 (by simp))
      have e6 : V 6 = .int .u64 (p : Nat) := HV 6 _ rfl (hL 6 (by simp))
      have e7 : V 7 = wv p := HV 7 _ rfl (hL 7 (by simp))
      have e8 : V 8 = .int .i64 (cmpN a p) := HV 8 _ rfl (hL 8 (by simp))
      have e9 : V 9 = .bool true := HV 9 _ rfl (hL 9 (by simp))
      have e10 : V 10 = .bool true := HV 10 _ rfl (hL 10 (by simp))
      have e11 : V 11 = .bool true := HV 11 _ rfl (hL 11 (by simp))
      have e12 : V 12 = undef := HV 12 _ rfl (hL 12 (by simp))
      have e13 : V 13 = undef := HV 13 _ rfl (hL 13 (by simp))
      have e14 : V 14 = undef := HV 14 _ rfl (hL 14 (by simp))
      have e15 : V 15 = undef := HV 15 _ rfl (hL 15 (by simp))
      have e16 : V 16 = undef := HV 16 _ rfl (hL 16 (by simp))
      have e17 : V 17 = undef := HV 17 _ rfl (hL 17 (by simp))
      have e18 : V 18 = undef := HV 18 _ rfl (hL 18 (by simp))
      have e19 : V 19 = undef := HV 19 _ rfl (hL 19 (by simp))
      have e20 : V 20 = undef := HV 20 _ rfl (hL 20 (by simp))
      have e21 : V 21 = undef := HV 21 _ rfl (hL 21 (by simp))
      have e22 : V 22 = .bool true := HV 22 _ rfl (hL 22 (by simp))
      have e23 : V 23 = .bool true := HV 23 _ rfl (hL 23 (by simp))
      have hA := s0
      rw [HFR.out]
      rw [e0, e1, e2, e3, e4, e5, e6, e7, e8, e9, e10, e11, e12, e13, e14, e15, e16, e17, e18, e19, e20, e21, e22, e23]
      clear hL HV HFR e0 e1 e2 e3 e4 e5 e6 e7 e8 e9 e10 e11 e12 e13 e14 e15 e16 e17 e18 e19 e20 e21 e22 e23 s0
      go_wp2
      go_ret
      exact ⟨rfl, hA.2⟩
  · have hna : n = p := by rw [HN.out]; omega
    have HB := Lib.hid (show (n == a) = false by simp; omega)
    have HNP := Lib.hid hna
    have HC := Lib.hid (show 0 < cmpN a p by unfold cmpN; rw [if_neg (by omega), if_pos (by omega)]; decide)
    clear hap hna hn1 HN
    refine wp_named fun a0 ha0 => ?_
    obtain ⟨fr, hfr⟩ : ∃ fr : (Nat → Value) → Act, ∀ V, fr V = ((((((((((((((((((((((((a0.put (some 30) (V 0)).put (some 31) (V 1)).put (some 32) (V 2)).put (some 33) (V 3)).put (some 34) (V 4)).put (some 35) (V 5)).put (some 36) (V 6)).put (some 37) (V 7)).put (some 38) (V 8)).put (some 39) (V 9)).put (some 40) (V 10)).put (some 41) (V 11)).put (some 42) (V 12)).put (some 43) (V 13)).put (some 44) (V 14)).put (some 45) (V 15)).put (some 46) (V 16)).put (some 47) (V 17)).put (some 48) (V 18)).put (some 49) (V 19)).put (some 50) (V 20)).put (some 51) (V 21)).put (some 52) (V 22)).put (some 4) (V 23)) := ⟨fun V => ((((((((((((((((((((((((a0.put (some 30) (V 0)).put (some 31) (V 1)).put (some 32) (V 2)).put (some 33) (V 3)).put (some 34) (V 4)).put (some 35) (V 5)).put (some 36) (V 6)).put (some 37) (V 7)).put (some 38) (V 8)).put (some 39) (V 9)).put (some 40) (V 10)).put (some 41) (V 11)).put (some 42) (V 12)).put (some 43) (V 13)).put (some 44) (V 14)).put (some 45) (V 15)).put (some 46) (V 16)).put (some 47) (V 17)).put (some 48) (V 18)).put (some 49) (V 19)).put (some 50) (V 20)).put (some 51) (V 21)).put (some 52) (V 22)).put (some 4) (V 23)), fun _ => rfl⟩
    rw [ha0] at hfr
    simp only [Act.put, List.setIfInBounds_toArray, List.set_cons_zero, List.set_cons_succ] at hfr
    have HFR := Lib.hid hfr
    clear hfr
    refine wp_region_inv (by kernel_rfl) (by kernel_rfl) (fun L A W => ∃ V : Nat → Value, A = fr V ∧ Vals (fun j => ([some (.int .u64 (n : Nat)), some (wv n), some (wv a), some (.bool false), some (.bool false), some (undef), some (undef), some (undef), some (undef), some (undef), some (.bool false), some (.bool false), some (.int .u64 (n : Nat)), some (.int .u64 (p : Nat)), some (.bool true), some (.bool true), some (wv a), some (.int .u64 (p : Nat)), some (wv p), some (.int .i64 (cmpN a p)), some (.bool true), some (.bool true), some (.bool true), some (.bool true)] : List (Option Value)).getD j none) L V ∧ (LnS w g1 a W)) ?_ ⟨?_, ?_, ?_, ?_, ?_, ?_, ?_, ?_, ?_, ?_, ?_, ?_, ?_, ?_, ?_, ?_, ?_, ?_, ?_, ?_, ?_, ?_, ?_, ?_, trivial⟩ ?_
    · refine ⟨fun j => a0.tmps.getD (([30, 31, 32, 33, 34, 35, 36, 37, 38, 39, 40, 41, 42, 43, 44, 45, 46, 47, 48, 49, 50, 51, 52, 4] : List Nat).getD j 0) undef, ?_, Vals.no _ _ _ (far_none _ _ rfl), HX.out.ext ((Ext.refl _).drew)⟩
      rw [HFR.out, ha0]
      rfl
    all_goals clear ha0
    · rintro L A W K hL hC hW ⟨V, rfl, HV, s0⟩ hK
      have H := Lib.hid (show ∀ W', Ext W W' → K (fr (upd V 0 (.int .u64 (n : Nat)))) W' from fun W' he => hK _ _ ⟨upd V 0 (.int .u64 (n : Nat)), rfl, HV.up 0 _ (fun x hx => Option.some.inj hx), LnS.ext s0 he⟩)
      clear hK hC hW hL HV s0
      rw [HFR.out]
      go_wp2_with fail
      show K _ _
      have := H.out _ (Ext.refl _)
      rw [HFR.out] at this
      exact this
    · rintro L A W K hL hC hW ⟨V, rfl, HV, s0⟩ hK
      have e0 : V 0 = .int .u64 (n : Nat) := HV 0 _ rfl (hW 0 rfl)
      have hB := s0
      have H := Lib.hid (show ∀ W', Ext W W' → K (fr (upd V 1 (wv n))) W' from fun W' he => hK _ _ ⟨upd V 1 (wv n), rfl, HV.up 1 _ (fun x hx => Option.some.inj hx), LnS.ext s0 he⟩)
      have HU := Lib.hid (show (upd V 1 (wv n)) 0 = .int .u64 (n : Nat) from e0)
      clear hK hC hW hL HV s0
      rw [HFR.out]
      rw [e0]
      clear e0
      clear hB
      go_wp2_with fail
      refine (of_any n _ rfl _ HN6.out).mono ?_
      rintro e wx ⟨rfl, he⟩
      have := H.out _ he
      clear H
      go_wp2_with fail
      show K _ _
      rw [HFR.out] at this
      obtain u0 := HU.out
      rw [u0] at this
      exact this
    · rintro L A W K hL hC hW ⟨V, rfl, HV, s0⟩ hK
      have hB := s0
      have H := Lib.hid (show ∀ W', Ext W W' → K (fr (upd V 2 (wv a))) W' from fun W' he => hK _ _ ⟨upd V 2 (wv a), rfl, HV.up 2 _ (fun x hx => Option.some.inj hx), LnS.ext s0 he⟩)
      clear hK hC hW hL HV s0
      rw [HFR.out]
      have k1 := hB.1
      clear hB
      go_wp2_with ((with_reducible refine wpList_load_wordG ?_ 36 24 (.tmp 3) rfl Tryd.underlying36 winfo g1 a ?_ ?_ ?_); (exact rfl); (exact rfl); (exact k1))
      show K _ _
      have := H.out _ (Ext.refl _)
      rw [HFR.out] at this
      exact this
    · rintro L A W K hL hC hW ⟨V, rfl, HV, s0⟩ hK
      have e1 : V 1 = wv n := HV 1 _ rfl (hW 1 rfl)
      have e2 : V 2 = wv a := HV 2 _ rfl (hW 2 rfl)
      have hB := s0
      have H := Lib.hid (show ∀ W', Ext W W' → K (fr (upd V 3 (.bool false))) W' from fun W' he => hK _ _ ⟨upd V 3 (.bool false), rfl, HV.up 3 _ (fun x hx => Option.some.inj hx), LnS.ext s0 he⟩)
      have HU := Lib.hid (show (upd V 3 (.bool false)) 1 = wv n ∧ (upd V 3 (.bool false)) 2 = wv a from ⟨e1, e2⟩)
      clear hK hC hW hL HV s0
      rw [HFR.out]
      rw [e1, e2]
      clear e1 e2
      clear hB
      go_wp2_with ((with_reducible refine wpList_eql_word ?_ (.tmp 31) (.tmp 32) ?_ n a HNM.out HA.out ?_ ?_ ?_); (exact rfl); (exact rfl); (exact rfl); (exact rfl))
      rw [HB.out]
      show K _ _
      have := H.out _ (Ext.refl _)
      rw [HFR.out] at this
      obtain ⟨u1, u2⟩ := HU.out
      rw [u1, u2] at this
      exact this
    · rintro L A W K hL hC hW ⟨V, rfl, HV, s0⟩ hK
      have e3 : V 3 = .bool false := HV 3 _ rfl (hW 3 rfl)
      have H := Lib.hid (show ∀ W', Ext W W' → K (fr (upd V 4 (.bool false))) W' from fun W' he => hK _ _ ⟨upd V 4 (.bool false), rfl, HV.up 4 _ (fun x hx => Option.some.inj hx), LnS.ext s0 he⟩)
      have HU := Lib.hid (show (upd V 4 (.bool false)) 3 = .bool false from e3)
      clear hK hC hW hL HV s0
      rw [HFR.out]
      rw [e3]
      clear e3
      go_wp2_with fail
      show K _ _
      have := H.out _ (Ext.refl _)
      rw [HFR.out] at this
      obtain u3 := HU.out
      rw [u3] at this
      exact this
    · rintro L A W K hL hC hW ⟨V, rfl, HV, s0⟩ hK
      have e4 : V 4 = .bool false := HV 4 _ rfl (hW 4 rfl)
      have H := Lib.hid (show ∀ W', Ext W W' → K (fr (upd V 5 (undef))) W' from fun W' he => hK _ _ ⟨upd V 5 (undef), rfl, HV.up 5 _ (fun x hx => Option.some.inj hx), LnS.ext s0 he⟩)
      have HU := Lib.hid (show (upd V 5 (undef)) 4 = .bool false from e4)
      clear hK hC hW hL HV s0
      rw [HFR.out]
      rw [e4]
      clear e4
      go_wp2_with fail
      show K _ _
      have := H.out _ (Ext.refl _)
      rw [HFR.out] at this
      obtain u4 := HU.out
      rw [u4] at this
      exact this
    · rintro L A W K hL hC hW ⟨V, rfl, HV, s0⟩ hK
      have e4 : V 4 = .bool false := HV 4 _ rfl (hW 4 rfl)
      have H := Lib.hid (show ∀ W', Ext W W' → K (fr (upd V 6 (undef))) W' from fun W' he => hK _ _ ⟨upd V 6 (undef), rfl, HV.up 6 _ (fun x hx => Option.some.inj hx), LnS.ext s0 he⟩)
      have HU := Lib.hid (show (upd V 6 (undef)) 4 = .bool false from e4)
      clear hK hC hW hL HV s0
      rw [HFR.out]
      rw [e4]
      clear e4
      go_wp2_with fail
      show K _ _
      have := H.out _ (Ext.refl _)
      rw [HFR.out] at this
      obtain u4 := HU.out
      rw [u4] at this
      exact this
    · rintro L A W K hL hC hW ⟨V, rfl, HV, s0⟩ hK
      have e4 : V 4 = .bool false := HV 4 _ rfl (hW 4 rfl)
      have e6 : V 6 = undef := HV 6 _ rfl (hW 6 rfl)
      have H := Lib.hid (show ∀ W', Ext W W' → K (fr (upd V 7 (undef))) W' from fun W' he => hK _ _ ⟨upd V 7 (undef), rfl, HV.up 7 _ (fun x hx => Option.some.inj hx), LnS.ext s0 he⟩)
      have HU := Lib.hid (show (upd V 7 (undef)) 4 = .bool false ∧ (upd V 7 (undef)) 6 = undef from ⟨e4, e6⟩)
      clear hK hC hW hL HV s0
      rw [HFR.out]
      rw [e4, e6]
      clear e4 e6
      go_wp2_with fail
      show K _ _
      have := H.out _ (Ext.refl _)
      rw [HFR.out] at this
      obtain ⟨u4, u6⟩ := HU.out
      rw [u4, u6] at this
      exact this
    · rintro L A W K hL hC hW ⟨V, rfl, HV, s0⟩ hK
      have e4 : V 4 = .bool false := HV 4 _ rfl (hW 4 rfl)
      have e5 : V 5 = undef := HV 5 _ rfl (hW 5 rfl)
      have e7 : V 7 = undef := HV 7 _ rfl (hW 7 rfl)
      have H := Lib.hid (show ∀ W', Ext W W' → K (fr (upd V 8 (undef))) W' from fun W' he => hK _ _ ⟨upd V 8 (undef), rfl, HV.up 8 _ (fun x hx => Option.some.inj hx), LnS.ext s0 he⟩)
      have HU := Lib.hid (show (upd V 8 (undef)) 4 = .bool false ∧ (upd V 8 (undef)) 5 = undef ∧ (upd V 8 (undef)) 7 = undef from ⟨e4, e5, e7⟩)
      clear hK hC hW hL HV s0
      rw [HFR.out]
      rw [e4, e5, e7]
      clear e4 e5 e7
      go_wp2_with fail
      show K _ _
      have := H.out _ (Ext.refl _)
      rw [HFR.out] at this
      obtain ⟨u4, u5, u7⟩ := HU.out
      rw [u4, u5, u7] at this
      exact this
    · rintro L A W K hL hC hW ⟨V, rfl, HV, s0⟩ hK
      have e4 : V 4 = .bool false := HV 4 _ rfl (hW 4 rfl)
      have e8 : V 8 = undef := HV 8 _ rfl (hW 8 rfl)
      have H := Lib.hid (show ∀ W', Ext W W' → K (fr (upd V 9 (undef))) W' from fun W' he => hK _ _ ⟨upd V 9 (undef), rfl, HV.up 9 _ (fun x hx => Option.some.inj hx), LnS.ext s0 he⟩)
      have HU := Lib.hid (show (upd V 9 (undef)) 4 = .bool false ∧ (upd V 9 (undef)) 8 = undef from ⟨e4, e8⟩)
      clear hK hC hW hL HV s0
      rw [HFR.out]
      rw [e4, e8]
      clear e4 e8
      go_wp2_with fail
      show K _ _
      have := H.out _ (Ext.refl _)
      rw [HFR.out] at this
      obtain ⟨u4, u8⟩ := HU.out
      rw [u4, u8] at this
      exact this
    · rintro L A W K hL hC hW ⟨V, rfl, HV, s0⟩ hK
      have e4 : V 4 = .bool false := HV 4 _ rfl (hW 4 rfl)
      have e9 : V 9 = undef := HV 9 _ rfl (hW 9 rfl)
      have H := Lib.hid (show ∀ W', Ext W W' → K (fr (upd V 10 (.bool false))) W' from fun W' he => hK _ _ ⟨upd V 10 (.bool false), rfl, HV.up 10 _ (fun x hx => Option.some.inj hx), LnS.ext s0 he⟩)
      have HU := Lib.hid (show (upd V 10 (.bool false)) 4 = .bool false ∧ (upd V 10 (.bool false)) 9 = undef from ⟨e4, e9⟩)
      clear hK hC hW hL HV s0
      rw [HFR.out]
      rw [e4, e9]
      clear e4 e9
      go_wp2_with fail
      show K _ _
      have := H.out _ (Ext.refl _)
      rw [HFR.out] at this
      obtain ⟨u4, u9⟩ := HU.out
      rw [u4, u9] at this
      exact this
    · rintro L A W K hL hC hW ⟨V, rfl, HV, s0⟩ hK
      have e10 : V 10 = .bool false := HV 10 _ rfl (hW 10 rfl)
      have H := Lib.hid (show ∀ W', Ext W W' → K (fr (upd V 11 (.bool false))) W' from fun W' he => hK _ _ ⟨upd V 11 (.bool false), rfl, HV.up 11 _ (fun x hx => Option.some.inj hx), LnS.ext s0 he⟩)
      have HU := Lib.hid (show (upd V 11 (.bool false)) 10 = .bool false from e10)
      clear hK hC hW hL HV s0
      rw [HFR.out]
      rw [e10]
      clear e10
      go_wp2_with fail
      show K _ _
      have := H.out _ (Ext.refl _)
      rw [HFR.out] at this
      obtain u10 := HU.out
      rw [u10] at this
      exact this
    · rintro L A W K hL hC hW ⟨V, rfl, HV, s0⟩ hK
      have e11 : V 11 = .bool false := HV 11 _ rfl (hW 11 rfl)
      have H := Lib.hid (show ∀ W', Ext W W' → K (fr (upd V 12 (.int .u64 (n : Nat)))) W' from fun W' he => hK _ _ ⟨upd V 12 (.int .u64 (n : Nat)), rfl, HV.up 12 _ (fun x hx => Option.some.inj hx), LnS.ext s0 he⟩)
      have HU := Lib.hid (show (upd V 12 (.int .u64 (n : Nat))) 11 = .bool false from e11)
      clear hK hC hW hL HV s0
      rw [HFR.out]
      rw [e11]
      clear e11
      go_wp2_with fail
      show K _ _
      have := H.out _ (Ext.refl _)
      rw [HFR.out] at this
      obtain u11 := HU.out
      rw [u11] at this
      exact this
    · rintro L A W K hL hC hW ⟨V, rfl, HV, s0⟩ hK
      have e11 : V 11 = .bool false := HV 11 _ rfl (hW 11 rfl)
      have H := Lib.hid (show ∀ W', Ext W W' → K (fr (upd V 13 (.int .u64 (p : Nat)))) W' from fun W' he => hK _ _ ⟨upd V 13 (.int .u64 (p : Nat)), rfl, HV.up 13 _ (fun x hx => Option.some.inj hx), LnS.ext s0 he⟩)
      have HU := Lib.hid (show (upd V 13 (.int .u64 (p : Nat))) 11 = .bool false from e11)
      clear hK hC hW hL HV s0
      rw [HFR.out]
      rw [e11]
      clear e11
      go_wp2_with fail
      show K _ _
      have := H.out _ (Ext.refl _)
      rw [HFR.out] at this
      obtain u11 := HU.out
      rw [u11] at this
      exact this
    · rintro L A W K hL hC hW ⟨V, rfl, HV, s0⟩ hK
      have e11 : V 11 = .bool false := HV 11 _ rfl (hW 11 rfl)
      have e12 : V 12 = .int .u64 (n : Nat) := HV 12 _ rfl (hW 12 rfl)
      have e13 : V 13 = .int .u64 (p : Nat) := HV 13 _ rfl (hW 13 rfl)
      have hB := s0
      have H := Lib.hid (show ∀ W', Ext W W' → K (fr (upd V 14 (.bool true))) W' from fun W' he => hK _ _ ⟨upd V 14 (.bool true), rfl, HV.up 14 _ (fun x hx => Option.some.inj hx), LnS.ext s0 he⟩)
      have HU := Lib.hid (show (upd V 14 (.bool true)) 11 = .bool false ∧ (upd V 14 (.bool true)) 12 = .int .u64 (n : Nat) ∧ (upd V 14 (.bool true)) 13 = .int .u64 (p : Nat) from ⟨e11, e12, e13⟩)
      clear hK hC hW hL HV s0
      rw [HFR.out]
      rw [e11, e12, e13]
      clear e11 e12 e13
      have hn := HNP.out
      clear hB
      go_wp2_with fail
      show K _ _
      have := H.out _ (Ext.refl _)
      rw [HFR.out] at this
      obtain ⟨u11, u12, u13⟩ := HU.out
      rw [u11, u12, u13] at this
      exact this
    · rintro L A W K hL hC hW ⟨V, rfl, HV, s0⟩ hK
      have e11 : V 11 = .bool false := HV 11 _ rfl (hW 11 rfl)
      have e14 : V 14 = .bool true := HV 14 _ rfl (hW 14 rfl)
      have H := Lib.hid (show ∀ W', Ext W W' → K (fr (upd V 15 (.bool true))) W' from fun W' he => hK _ _ ⟨upd V 15 (.bool true), rfl, HV.up 15 _ (fun x hx => Option.some.inj hx), LnS.ext s0 he⟩)
      have HU := Lib.hid (show (upd V 15 (.bool true)) 11 = .bool false ∧ (upd V 15 (.bool true)) 14 = .bool true from ⟨e11, e14⟩)
      clear hK hC hW hL HV s0
      rw [HFR.out]
      rw [e11, e14]
      clear e11 e14
      go_wp2_with fail
      show K _ _
      have := H.out _ (Ext.refl _)
      rw [HFR.out] at this
      obtain ⟨u11, u14⟩ := HU.out
      rw [u11, u14] at this
      exact this
    · rintro L A W K hL hC hW ⟨V, rfl, HV, s0⟩ hK
      have e15 : V 15 = .bool true := HV 15 _ rfl (hW 15 rfl)
      have hB := s0
      have H := Lib.hid (show ∀ W', Ext W W' → K (fr (upd V 16 (wv a))) W' from fun W' he => hK _ _ ⟨upd V 16 (wv a), rfl, HV.up 16 _ (fun x hx => Option.some.inj hx), LnS.ext s0 he⟩)
      have HU := Lib.hid (show (upd V 16 (wv a)) 15 = .bool true from e15)
      clear hK hC hW hL HV s0
      rw [HFR.out]
      rw [e15]
      clear e15
      have k1 := hB.1
      clear hB
      go_wp2_with ((with_reducible refine wpList_load_wordG ?_ 36 24 (.tmp 3) rfl Tryd.underlying36 winfo g1 a ?_ ?_ ?_); (exact rfl); (exact rfl); (exact k1))
      show K _ _
      have := H.out _ (Ext.refl _)
      rw [HFR.out] at this
      obtain u15 := HU.out
      rw [u15] at this
      exact this
    · rintro L A W K hL hC hW ⟨V, rfl, HV, s0⟩ hK
      have e15 : V 15 = .bool true := HV 15 _ rfl (hW 15 rfl)
      have H := Lib.hid (show ∀ W', Ext W W' → K (fr (upd V 17 (.int .u64 (p : Nat)))) W' from fun W' he => hK _ _ ⟨upd V 17 (.int .u64 (p : Nat)), rfl, HV.up 17 _ (fun x hx => Option.some.inj hx), LnS.ext s0 he⟩)
      have HU := Lib.hid (show (upd V 17 (.int .u64 (p : Nat))) 15 = .bool true from e15)
      clear hK hC hW hL HV s0
      rw [HFR.out]
      rw [e15]
      clear e15
      go_wp2_with fail
      show K _ _
      have := H.out _ (Ext.refl _)
      rw [HFR.out] at this
      obtain u15 := HU.out
      rw [u15] at this
      exact this
    · rintro L A W K hL hC hW ⟨V, rfl, HV, s0⟩ hK
      have e15 : V 15 = .bool true := HV 15 _ rfl (hW 15 rfl)
      have e17 : V 17 = .int .u64 (p : Nat) := HV 17 _ rfl (hW 17 rfl)
      have hB := s0
      have H := Lib.hid (show ∀ W', Ext W W' → K (fr (upd V 18 (wv p))) W' from fun W' he => hK _ _ ⟨upd V 18 (wv p), rfl, HV.up 18 _ (fun x hx => Option.some.inj hx), LnS.ext s0 he⟩)
      have HU := Lib.hid (show (upd V 18 (wv p)) 15 = .bool true ∧ (upd V 18 (wv p)) 17 = .int .u64 (p : Nat) from ⟨e15, e17⟩)
      clear hK hC hW hL HV s0
      rw [HFR.out]
      rw [e15, e17]
      clear e15 e17
      clear hB
      go_wp2_with fail
      refine (of_any p _ rfl _ HP6.out).mono ?_
      rintro e wx ⟨rfl, he⟩
      have := H.out _ he
      clear H
      go_wp2_with fail
      show K _ _
      rw [HFR.out] at this
      obtain ⟨u15, u17⟩ := HU.out
      rw [u15, u17] at this
      exact this
    · rintro L A W K hL hC hW ⟨V, rfl, HV, s0⟩ hK
      have e15 : V 15 = .bool true := HV 15 _ rfl (hW 15 rfl)
      have e16 : V 16 = wv a := HV 16 _ rfl (hW 16 rfl)
      have e18 : V 18 = wv p := HV 18 _ rfl (hW 18 rfl)
      have hB := s0
      have H := Lib.hid (show ∀ W', Ext W W' → K (fr (upd V 19 (.int .i64 (cmpN a p)))) W' from fun W' he => hK _ _ ⟨upd V 19 (.int .i64 (cmpN a p)), rfl, HV.up 19 _ (fun x hx => Option.some.inj hx), LnS.ext s0 he⟩)
      have HU := Lib.hid (show (upd V 19 (.int .i64 (cmpN a p))) 15 = .bool true ∧ (upd V 19 (.int .i64 (cmpN a p))) 16 = wv a ∧ (upd V 19 (.int .i64 (cmpN a p))) 18 = wv p from ⟨e15, e16, e18⟩)
      clear hK hC hW hL HV s0
      rw [HFR.out]
      rw [e15, e16, e18]
      clear e15 e16 e18
      clear hB
      go_wp2_with fail
      refine (cmp_any a p _ HA.out HPM.out).mono ?_
      rintro e wx ⟨rfl, he⟩
      have := H.out _ he
      clear H
      go_wp2_with fail
      show K _ _
      rw [HFR.out] at this
      obtain ⟨u15, u16, u18⟩ := HU.out
      rw [u15, u16, u18] at this
      exact this
    · rintro L A W K hL hC hW ⟨V, rfl, HV, s0⟩ hK
      have e15 : V 15 = .bool true := HV 15 _ rfl (hW 15 rfl)
      have e19 : V 19 = .int .i64 (cmpN a p) := HV 19 _ rfl (hW 19 rfl)
      have hB := s0
      have H := Lib.hid (show ∀ W', Ext W W' → K (fr (upd V 20 (.bool true))) W' from fun W' he => hK _ _ ⟨upd V 20 (.bool true), rfl, HV.up 20 _ (fun x hx => Option.some.inj hx), LnS.ext s0 he⟩)
      have HU := Lib.hid (show (upd V 20 (.bool true)) 15 = .bool true ∧ (upd V 20 (.bool true)) 19 = .int .i64 (cmpN a p) from ⟨e15, e19⟩)
      clear hK hC hW hL HV s0
      rw [HFR.out]
      rw [e15, e19]
      clear e15 e19
      have hc := HC.out
      clear hB
      go_wp2_with fail
      show K _ _
      have := H.out _ (Ext.refl _)
      rw [HFR.out] at this
      obtain ⟨u15, u19⟩ := HU.out
      rw [u15, u19] at this
      exact this
    · rintro L A W K hL hC hW ⟨V, rfl, HV, s0⟩ hK
      have e11 : V 11 = .bool false := HV 11 _ rfl (hW 11 rfl)
      have e15 : V 15 = .bool true := HV 15 _ rfl (hW 15 rfl)
      have e20 : V 20 = .bool true := HV 20 _ rfl (hW 20 rfl)
      have H := Lib.hid (show ∀ W', Ext W W' → K (fr (upd V 21 (.bool true))) W' from fun W' he => hK _ _ ⟨upd V 21 (.bool true), rfl, HV.up 21 _ (fun x hx => Option.some.inj hx), LnS.ext s0 he⟩)
      have HU := Lib.hid (show (upd V 21 (.bool true)) 11 = .bool false ∧ (upd V 21 (.bool true)) 15 = .bool true ∧ (upd V 21 (.bool true)) 20 = .bool true from ⟨e11, e15, e20⟩)
      clear hK hC hW hL HV s0
      rw [HFR.out]
      rw [e11, e15, e20]
      clear e11 e15 e20
      go_wp2_with fail
      show K _ _
      have := H.out _ (Ext.refl _)
      rw [HFR.out] at this
      obtain ⟨u11, u15, u20⟩ := HU.out
      rw [u11, u15, u20] at this
      exact this
    · rintro L A W K hL hC hW ⟨V, rfl, HV, s0⟩ hK
      have e11 : V 11 = .bool false := HV 11 _ rfl (hW 11 rfl)
      have e21 : V 21 = .bool true := HV 21 _ rfl (hW 21 rfl)
      have H := Lib.hid (show ∀ W', Ext W W' → K (fr (upd V 22 (.bool true))) W' from fun W' he => hK _ _ ⟨upd V 22 (.bool true), rfl, HV.up 22 _ (fun x hx => Option.some.inj hx), LnS.ext s0 he⟩)
      have HU := Lib.hid (show (upd V 22 (.bool true)) 11 = .bool false ∧ (upd V 22 (.bool true)) 21 = .bool true from ⟨e11, e21⟩)
      clear hK hC hW hL HV s0
      rw [HFR.out]
      rw [e11, e21]
      clear e11 e21
      go_wp2_with fail
      show K _ _
      have := H.out _ (Ext.refl _)
      rw [HFR.out] at this
      obtain ⟨u11, u21⟩ := HU.out
      rw [u11, u21] at this
      exact this
    · rintro L A W K hL hC hW ⟨V, rfl, HV, s0⟩ hK
      have e22 : V 22 = .bool true := HV 22 _ rfl (hW 22 rfl)
      have H := Lib.hid (show ∀ W', Ext W W' → K (fr (upd V 23 (.bool true))) W' from fun W' he => hK _ _ ⟨upd V 23 (.bool true), rfl, HV.up 23 _ (fun x hx => Option.some.inj hx), LnS.ext s0 he⟩)
      have HU := Lib.hid (show (upd V 23 (.bool true)) 22 = .bool true from e22)
      clear hK hC hW hL HV s0
      rw [HFR.out]
      rw [e22]
      clear e22
      go_wp2_with fail
      show K _ _
      have := H.out _ (Ext.refl _)
      rw [HFR.out] at this
      obtain u22 := HU.out
      rw [u22] at this
      exact this
    · rintro L A W hL ⟨V, rfl, HV, s0⟩
      have e0 : V 0 = .int .u64 (n : Nat) := HV 0 _ rfl (hL 0 (by simp))
      have e1 : V 1 = wv n := HV 1 _ rfl (hL 1 (by simp))
      have e2 : V 2 = wv a := HV 2 _ rfl (hL 2 (by simp))
      have e3 : V 3 = .bool false := HV 3 _ rfl (hL 3 (by simp))
      have e4 : V 4 = .bool false := HV 4 _ rfl (hL 4 (by simp))
      have e5 : V 5 = undef := HV 5 _ rfl (hL 5 (by simp))
      have e6 : V 6 = undef := HV 6 _ rfl (hL 6 (by simp))
      have e7 : V 7 = undef := HV 7 _ rfl (hL 7 (by simp))
      have e8 : V 8 = undef := HV 8 _ rfl (hL 8 (by simp))
      have e9 : V 9 = undef := HV 9 _ rfl (hL 9 (by simp))
      have e10 : V 10 = .bool false := HV 10 _ rfl (hL 10 (by simp))
      have e11 : V 11 = .bool false := HV 11 _ rfl (hL 11 (by simp))
      have e12 : V 12 = .int .u64 (n : Nat) := HV 12 _ rfl (hL 12 (by simp))
      have e13 : V 13 = .int .u64 (p : Nat) := HV 13 _ rfl (hL 13 (by simp))
      have e14 : V 14 = .bool true := HV 14 _ rfl (hL 14 (by simp))
      have e15 : V 15 = .bool true := HV 15 _ rfl (hL 15 (by simp))
      have e16 : V 16 = wv a := HV 16 _ rfl (hL 16 (by simp))
      have e17 : V 17 = .int .u64 (p : Nat) := HV 17 _ rfl (hL 17 (by simp))
      have e18 : V 18 = wv p := HV 18 _ rfl (hL 18 (by simp))
      have e19 : V 19 = .int .i64 (cmpN a p) := HV 19 _ rfl (hL 19 (by simp))
      have e20 : V 20 = .bool true := HV 20 _ rfl (hL 20 (by simp))
      have e21 : V 21 = .bool true := HV 21 _ rfl (hL 21 (by simp))
      have e22 : V 22 = .bool true := HV 22 _ rfl (hL 22 (by simp))
      have e23 : V 23 = .bool true := HV 23 _ rfl (hL 23 (by simp))
      have hA := s0
      rw [HFR.out]
      rw [e0, e1, e2, e3, e4, e5, e6, e7, e8, e9, e10, e11, e12, e13, e14, e15, e16, e17, e18, e19, e20, e21, e22, e23]
      clear hL HV HFR e0 e1 e2 e3 e4 e5 e6 e7 e8 e9 e10 e11 e12 e13 e14 e15 e16 e17 e18 e19 e20 e21 e22 e23 s0
      go_wp2
      go_ret
      exact ⟨rfl, hA.2⟩
set_option maxRecDepth 100000 in
theorem lent_told (W : World) (args : Array Value) (h : Told Tryd.f8 W args) (ht : Tb W) : Calls Tryd.prog 8 args W (RetT W) := by
  obtain ⟨H, enc, base, ds, p, hval, hA⟩ := h
  rw [Tryd.params8] at hA hval
  obtain ⟨v0, v1, d0, d1, p0, p1, ha, rfl, rfl, h0, h1⟩ := trodAll_two hA
  obtain rfl : args = #[v0, v1] := by apply Array.toList_inj.1; rw [ha]
  obtain ⟨a, rfl, hx⟩ := u64_came Tryd.underlying24 (hval 0 _ _ rfl rfl) h0
  obtain ⟨n, hn, rfl⟩ := word_came (hval 1 _ _ rfl rfl) h1
  exact lent_any a n W ht hx hn
set_option maxRecDepth 100000 in
theorem lent_spec (H : Type) : ∀ ds : List (DataW H), ds.length = Tryd.f8.params.toList.length → Rows.gasLentSpec.fn H ds = { results := [.lit (.bool true)], args := ds }
  | [_, _], _ => rfl
  | [], h | [_], h | _ :: _ :: _ :: _, h => by rw [Tryd.params8] at h; simp at h

set_option maxRecDepth 100000 in
theorem gasLent_holds : Rows.GasLentSaid :=
  OpenClaim.holds_of_wide 8 Tryd.f8 rfl rfl rfl rfl rfl rfl rfl ⟨rfl, rfl, rfl, rfl, rfl⟩ rfl rfl rfl rfl rfl (by kernel_rfl) Tryd.func8 (by kernel_rfl)
    (of_decide_eq_true (by kernel_rfl)) (by unfold Func.isWrapper; first | (rw [if_pos (by decide +kernel)]; kernel_rfl) | (rw [if_neg (by decide +kernel)]; exact ⟨rfl, rfl⟩))
    (fun os started H enc _ => law_lifted_t started (by kernel_rfl) Tryd.func8 rfl rfl (lent_spec H) (of_decide_eq_true (by kernel_rfl))
      (ChangeSpec.witness_shaped (enc := enc) (C := Tryd.checked) (os := os) (X := fun w _ => laidMetH Tryd.prog laidS w) false (World.doorLaid Tryd.prog 400 os) #[.int .u64 0, .agg #[.int .u64 0, .int .u64 0, .int .u64 0, .int .u64 0]] 8 rfl (World.shaped_of_RefB (by kernel_rfl) (by kernel_rfl)) (by kernel_rfl) (by kernel_rfl) (by kernel_rfl) (door_met os _)) lent_told)

set_option maxRecDepth 100000 in
theorem gasLent_card : Rows.GasLentCardSaid :=
  Claim7.holds_tied_plain_at .later [] [.data, .data, .data, .wider, .data] true (true, "1db432f97302d9ccf523489c3c5a307203f9cae2718eace3ef5e825b493cdc87") false
    gasLent_holds (fun _ h => by cases h) (by kernel_rfl) (fun _ h => by cases h) gasLent_row_tie rfl ⟨rfl, rfl⟩ (by kernel_rfl) rfl
    (fun f fn hf hfn => by
      obtain rfl : f = 8 := Option.some.inj ((show Tryd.prog.funcNamed "sheafer/sheaferlaw12.GasLent" = some 8 by kernel_rfl).symm.trans hf) |>.symm
      obtain rfl : fn = Tryd.f8 := (Option.some.inj (Tryd.func8.symm.trans hfn)).symm
      exact ⟨by kernel_rfl, fun j t ht => by
        rw [Tryd.params8] at ht
        have hm : t ∈ [24, 36] := by simpa using Array.mem_of_getElem? ht
        have hall : ([24, 36].all fun u => !Tryd.prog.wantsStandIn u) = true := by kernel_rfl
        exact (show Tryd.prog.wantsStandIn t = false by simpa using List.all_eq_true.1 hall t hm)⟩)
    (by kernel_rfl)
end Go.Proofs.YtjefbfabigkeiaaDoor
