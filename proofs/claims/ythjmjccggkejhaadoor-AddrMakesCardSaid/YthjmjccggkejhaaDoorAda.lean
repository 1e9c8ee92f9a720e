/- Contracts of package addr: Word, Of, Bytes, Read, Kept, Near; of the document: Word. -/
import Derived.Test.YthjmjccggkejhaaDoorMgb
import Derived.Test.YthjmjccggkejhaaDoorInw
import Derived.Deep.Cut
namespace Go.Proofs.YthjmjccggkejhaaDoor
open Go.RowKit

set_option maxRecDepth 100000 in
theorem adrWord_any (a : Nat) (w : World) (ha : a < 18446744073709551616) : Calls Tryd.prog 65 #[.int .u64 (a : Int)] w fun e w' => e = .returned (wv a) ∧ Ext w w' := by
  go_enter Tryd.func65, Tryd.ntmps65
  go_wp2_with fail
  refine (of_any a _ rfl _ ha).mono ?_
  rintro e w1 ⟨rfl, he1⟩
  have HZ : Hid (Cs w1 w.heap.size 64 (wc 0)) := (Cs.new w _ _ _ rfl).ext he1
  have HE := Lib.hid (((Ext.refl w).alloc _).trans he1)
  clear he1
  go_wp2_with ((with_reducible refine wpList_store_word rfl rfl 64 (.tmp 2) (.tmp 4) rfl winfo w.heap.size (wc 0) a ?_ ?_ ?_ ?_ ?_); (exact rfl); (exact rfl); (exact HZ.out); (exact rfl); intro w3 k3 g3; have K3 := Lib.hid k3; have HE3 := Lib.hid (HE.out.grown g3 (Nat.le_refl _)); clear k3 g3)
  exact bodyPost_ret (results_word Tryd.results65 _ _ w.heap.size _ rfl K3.out Tryd.underlying64 winfo) rfl ⟨rfl, HE3.out⟩

set_option maxRecDepth 100000 in
theorem wc_lit (a : Nat) (ha : a < 18446744073709551616) : wv a = .agg #[.int .u64 (a : Int), .int .u64 0, .int .u64 0, .int .u64 0] := by unfold wv; rw [wc_small a ha]
set_option maxRecDepth 100000 in
theorem refAdrWord_any (a : Nat) (w : World) (ha : a < 18446744073709551616) : Calls Tryd.prog 66 #[.int .u64 (a : Int)] w fun e w' => e = .returned (wv a) ∧ Ext w w' := by
  have HZ : Hid (Cs (w.alloc (.cells #[.int .u64 0, .int .u64 0, .int .u64 0, .int .u64 0] 64)) w.heap.size 64 (wc 0)) := Cs.new w _ _ _ rfl
  have HE : Hid (Ext w (w.alloc (.cells #[.int .u64 0, .int .u64 0, .int .u64 0, .int .u64 0] 64))) := (Ext.refl w).alloc _
  have HW := Lib.hid (wc_lit a ha).symm
  go_enter Tryd.func66, Tryd.ntmps66
  go_wp2_with ((with_reducible refine wpList_store_word rfl rfl 64 (.tmp 2) (.tmp 4) rfl winfo w.heap.size (wc 0) a ?_ ?_ ?_ ?_ ?_); (exact rfl); (exact HW.out); (exact HZ.out); (exact rfl); intro w3 k3 g3; have K3 := Lib.hid k3; have HE3 := Lib.hid (HE.out.grown g3 (Nat.le_refl _)); clear k3 g3)
  exact bodyPost_ret (results_word Tryd.results66 _ _ w.heap.size _ rfl K3.out Tryd.underlying64 winfo) rfl ⟨rfl, HE3.out⟩

set_option maxRecDepth 100000 in
theorem adrBytes_any (a : Nat) (w : World) (ha : a < 18446744073709551616) : Calls Tryd.prog 60 #[.int .u64 (a : Int)] w (RetB w (hi8 a)) := by
  go_enter Tryd.func60, Tryd.ntmps60
  go_wp2_with fail
  refine (put64_any _ [] a _ rfl _ (Bs.nil _) ha (by simp)).mono ?_
  rintro e w1 ⟨v, rfl, ho, he⟩
  have HO := Lib.hid ho
  have HE := Lib.hid he
  clear ho he
  go_wp2_with fail
  go_ret
  exact ⟨v, rfl, HO.out, HE.out⟩

/-- What Read answers. -/
def adrRd (l : List UInt8) : Value := if l.length < 8 then .tuple #[.int .u64 0, .int .i64 7] else .tuple #[.int .u64 (num (last8 (l.take 8)) : Nat), .int .i64 0]
set_option maxRecDepth 100000 in
set_option maxHeartbeats 1000000 in
theorem adrRead_any (v : Value) (l : List UInt8) (w : World) (hb : Bs w v l) : Calls Tryd.prog 56 #[v] w fun e w' => e = .returned (adrRd l) ∧ w = w' := by
  have HB := Lib.hid hb
  obtain ⟨A, c, rfl, h1, h2, h3⟩ := hb
  unfold maxLen at h2
  by_cases h8 : l.length < 8
  · have hd : decide ((l.length : Int) < 8) = true := by simp; omega
    have HV := Lib.hid (show adrRd l = .tuple #[.int .u64 0, .int .i64 7] by unfold adrRd; rw [if_pos h8])
    clear h3
    go_enter Tryd.func56, Tryd.ntmps56
    go_wp2_with fail
    go_ret2
    exact ⟨by rw [HV.out]; rfl, rfl⟩
  · have hd : decide ((l.length : Int) < 8) = false := by simp; omega
    have HV := Lib.hid (show adrRd l = .tuple #[.int .u64 (num (last8 (l.take 8)) : Nat), .int .i64 0] by unfold adrRd; rw [if_neg h8])
    clear h3
    go_enter Tryd.func56, Tryd.ntmps56
    go_wp2_with fail
    refine (u64_tail _ (l.take 8) _ (HB.out.take 8 (by omega))).mono ?_
    rintro e w1 ⟨rfl, rfl⟩
    generalize num (last8 (l.take 8)) = r at *
    go_wp2_with fail
    go_ret2
    exact ⟨by rw [HV.out]; rfl, rfl⟩

/-- Is a slot near another one? -/
def nearB (a b : Nat) : Bool := decide (b ≤ a ∧ a < b + 128)
/-- What lies there ahead of Near's answer. -/
def NrB (w : World) (g5 d : Nat) (W : World) : Prop := Wd W g5 64 d ∧ Ext w W
set_option maxRecDepth 100000 in
theorem NrB.ext {w : World} {g5 d : Nat} {W W' : World} (h : NrB w g5 d W) (he : Ext W W') : NrB w g5 d W' := ⟨h.1.ext he, h.2.trans he⟩
set_option maxRecDepth 100000 in
theorem NrB.drew {w : World} {g5 d : Nat} {W : World} (h : NrB w g5 d W) : NrB w g5 d W.drew := h.ext (Ext.refl W).drew
set_option maxRecDepth 100000 in
theorem cmp_lt (a b : Nat) : decide (cmpN a b < 0) = decide (a < b) := by
  unfold cmpN
  by_cases h : a < b
  · rw [if_pos h]; simp [h]
  · rw [if_neg h]
    by_cases h2 : b < a
    · rw [if_pos h2]; simp [h]
    · rw [if_neg h2]; simp [h]

set_option maxRecDepth 100000 in
theorem near_sub (a b : Nat) (ha : a < M256) (_hb : b < M256) : nearB a b = (!und a b && decide ((a + M256 - b) % M256 < 128)) := by
  unfold nearB und
  by_cases h : a < b
  · rw [decide_eq_true h, decide_eq_false (by omega)]
    rfl
  · rw [decide_eq_false h, show a + M256 - b = a - b + M256 by omega, Nat.add_mod_right, Nat.mod_eq_of_lt (by omega), Bool.not_false, Bool.true_and, decide_eq_decide]
    omega

set_option maxRecDepth 100000 in
set_option maxHeartbeats 4000000 in
theorem near_any (a b : Nat) (w : World) (ha : a < M256) (hb : b < M256) : Calls Tryd.prog 58 #[wv a, wv b] w fun e w' => e = .returned (.bool (nearB a b)) ∧ Ext w w' := by
  have HS : Ks w [(w.heap.size, a), (w.heap.size + 1, b)] ((w.alloc (.cells (wc a) 64)).alloc (.cells (wc b) 64)) :=
    ⟨fun x hx => by
      simp only [List.mem_cons, List.not_mem_nil, or_false] at hx
      rcases hx with rfl | rfl
      · exact (Cs.new _ _ _ _ rfl).alloc _
      · exact Cs.new _ _ _ _ (by simp), ((Ext.refl w).alloc _).alloc _⟩
  have HSUB := Lib.hid (fun W => sub_any a b W ha hb)
  have HOF := Lib.hid (fun W => of_any 128 128 rfl W (by decide))
  have hdl : (a + M256 - b) % M256 < M256 := Nat.mod_lt _ (by decide)
  have HCM := Lib.hid (fun W => cmp_any ((a + M256 - b) % M256) 128 W hdl (by decide))
  have hnb : nearB a b = (!und a b && decide ((a + M256 - b) % M256 < 128)) := near_sub a b ha hb
  have HNB := Lib.hid hnb
  clear ha hb hnb
  generalize (a + M256 - b) % M256 = d at *
  unfold wv
  go_enter Tryd.func58, Tryd.ntmps58
  go_wp2_with (first
    | ((with_reducible refine wpList_load_wordG ?_ 64 33 (.tmp 2) rfl Tryd.underlying64 winfo (w.heap.size) (a) ?_ ?_ ?_); (exact rfl); (exact rfl); (exact HS.at (w.heap.size) (a) (by simp)))
    | ((with_reducible refine wpList_load_wordG ?_ 64 33 (.tmp 3) rfl Tryd.underlying64 winfo (w.heap.size + 1) (b) ?_ ?_ ?_); (exact rfl); (exact rfl); (exact HS.at (w.heap.size + 1) (b) (by simp))))
  refine (HSUB.out _).mono ?_
  rintro e w2 ⟨rfl, he⟩
  have HS := HS.ext he
  clear he HSUB
  go_upto_region 2 with (first
    | ((with_reducible refine wpList_store_word rfl rfl 64 (.tmp 5) (.tmp 11) rfl winfo (w2.heap.size) (wc 0) (d) ?_ ?_ ?_ ?_ ?_); (exact rfl); (exact rfl); (exact heap_alloc_new _ _); (exact rfl); intro w3 kz gz; have HS := HS.put gz kz; clear kz gz))
  have HB0 : Hid (NrB w w2.heap.size d w3) := ⟨HS.at _ d (by simp), HS.2⟩
  generalize w2.heap.size = g5 at *
  clear HS
  cases hu : und a b with
  | true =>
    refine wp_named fun a0 ha0 => ?_
    obtain ⟨fr, hfr⟩ : ∃ fr : (Nat → Value) → Act, ∀ V, fr V = (((((((((a0.put (some 13) (V 0)).put (some 14) (V 1)).put (some 15) (V 2)).put (some 16) (V 3)).put (some 17) (V 4)).put (some 18) (V 5)).put (some 19) (V 6)).put (some 20) (V 7)).put (some 4) (V 8)) := ⟨fun V => (((((((((a0.put (some 13) (V 0)).put (some 14) (V 1)).put (some 15) (V 2)).put (some 16) (V 3)).put (some 17) (V 4)).put (some 18) (V 5)).put (some 19) (V 6)).put (some 20) (V 7)).put (some 4) (V 8)), fun _ => rfl⟩
    rw [ha0] at hfr
    simp only [Act.put, List.setIfInBounds_toArray, List.set_cons_zero, List.set_cons_succ] at hfr
    have HFR := Lib.hid hfr
    clear hfr
    refine wp_region_inv (by kernel_rfl) (by kernel_rfl) (fun L A W => ∃ V : Nat → Value, A = fr V ∧ Vals (fun j => ([some (.bool true), some (.bool false), some (.bool false), some (undef), some (undef), some (undef), some (undef), some (.bool false), some (.bool false)] : List (Option Value)).getD j none) L V ∧ NrB w g5 d W) ?_ ⟨?_, ?_, ?_, ?_, ?_, ?_, ?_, ?_, ?_, trivial⟩ ?_
    · refine ⟨fun j => a0.tmps.getD (([13, 14, 15, 16, 17, 18, 19, 20, 4] : List Nat).getD j 0) undef, ?_, Vals.no _ _ _ (far_none _ _ rfl), HB0.out.drew⟩
      rw [HFR.out, ha0]
      rfl
    all_goals clear ha0
    · rintro L A W K hL hC hW ⟨V, rfl, HV, hB⟩ hK
      have H := Lib.hid (show ∀ W', Ext W W' → K (fr (upd V 0 (.bool true))) W' from fun W' he => hK _ W' ⟨upd V 0 (.bool true), rfl, HV.up 0 _ (fun x hx => Option.some.inj hx), NrB.ext hB he⟩)
      clear hK hC hW hL HV
      rw [HFR.out]
      clear hB
      go_wp2_with fail
      show K _ _
      have := H.out _ (Ext.refl _)
      rw [HFR.out] at this
      exact this
    · rintro L A W K hL hC hW ⟨V, rfl, HV, hB⟩ hK
      have e0 : V 0 = .bool true := HV 0 _ rfl (hW 0 rfl)
      have H := Lib.hid (show ∀ W', Ext W W' → K (fr (upd V 1 (.bool false))) W' from fun W' he => hK _ W' ⟨upd V 1 (.bool false), rfl, HV.up 1 _ (fun x hx => Option.some.inj hx), NrB.ext hB he⟩)
      clear hK hC hW hL HV
      have u0 : (upd V 1 (.bool false)) 0 = .bool true := e0
      have HU := Lib.hid (show (upd V 1 (.bool false)) 0 = .bool true from u0)
      clear u0
      rw [HFR.out]
      rw [e0]
      clear e0
      clear hB
      go_wp2_with fail
      show K _ _
      have := H.out _ (Ext.refl _)
      rw [HFR.out] at this
      obtain u0 := HU.out
      rw [u0] at this
      exact this
    · rintro L A W K hL hC hW ⟨V, rfl, HV, hB⟩ hK
      have e1 : V 1 = .bool false := HV 1 _ rfl (hW 1 rfl)
      have H := Lib.hid (show ∀ W', Ext W W' → K (fr (upd V 2 (.bool false))) W' from fun W' he => hK _ W' ⟨upd V 2 (.bool false), rfl, HV.up 2 _ (fun x hx => Option.some.inj hx), NrB.ext hB he⟩)
      clear hK hC hW hL HV
      have u1 : (upd V 2 (.bool false)) 1 = .bool false := e1
      have HU := Lib.hid (show (upd V 2 (.bool false)) 1 = .bool false from u1)
      clear u1
      rw [HFR.out]
      rw [e1]
      clear e1
      clear hB
      go_wp2_with fail
      show K _ _
      have := H.out _ (Ext.refl _)
      rw [HFR.out] at this
      obtain u1 := HU.out
      rw [u1] at this
      exact this
    · rintro L A W K hL hC hW ⟨V, rfl, HV, hB⟩ hK
      have e2 : V 2 = .bool false := HV 2 _ rfl (hW 2 rfl)
      have H := Lib.hid (show ∀ W', Ext W W' → K (fr (upd V 3 (undef))) W' from fun W' he => hK _ W' ⟨upd V 3 (undef), rfl, HV.up 3 _ (fun x hx => Option.some.inj hx), NrB.ext hB he⟩)
      clear hK hC hW hL HV
      have u2 : (upd V 3 (undef)) 2 = .bool false := e2
      have HU := Lib.hid (show (upd V 3 (undef)) 2 = .bool false from u2)
      clear u2
      rw [HFR.out]
      rw [e2]
      clear e2
      clear hB
      go_wp2_with fail
      show K _ _
      have := H.out _ (Ext.refl _)
      rw [HFR.out] at this
      obtain u2 := HU.out
      rw [u2] at this
      exact this
    · rintro L A W K hL hC hW ⟨V, rfl, HV, hB⟩ hK
      have e2 : V 2 = .bool false := HV 2 _ rfl (hW 2 rfl)
      have H := Lib.hid (show ∀ W', Ext W W' → K (fr (upd V 4 (undef))) W' from fun W' he => hK _ W' ⟨upd V 4 (undef), rfl, HV.up 4 _ (fun x hx => Option.some.inj hx), NrB.ext hB he⟩)
      clear hK hC hW hL HV
      have u2 : (upd V 4 (undef)) 2 = .bool false := e2
      have HU := Lib.hid (show (upd V 4 (undef)) 2 = .bool false from u2)
      clear u2
      rw [HFR.out]
      rw [e2]
      clear e2
      clear hB
      go_wp2_with fail
      show K _ _
      have := H.out _ (Ext.refl _)
      rw [HFR.out] at this
      obtain u2 := HU.out
      rw [u2] at this
      exact this
    · rintro L A W K hL hC hW ⟨V, rfl, HV, hB⟩ hK
      have e2 : V 2 = .bool false := HV 2 _ rfl (hW 2 rfl)
      have e3 : V 3 = undef := HV 3 _ rfl (hW 3 rfl)
      have e4 : V 4 = undef := HV 4 _ rfl (hW 4 rfl)
      have H := Lib.hid (show ∀ W', Ext W W' → K (fr (upd V 5 (undef))) W' from fun W' he => hK _ W' ⟨upd V 5 (undef), rfl, HV.up 5 _ (fun x hx => Option.some.inj hx), NrB.ext hB he⟩)
      clear hK hC hW hL HV
      have u2 : (upd V 5 (undef)) 2 = .bool false := e2
      have u3 : (upd V 5 (undef)) 3 = undef := e3
      have u4 : (upd V 5 (undef)) 4 = undef := e4
      have HU := Lib.hid (show (upd V 5 (undef)) 2 = .bool false ∧ (upd V 5 (undef)) 3 = undef ∧ (upd V 5 (undef)) 4 = undef from ⟨u2, u3, u4⟩)
      clear u2 u3 u4
      rw [HFR.out]
      rw [e2, e3, e4]
      clear e2 e3 e4
      clear hB
      go_wp2_with fail
      show K _ _
      have := H.out _ (Ext.refl _)
      rw [HFR.out] at this
      obtain ⟨u2, u3, u4⟩ := HU.out
      rw [u2, u3, u4] at this
      exact this
    · rintro L A W K hL hC hW ⟨V, rfl, HV, hB⟩ hK
      have e2 : V 2 = .bool false := HV 2 _ rfl (hW 2 rfl)
      have e5 : V 5 = undef := HV 5 _ rfl (hW 5 rfl)
      have H := Lib.hid (show ∀ W', Ext W W' → K (fr (upd V 6 (undef))) W' from fun W' he => hK _ W' ⟨upd V 6 (undef), rfl, HV.up 6 _ (fun x hx => Option.some.inj hx), NrB.ext hB he⟩)
      clear hK hC hW hL HV
      have u2 : (upd V 6 (undef)) 2 = .bool false := e2
      have u5 : (upd V 6 (undef)) 5 = undef := e5
      have HU := Lib.hid (show (upd V 6 (undef)) 2 = .bool false ∧ (upd V 6 (undef)) 5 = undef from ⟨u2, u5⟩)
      clear u2 u5
      rw [HFR.out]
      rw [e2, e5]
      clear e2 e5
      clear hB
      go_wp2_with fail
      show K _ _
      have := H.out _ (Ext.refl _)
      rw [HFR.out] at this
      obtain ⟨u2, u5⟩ := HU.out
      rw [u2, u5] at this
      exact this
    · rintro L A W K hL hC hW ⟨V, rfl, HV, hB⟩ hK
      have e2 : V 2 = .bool false := HV 2 _ rfl (hW 2 rfl)
      have e6 : V 6 = undef := HV 6 _ rfl (hW 6 rfl)
      have H := Lib.hid (show ∀ W', Ext W W' → K (fr (upd V 7 (.bool false))) W' from fun W' he => hK _ W' ⟨upd V 7 (.bool false), rfl, HV.up 7 _ (fun x hx => Option.some.inj hx), NrB.ext hB he⟩)
      clear hK hC hW hL HV
      have u2 : (upd V 7 (.bool false)) 2 = .bool false := e2
      have u6 : (upd V 7 (.bool false)) 6 = undef := e6
      have HU := Lib.hid (show (upd V 7 (.bool false)) 2 = .bool false ∧ (upd V 7 (.bool false)) 6 = undef from ⟨u2, u6⟩)
      clear u2 u6
      rw [HFR.out]
      rw [e2, e6]
      clear e2 e6
      clear hB
      go_wp2_with fail
      show K _ _
      have := H.out _ (Ext.refl _)
      rw [HFR.out] at this
      obtain ⟨u2, u6⟩ := HU.out
      rw [u2, u6] at this
      exact this
    · rintro L A W K hL hC hW ⟨V, rfl, HV, hB⟩ hK
      have e7 : V 7 = .bool false := HV 7 _ rfl (hW 7 rfl)
      have H := Lib.hid (show ∀ W', Ext W W' → K (fr (upd V 8 (.bool false))) W' from fun W' he => hK _ W' ⟨upd V 8 (.bool false), rfl, HV.up 8 _ (fun x hx => Option.some.inj hx), NrB.ext hB he⟩)
      clear hK hC hW hL HV
      have u7 : (upd V 8 (.bool false)) 7 = .bool false := e7
      have HU := Lib.hid (show (upd V 8 (.bool false)) 7 = .bool false from u7)
      clear u7
      rw [HFR.out]
      rw [e7]
      clear e7
      clear hB
      go_wp2_with fail
      show K _ _
      have := H.out _ (Ext.refl _)
      rw [HFR.out] at this
      obtain u7 := HU.out
      rw [u7] at this
      exact this
    · rintro L A W hL ⟨V, rfl, HV, hB⟩
      have e0 : V 0 = .bool true := HV 0 _ rfl (hL 0 (by simp))
      have e1 : V 1 = .bool false := HV 1 _ rfl (hL 1 (by simp))
      have e2 : V 2 = .bool false := HV 2 _ rfl (hL 2 (by simp))
      have e3 : V 3 = undef := HV 3 _ rfl (hL 3 (by simp))
      have e4 : V 4 = undef := HV 4 _ rfl (hL 4 (by simp))
      have e5 : V 5 = undef := HV 5 _ rfl (hL 5 (by simp))
      have e6 : V 6 = undef := HV 6 _ rfl (hL 6 (by simp))
      have e7 : V 7 = .bool false := HV 7 _ rfl (hL 7 (by simp))
      have e8 : V 8 = .bool false := HV 8 _ rfl (hL 8 (by simp))
      rw [HFR.out]
      rw [e0, e1, e2, e3, e4, e5, e6, e7, e8]
      clear hL HV HFR e0 e1 e2 e3 e4 e5 e6 e7 e8
      go_wp2_with fail
      go_ret
      exact ⟨by rw [HNB.out, hu]; rfl, hB.2⟩
  | false =>
    by_cases hd : d < 128
    · have hq : decide (cmpN d 128 < 0) = true := by rw [cmp_lt]; simp [hd]
      refine wp_named fun a0 ha0 => ?_
      obtain ⟨fr, hfr⟩ : ∃ fr : (Nat → Value) → Act, ∀ V, fr V = (((((((((a0.put (some 13) (V 0)).put (some 14) (V 1)).put (some 15) (V 2)).put (some 16) (V 3)).put (some 17) (V 4)).put (some 18) (V 5)).put (some 19) (V 6)).put (some 20) (V 7)).put (some 4) (V 8)) := ⟨fun V => (((((((((a0.put (some 13) (V 0)).put (some 14) (V 1)).put (some 15) (V 2)).put (some 16) (V 3)).put (some 17) (V 4)).put (some 18) (V 5)).put (some 19) (V 6)).put (some 20) (V 7)).put (some 4) (V 8)), fun _ => rfl⟩
      rw [ha0] at hfr
      simp only [Act.put, List.setIfInBounds_toArray, List.set_cons_zero, List.set_cons_succ] at hfr
      have HFR := Lib.hid hfr
      clear hfr
      refine wp_region_inv (by kernel_rfl) (by kernel_rfl) (fun L A W => ∃ V : Nat → Value, A = fr V ∧ Vals (fun j => ([some (.bool false), some (.bool true), some (.bool true), some (wv d), some (wv 128), some (.int .i64 (cmpN d 128)), some (.bool true), some (.bool true), some (.bool true)] : List (Option Value)).getD j none) L V ∧ NrB w g5 d W) ?_ ⟨?_, ?_, ?_, ?_, ?_, ?_, ?_, ?_, ?_, trivial⟩ ?_
      · refine ⟨fun j => a0.tmps.getD (([13, 14, 15, 16, 17, 18, 19, 20, 4] : List Nat).getD j 0) undef, ?_, Vals.no _ _ _ (far_none _ _ rfl), HB0.out.drew⟩
        rw [HFR.out, ha0]
        rfl
      all_goals clear ha0
      · rintro L A W K hL hC hW ⟨V, rfl, HV, hB⟩ hK
        have H := Lib.hid (show ∀ W', Ext W W' → K (fr (upd V 0 (.bool false))) W' from fun W' he => hK _ W' ⟨upd V 0 (.bool false), rfl, HV.up 0 _ (fun x hx => Option.some.inj hx), NrB.ext hB he⟩)
        clear hK hC hW hL HV
        rw [HFR.out]
        clear hB
        go_wp2_with fail
        show K _ _
        have := H.out _ (Ext.refl _)
        rw [HFR.out] at this
        exact this
      · rintro L A W K hL hC hW ⟨V, rfl, HV, hB⟩ hK
        have e0 : V 0 = .bool false := HV 0 _ rfl (hW 0 rfl)
        have H := Lib.hid (show ∀ W', Ext W W' → K (fr (upd V 1 (.bool true))) W' from fun W' he => hK _ W' ⟨upd V 1 (.bool true), rfl, HV.up 1 _ (fun x hx => Option.some.inj hx), NrB.ext hB he⟩)
        clear hK hC hW hL HV
        have u0 : (upd V 1 (.bool true)) 0 = .bool false := e0
        have HU := Lib.hid (show (upd V 1 (.bool true)) 0 = .bool false from u0)
        clear u0
        rw [HFR.out]
        rw [e0]
        clear e0
        clear hB
        go_wp2_with fail
        show K _ _
        have := H.out _ (Ext.refl _)
        rw [HFR.out] at this
        obtain u0 := HU.out
        rw [u0] at this
        exact this
      · rintro L A W K hL hC hW ⟨V, rfl, HV, hB⟩ hK
        have e1 : V 1 = .bool true := HV 1 _ rfl (hW 1 rfl)
        have H := Lib.hid (show ∀ W', Ext W W' → K (fr (upd V 2 (.bool true))) W' from fun W' he => hK _ W' ⟨upd V 2 (.bool true), rfl, HV.up 2 _ (fun x hx => Option.some.inj hx), NrB.ext hB he⟩)
        clear hK hC hW hL HV
        have u1 : (upd V 2 (.bool true)) 1 = .bool true := e1
        have HU := Lib.hid (show (upd V 2 (.bool true)) 1 = .bool true from u1)
        clear u1
        rw [HFR.out]
        rw [e1]
        clear e1
        clear hB
        go_wp2_with fail
        show K _ _
        have := H.out _ (Ext.refl _)
        rw [HFR.out] at this
        obtain u1 := HU.out
        rw [u1] at this
        exact this
      · rintro L A W K hL hC hW ⟨V, rfl, HV, hB⟩ hK
        have e2 : V 2 = .bool true := HV 2 _ rfl (hW 2 rfl)
        have H := Lib.hid (show ∀ W', Ext W W' → K (fr (upd V 3 (wv d))) W' from fun W' he => hK _ W' ⟨upd V 3 (wv d), rfl, HV.up 3 _ (fun x hx => Option.some.inj hx), NrB.ext hB he⟩)
        clear hK hC hW hL HV
        have u2 : (upd V 3 (wv d)) 2 = .bool true := e2
        have HU := Lib.hid (show (upd V 3 (wv d)) 2 = .bool true from u2)
        clear u2
        rw [HFR.out]
        rw [e2]
        clear e2
        have HLn := Lib.hid hB.1
        clear hB
        go_wp2_with ((with_reducible refine wpList_load_wordG ?_ 64 33 (.tmp 5) rfl Tryd.underlying64 winfo g5 d ?_ ?_ ?_); (exact rfl); (exact rfl); (exact HLn.out))
        show K _ _
        have := H.out _ (Ext.refl _)
        rw [HFR.out] at this
        obtain u2 := HU.out
        rw [u2] at this
        exact this
      · rintro L A W K hL hC hW ⟨V, rfl, HV, hB⟩ hK
        have e2 : V 2 = .bool true := HV 2 _ rfl (hW 2 rfl)
        have H := Lib.hid (show ∀ W', Ext W W' → K (fr (upd V 4 (wv 128))) W' from fun W' he => hK _ W' ⟨upd V 4 (wv 128), rfl, HV.up 4 _ (fun x hx => Option.some.inj hx), NrB.ext hB he⟩)
        clear hK hC hW hL HV
        have u2 : (upd V 4 (wv 128)) 2 = .bool true := e2
        have HU := Lib.hid (show (upd V 4 (wv 128)) 2 = .bool true from u2)
        clear u2
        rw [HFR.out]
        rw [e2]
        clear e2
        go_wp2_with fail
        refine (HOF.out _).mono ?_
        rintro e wx ⟨rfl, he⟩
        go_wp2_with fail
        show K _ _
        have := H.out _ he
        rw [HFR.out] at this
        obtain u2 := HU.out
        rw [u2] at this
        exact this
      · rintro L A W K hL hC hW ⟨V, rfl, HV, hB⟩ hK
        have e2 : V 2 = .bool true := HV 2 _ rfl (hW 2 rfl)
        have e3 : V 3 = wv d := HV 3 _ rfl (hW 3 rfl)
        have e4 : V 4 = wv 128 := HV 4 _ rfl (hW 4 rfl)
        have H := Lib.hid (show ∀ W', Ext W W' → K (fr (upd V 5 (.int .i64 (cmpN d 128)))) W' from fun W' he => hK _ W' ⟨upd V 5 (.int .i64 (cmpN d 128)), rfl, HV.up 5 _ (fun x hx => Option.some.inj hx), NrB.ext hB he⟩)
        clear hK hC hW hL HV
        have u2 : (upd V 5 (.int .i64 (cmpN d 128))) 2 = .bool true := e2
        have u3 : (upd V 5 (.int .i64 (cmpN d 128))) 3 = wv d := e3
        have u4 : (upd V 5 (.int .i64 (cmpN d 128))) 4 = wv 128 := e4
        have HU := Lib.hid (show (upd V 5 (.int .i64 (cmpN d 128))) 2 = .bool true ∧ (upd V 5 (.int .i64 (cmpN d 128))) 3 = wv d ∧ (upd V 5 (.int .i64 (cmpN d 128))) 4 = wv 128 from ⟨u2, u3, u4⟩)
        clear u2 u3 u4
        rw [HFR.out]
        rw [e2, e3, e4]
        clear e2 e3 e4
        go_wp2_with fail
        refine (HCM.out _).mono ?_
        rintro e wx ⟨rfl, he⟩
        go_wp2_with fail
        show K _ _
        have := H.out _ he
        rw [HFR.out] at this
        obtain ⟨u2, u3, u4⟩ := HU.out
        rw [u2, u3, u4] at this
        exact this
      · rintro L A W K hL hC hW ⟨V, rfl, HV, hB⟩ hK
        have e2 : V 2 = .bool true := HV 2 _ rfl (hW 2 rfl)
        have e5 : V 5 = .int .i64 (cmpN d 128) := HV 5 _ rfl (hW 5 rfl)
        have H := Lib.hid (show ∀ W', Ext W W' → K (fr (upd V 6 (.bool true))) W' from fun W' he => hK _ W' ⟨upd V 6 (.bool true), rfl, HV.up 6 _ (fun x hx => Option.some.inj hx), NrB.ext hB he⟩)
        clear hK hC hW hL HV
        have u2 : (upd V 6 (.bool true)) 2 = .bool true := e2
        have u5 : (upd V 6 (.bool true)) 5 = .int .i64 (cmpN d 128) := e5
        have HU := Lib.hid (show (upd V 6 (.bool true)) 2 = .bool true ∧ (upd V 6 (.bool true)) 5 = .int .i64 (cmpN d 128) from ⟨u2, u5⟩)
        clear u2 u5
        rw [HFR.out]
        rw [e2, e5]
        clear e2 e5
        clear hB
        go_wp2_with fail
        show K _ _
        have := H.out _ (Ext.refl _)
        rw [HFR.out] at this
        obtain ⟨u2, u5⟩ := HU.out
        rw [u2, u5] at this
        exact this
      · rintro L A W K hL hC hW ⟨V, rfl, HV, hB⟩ hK
        have e2 : V 2 = .bool true := HV 2 _ rfl (hW 2 rfl)
        have e6 : V 6 = .bool true := HV 6 _ rfl (hW 6 rfl)
        have H := Lib.hid (show ∀ W', Ext W W' → K (fr (upd V 7 (.bool true))) W' from fun W' he => hK _ W' ⟨upd V 7 (.bool true), rfl, HV.up 7 _ (fun x hx => Option.some.inj hx), NrB.ext hB he⟩)
        clear hK hC hW hL HV
        have u2 : (upd V 7 (.bool true)) 2 = .bool true := e2
        have u6 : (upd V 7 (.bool true)) 6 = .bool true := e6
        have HU := Lib.hid (show (upd V 7 (.bool true)) 2 = .bool true ∧ (upd V 7 (.bool true)) 6 = .bool true from ⟨u2, u6⟩)
        clear u2 u6
        rw [HFR.out]
        rw [e2, e6]
        clear e2 e6
        clear hB
        go_wp2_with fail
        show K _ _
        have := H.out _ (Ext.refl _)
        rw [HFR.out] at this
        obtain ⟨u2, u6⟩ := HU.out
        rw [u2, u6] at this
        exact this
      · rintro L A W K hL hC hW ⟨V, rfl, HV, hB⟩ hK
        have e7 : V 7 = .bool true := HV 7 _ rfl (hW 7 rfl)
        have H := Lib.hid (show ∀ W', Ext W W' → K (fr (upd V 8 (.bool true))) W' from fun W' he => hK _ W' ⟨upd V 8 (.bool true), rfl, HV.up 8 _ (fun x hx => Option.some.inj hx), NrB.ext hB he⟩)
        clear hK hC hW hL HV
        have u7 : (upd V 8 (.bool true)) 7 = .bool true := e7
        have HU := Lib.hid (show (upd V 8 (.bool true)) 7 = .bool true from u7)
        clear u7
        rw [HFR.out]
        rw [e7]
        clear e7
        clear hB
        go_wp2_with fail
        show K _ _
        have := H.out _ (Ext.refl _)
        rw [HFR.out] at this
        obtain u7 := HU.out
        rw [u7] at this
        exact this
      · rintro L A W hL ⟨V, rfl, HV, hB⟩
        have e0 : V 0 = .bool false := HV 0 _ rfl (hL 0 (by simp))
        have e1 : V 1 = .bool true := HV 1 _ rfl (hL 1 (by simp))
        have e2 : V 2 = .bool true := HV 2 _ rfl (hL 2 (by simp))
        have e3 : V 3 = wv d := HV 3 _ rfl (hL 3 (by simp))
        have e4 : V 4 = wv 128 := HV 4 _ rfl (hL 4 (by simp))
        have e5 : V 5 = .int .i64 (cmpN d 128) := HV 5 _ rfl (hL 5 (by simp))
        have e6 : V 6 = .bool true := HV 6 _ rfl (hL 6 (by simp))
        have e7 : V 7 = .bool true := HV 7 _ rfl (hL 7 (by simp))
        have e8 : V 8 = .bool true := HV 8 _ rfl (hL 8 (by simp))
        rw [HFR.out]
        rw [e0, e1, e2, e3, e4, e5, e6, e7, e8]
        clear hL HV HFR e0 e1 e2 e3 e4 e5 e6 e7 e8
        go_wp2_with fail
        go_ret
        exact ⟨by rw [HNB.out, hu, decide_eq_true hd]; rfl, hB.2⟩
    · have hq : decide (cmpN d 128 < 0) = false := by rw [cmp_lt]; simp; omega
      refine wp_named fun a0 ha0 => ?_
      obtain ⟨fr, hfr⟩ : ∃ fr : (Nat → Value) → Act, ∀ V, fr V = (((((((((a0.put (some 13) (V 0)).put (some 14) (V 1)).put (some 15) (V 2)).put (some 16) (V 3)).put (some 17) (V 4)).put (some 18) (V 5)).put (some 19) (V 6)).put (some 20) (V 7)).put (some 4) (V 8)) := ⟨fun V => (((((((((a0.put (some 13) (V 0)).put (some 14) (V 1)).put (some 15) (V 2)).put (some 16) (V 3)).put (some 17) (V 4)).put (some 18) (V 5)).put (some 19) (V 6)).put (some 20) (V 7)).put (some 4) (V 8)), fun _ => rfl⟩
      rw [ha0] at hfr
      simp only [Act.put, List.setIfInBounds_toArray, List.set_cons_zero, List.set_cons_succ] at hfr
      have HFR := Lib.hid hfr
      clear hfr
      refine wp_region_inv (by kernel_rfl) (by kernel_rfl) (fun L A W => ∃ V : Nat → Value, A = fr V ∧ Vals (fun j => ([some (.bool false), some (.bool true), some (.bool true), some (wv d), some (wv 128), some (.int .i64 (cmpN d 128)), some (.bool false), some (.bool false), some (.bool false)] : List (Option Value)).getD j none) L V ∧ NrB w g5 d W) ?_ ⟨?_, ?_, ?_, ?_, ?_, ?_, ?_, ?_, ?_, trivial⟩ ?_
      · refine ⟨fun j => a0.tmps.getD (([13, 14, 15, 16, 17, 18, 19, 20, 4] : List Nat).getD j 0) undef, ?_, Vals.no _ _ _ (far_none _ _ rfl), HB0.out.drew⟩
        rw [HFR.out, ha0]
        rfl
      all_goals clear ha0
      · rintro L A W K hL hC hW ⟨V, rfl, HV, hB⟩ hK
        have H := Lib.hid (show ∀ W', Ext W W' → K (fr (upd V 0 (.bool false))) W' from fun W' he => hK _ W' ⟨upd V 0 (.bool false), rfl, HV.up 0 _ (fun x hx => Option.some.inj hx), NrB.ext hB he⟩)
        clear hK hC hW hL HV
        rw [HFR.out]
        clear hB
        go_wp2_with fail
        show K _ _
        have := H.out _ (Ext.refl _)
        rw [HFR.out] at this
        exact this
      · rintro L A W K hL hC hW ⟨V, rfl, HV, hB⟩ hK
        have e0 : V 0 = .bool false := HV 0 _ rfl (hW 0 rfl)
        have H := Lib.hid (show ∀ W', Ext W W' → K (fr (upd V 1 (.bool true))) W' from fun W' he => hK _ W' ⟨upd V 1 (.bool true), rfl, HV.up 1 _ (fun x hx => Option.some.inj hx), NrB.ext hB he⟩)
        clear hK hC hW hL HV
        have u0 : (upd V 1 (.bool true)) 0 = .bool false := e0
        have HU := Lib.hid (show (upd V 1 (.bool true)) 0 = .bool false from u0)
        clear u0
        rw [HFR.out]
        rw [e0]
        clear e0
        clear hB
        go_wp2_with fail
        show K _ _
        have := H.out _ (Ext.refl _)
        rw [HFR.out] at this
        obtain u0 := HU.out
        rw [u0] at this
        exact this
      · rintro L A W K hL hC hW ⟨V, rfl, HV, hB⟩ hK
        have e1 : V 1 = .bool true := HV 1 _ rfl (hW 1 rfl)
        have H := Lib.hid (show ∀ W', Ext W W' → K (fr (upd V 2 (.bool true))) W' from fun W' he => hK _ W' ⟨upd V 2 (.bool true), rfl, HV.up 2 _ (fun x hx => Option.some.inj hx), NrB.ext hB he⟩)
        clear hK hC hW hL HV
        have u1 : (upd V 2 (.bool true)) 1 = .bool true := e1
        have HU := Lib.hid (show (upd V 2 (.bool true)) 1 = .bool true from u1)
        clear u1
        rw [HFR.out]
        rw [e1]
        clear e1
        clear hB
        go_wp2_with fail
        show K _ _
        have := H.out _ (Ext.refl _)
        rw [HFR.out] at this
        obtain u1 := HU.out
        rw [u1] at this
        exact this
      · rintro L A W K hL hC hW ⟨V, rfl, HV, hB⟩ hK
        have e2 : V 2 = .bool true := HV 2 _ rfl (hW 2 rfl)
        have H := Lib.hid (show ∀ W', Ext W W' → K (fr (upd V 3 (wv d))) W' from fun W' he => hK _ W' ⟨upd V 3 (wv d), rfl, HV.up 3 _ (fun x hx => Option.some.inj hx), NrB.ext hB he⟩)
        clear hK hC hW hL HV
        have u2 : (upd V 3 (wv d)) 2 = .bool true := e2
        have HU := Lib.hid (show (upd V 3 (wv d)) 2 = .bool true from u2)
        clear u2
        rw [HFR.out]
        rw [e2]
        clear e2
        have HLn := Lib.hid hB.1
        clear hB
        go_wp2_with ((with_reducible refine wpList_load_wordG ?_ 64 33 (.tmp 5) rfl Tryd.underlying64 winfo g5 d ?_ ?_ ?_); (exact rfl); (exact rfl); (exact HLn.out))
        show K _ _
        have := H.out _ (Ext.refl _)
        rw [HFR.out] at this
        obtain u2 := HU.out
        rw [u2] at this
        exact this
      · rintro L A W K hL hC hW ⟨V, rfl, HV, hB⟩ hK
        have e2 : V 2 = .bool true := HV 2 _ rfl (hW 2 rfl)
        have H := Lib.hid (show ∀ W', Ext W W' → K (fr (upd V 4 (wv 128))) W' from fun W' he => hK _ W' ⟨upd V 4 (wv 128), rfl, HV.up 4 _ (fun x hx => Option.some.inj hx), NrB.ext hB he⟩)
        clear hK hC hW hL HV
        have u2 : (upd V 4 (wv 128)) 2 = .bool true := e2
        have HU := Lib.hid (show (upd V 4 (wv 128)) 2 = .bool true from u2)
        clear u2
        rw [HFR.out]
        rw [e2]
        clear e2
        go_wp2_with fail
        refine (HOF.out _).mono ?_
        rintro e wx ⟨rfl, he⟩
        go_wp2_with fail
        show K _ _
        have := H.out _ he
        rw [HFR.out] at this
        obtain u2 := HU.out
        rw [u2] at this
        exact this
      · rintro L A W K hL hC hW ⟨V, rfl, HV, hB⟩ hK
        have e2 : V 2 = .bool true := HV 2 _ rfl (hW 2 rfl)
        have e3 : V 3 = wv d := HV 3 _ rfl (hW 3 rfl)
        have e4 : V 4 = wv 128 := HV 4 _ rfl (hW 4 rfl)
        have H := Lib.hid (show ∀ W', Ext W W' → K (fr (upd V 5 (.int .i64 (cmpN d 128)))) W' from fun W' he => hK _ W' ⟨upd V 5 (.int .i64 (cmpN d 128)), rfl, HV.up 5 _ (fun x hx => Option.some.inj hx), NrB.ext hB he⟩)
        clear hK hC hW hL HV
        have u2 : (upd V 5 (.int .i64 (cmpN d 128))) 2 = .bool true := e2
        have u3 : (upd V 5 (.int .i64 (cmpN d 128))) 3 = wv d := e3
        have u4 : (upd V 5 (.int .i64 (cmpN d 128))) 4 = wv 128 := e4
        have HU := Lib.hid (show (upd V 5 (.int .i64 (cmpN d 128))) 2 = .bool true ∧ (upd V 5 (.int .i64 (cmpN d 128))) 3 = wv d ∧ (upd V 5 (.int .i64 (cmpN d 128))) 4 = wv 128 from ⟨u2, u3, u4⟩)
        clear u2 u3 u4
        rw [HFR.out]
        rw [e2, e3, e4]
        clear e2 e3 e4
        go_wp2_with fail
        refine (HCM.out _).mono ?_
        rintro e wx ⟨rfl, he⟩
        go_wp2_with fail
        show K _ _
        have := H.out _ he
        rw [HFR.out] at this
        obtain ⟨u2, u3, u4⟩ := HU.out
        rw [u2, u3, u4] at this
        exact this
      · rintro L A W K hL hC hW ⟨V, rfl, HV, hB⟩ hK
        have e2 : V 2 = .bool true := HV 2 _ rfl (hW 2 rfl)
        have e5 : V 5 = .int .i64 (cmpN d 128) := HV 5 _ rfl (hW 5 rfl)
        have H := Lib.hid (show ∀ W', Ext W W' → K (fr (upd V 6 (.bool false))) W' from fun W' he => hK _ W' ⟨upd V 6 (.bool false), rfl, HV.up 6 _ (fun x hx => Option.some.inj hx), NrB.ext hB he⟩)
        clear hK hC hW hL HV
        have u2 : (upd V 6 (.bool false)) 2 = .bool true := e2
        have u5 : (upd V 6 (.bool false)) 5 = .int .i64 (cmpN d 128) := e5
        have HU := Lib.hid (show (upd V 6 (.bool false)) 2 = .bool true ∧ (upd V 6 (.bool false)) 5 = .int .i64 (cmpN d 128) from ⟨u2, u5⟩)
        clear u2 u5
        rw [HFR.out]
        rw [e2, e5]
        clear e2 e5
        clear hB
        go_wp2_with fail
        show K _ _
        have := H.out _ (Ext.refl _)
        rw [HFR.out] at this
        obtain ⟨u2, u5⟩ := HU.out
        rw [u2, u5] at this
        exact this
      · rintro L A W K hL hC hW ⟨V, rfl, HV, hB⟩ hK
        have e2 : V 2 = .bool true := HV 2 _ rfl (hW 2 rfl)
        have e6 : V 6 = .bool false := HV 6 _ rfl (hW 6 rfl)
        have H := Lib.hid (show ∀ W', Ext W W' → K (fr (upd V 7 (.bool false))) W' from fun W' he => hK _ W' ⟨upd V 7 (.bool false), rfl, HV.up 7 _ (fun x hx => Option.some.inj hx), NrB.ext hB he⟩)
        clear hK hC hW hL HV
        have u2 : (upd V 7 (.bool false)) 2 = .bool true := e2
        have u6 : (upd V 7 (.bool false)) 6 = .bool false := e6
        have HU := Lib.hid (show (upd V 7 (.bool false)) 2 = .bool true ∧ (upd V 7 (.bool false)) 6 = .bool false from ⟨u2, u6⟩)
        clear u2 u6
        rw [HFR.out]
        rw [e2, e6]
        clear e2 e6
        clear hB
        go_wp2_with fail
        show K _ _
        have := H.out _ (Ext.refl _)
        rw [HFR.out] at this
        obtain ⟨u2, u6⟩ := HU.out
        rw [u2, u6] at this
        exact this
      · rintro L A W K hL hC hW ⟨V, rfl, HV, hB⟩ hK
        have e7 : V 7 = .bool false := HV 7 _ rfl (hW 7 rfl)
        have H := Lib.hid (show ∀ W', Ext W W' → K (fr (upd V 8 (.bool false))) W' from fun W' he => hK _ W' ⟨upd V 8 (.bool false), rfl, HV.up 8 _ (fun x hx => Option.some.inj hx), NrB.ext hB he⟩)
        clear hK hC hW hL HV
        have u7 : (upd V 8 (.bool false)) 7 = .bool false := e7
        have HU := Lib.hid (show (upd V 8 (.bool false)) 7 = .bool false from u7)
        clear u7
        rw [HFR.out]
        rw [e7]
        clear e7
        clear hB
        go_wp2_with fail
        show K _ _
        have := H.out _ (Ext.refl _)
        rw [HFR.out] at this
        obtain u7 := HU.out
        rw [u7] at this
        exact this
      · rintro L A W hL ⟨V, rfl, HV, hB⟩
        have e0 : V 0 = .bool false := HV 0 _ rfl (hL 0 (by simp))
        have e1 : V 1 = .bool true := HV 1 _ rfl (hL 1 (by simp))
        have e2 : V 2 = .bool true := HV 2 _ rfl (hL 2 (by simp))
        have e3 : V 3 = wv d := HV 3 _ rfl (hL 3 (by simp))
        have e4 : V 4 = wv 128 := HV 4 _ rfl (hL 4 (by simp))
        have e5 : V 5 = .int .i64 (cmpN d 128) := HV 5 _ rfl (hL 5 (by simp))
        have e6 : V 6 = .bool false := HV 6 _ rfl (hL 6 (by simp))
        have e7 : V 7 = .bool false := HV 7 _ rfl (hL 7 (by simp))
        have e8 : V 8 = .bool false := HV 8 _ rfl (hL 8 (by simp))
        rw [HFR.out]
        rw [e0, e1, e2, e3, e4, e5, e6, e7, e8]
        clear hL HV HFR e0 e1 e2 e3 e4 e5 e6 e7 e8
        go_wp2_with fail
        go_ret
        exact ⟨by rw [HNB.out, hu, decide_eq_false hd]; rfl, hB.2⟩
end Go.Proofs.YthjmjccggkejhaaDoor
