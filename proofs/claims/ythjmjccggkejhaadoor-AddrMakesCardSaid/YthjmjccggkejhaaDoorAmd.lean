/- AddrMakes: whatever is created, and whatever slot, is as the document says. -/
import Derived.Test.YthjmjccggkejhaaDoorAmc
import Derived.Test.YthjmjccggkejhaaDoorAdc
import Derived.Test.YthjmjccggkejhaaDoorSpr
import Derived.Test.YthjmjccggkejhaaDoorLbe
namespace Go.Proofs.YthjmjccggkejhaaDoor
open Go.ChangeShapes Go.WideShapes Go.ChangeAt Go.RowKit Go.Shelf

set_option maxRecDepth 100000 in
set_option maxHeartbeats 400000 in
theorem bclone_any (v : Value) (l : List UInt8) (w : World) (hb : Bs w v l) (hl : l.length ≤ 140737488355328) :
    Calls Tryd.prog 38 #[v] w (RetB w l) := by
  have HB := Lib.hid hb
  obtain ⟨A, c, rfl, h1, h2, h3⟩ := hb
  clear h1 h2
  have hnil := fun (w : World) (n : Nat) => Lib.run_eql_slice_nil (P := Tryd.prog) w 24 5 A n c 0 0 Tryd.underlying24
  rcases A with _ | ad
  · obtain rfl : l = [] := by
      rcases Nat.eq_zero_or_pos l.length with h0 | h0
      · exact List.eq_nil_of_length_eq_zero h0
      · obtain ⟨b, o, e, _⟩ := h3 h0
        cases e
    clear h3
    go_enter Tryd.func38, Tryd.ntmps38
    go_wp2
    go_ret
    exact ⟨_, rfl, own_nil _ _ _, Ext.refl _⟩
  · clear h3
    go_enter Tryd.func38, Tryd.ntmps38
    go_wp2_with (at_builtin; (refine wpList_append_bytes rfl (.tmp 5) (.tmp 6) _ rfl w.heap.size 5 Tryd.underlying24 u8info _ [] rfl (own_made w w.heap.size 5 (Nat.le_refl _)) _ l rfl (HB.out.ext ((Ext.refl w).alloc _)) (by simpa using hl) (by simp) ?_); intro v' w' ho hg hat; have HO := Lib.hid ho; have HG := Lib.hid hg; clear ho hg hat)
    go_ret
    exact ⟨v', rfl, by simpa using HO.out, ((Ext.refl w).alloc _).grown HG.out (Nat.le_refl _)⟩

def LwB (w : World) (g4 n : Nat) (v1 v2 : Value) (b : List UInt8) (W : World) : Prop := Wd W g4 64 n ∧ Bs W v1 b ∧ Bs W v2 b ∧ Tb w ∧ Ext w W
set_option maxRecDepth 100000 in
theorem LwB.ext {w : World} {g4 n : Nat} {v1 v2 : Value} {b : List UInt8} {W W' : World} (h : LwB w g4 n v1 v2 b W) (he : Ext W W') : LwB w g4 n v1 v2 b W' := ⟨h.1.ext he, h.2.1.ext he, h.2.2.1.ext he, h.2.2.2.1, h.2.2.2.2.trans he⟩
set_option maxRecDepth 100000 in
theorem LwB.tb {w : World} {g4 n : Nat} {v1 v2 : Value} {b : List UInt8} {W : World} (h : LwB w g4 n v1 v2 b W) : Tb W := h.2.2.2.1.ext h.2.2.2.2

set_option maxRecDepth 100000 in
set_option maxHeartbeats 1000000 in
theorem makes_any (a n : Nat) (v : Value) (b : List UInt8) (w : World) (ha : a < 18446744073709551616) (hn : n < M256) (hb : Bs w v b) (ht : Tb w) : Calls Tryd.prog 10 #[.int .u64 (a : Int), wv n, v] w (RetT w) := by
  have HB := Lib.hid hb
  have HT := Lib.hid ht
  have HA := Lib.hid ha
  have HN := Lib.hid hn
  have HK : Hid (Wd (w.alloc (.cells (wc n) 64)) w.heap.size 64 n) := Lib.hid (Cs.new _ _ _ _ rfl)
  have HE : Hid (Ext w (w.alloc (.cells (wc n) 64))) := (Ext.refl w).alloc _
  obtain ⟨A, c, rfl, h1, h2, _⟩ := hb
  unfold maxLen at h2
  clear ht ha hn
  unfold wv
  go_enter Tryd.func10, Tryd.ntmps10
  go_wp2_with fail
  refine (adrWakes_any _).mono ?_
  rintro e w1 ⟨rfl, he⟩
  have HK := Lib.hid (HK.out.ext he)
  have HE := Lib.hid (HE.out.trans he)
  clear he
  by_cases h500 : 500 < b.length
  · have hd : decide ((500 : Int) < (b.length : Int)) = true := decide_eq_true (by omega)
    go_wp2_with fail
    go_ret
    exact ⟨rfl, HE.out⟩
  · have hd : decide ((500 : Int) < (b.length : Int)) = false := decide_eq_false (by omega)
    have HL := Lib.hid (show b.length ≤ 1000000000 by omega)
    clear h500
    go_wp2_with fail
    refine (bclone_any _ b _ (HB.out.ext HE.out) (by have := HL.out; omega)).mono ?_
    rintro e w2 ⟨v2, rfl, ho, he⟩
    have HB0 : Hid (LwB w w.heap.size n (.slice A b.length c) v2 b w2) := Lib.hid ⟨HK.out.ext he, HB.out.ext (HE.out.trans he), ho.bs, HT.out, HE.out.trans he⟩
    clear ho he HK HE hd h1 h2
    go_upto_region 6 with fail
    generalize w.heap.size = g4 at *
    have HV1 := Lib.hid (show ∃ v1, (.slice A b.length c : Value) = v1 from ⟨_, rfl⟩)
    obtain ⟨v1, hv1⟩ := HV1.out
    clear HV1
    rw [hv1] at HB0 ⊢
    clear hv1
    have HC1 := Lib.hid (fun W (h : LwB w g4 n v1 v2 b W) => adrCreated_any a n v1 b W HA.out HN.out h.2.1 HL.out h.tb)
    have HC2 := Lib.hid (fun W (h : LwB w g4 n v1 v2 b W) => refAdrCreated_any a n v2 b W h.2.2.1 HL.out)
    have HS1 := Lib.hid (fun W (h : LwB w g4 n v1 v2 b W) => adrSlot_any a n W HA.out HN.out h.tb)
    have HS2 := Lib.hid (fun W (h : LwB w g4 n v1 v2 b W) => refAdrSlot_any a n W HA.out HN.out h.tb)
    have HD1 := Lib.hid (fun W (h : LwB w g4 n v1 v2 b W) => adrDigest_any v1 b W h.2.1 HL.out h.tb)
    have HD2 := Lib.hid (fun W (h : LwB w g4 n v1 v2 b W) => refAdrDigest_any v2 b W h.2.2.1 HL.out)
    have HEQ := Lib.hid (fun W (h : LwB w g4 n v1 v2 b W) => bytesEqual_same v1 v2 b W h.2.1 h.2.2.1)
    have hs := slotN_lt a n
    have hd := dgW_lt b
    generalize crN a n b = cr at *
    generalize slotN a n = s at *
    generalize dgW b = d at *
    refine wp_named fun a0 ha0 => ?_
    obtain ⟨fr, hfr⟩ : ∃ fr : (Nat → Value) → Act, ∀ V, fr V = (((((((((((((((((((((((((((((((a0.put (some 15) (V 0)).put (some 16) (V 1)).put (some 17) (V 2)).put (some 18) (V 3)).put (some 19) (V 4)).put (some 20) (V 5)).put (some 21) (V 6)).put (some 22) (V 7)).put (some 23) (V 8)).put (some 24) (V 9)).put (some 25) (V 10)).put (some 26) (V 11)).put (some 27) (V 12)).put (some 28) (V 13)).put (some 29) (V 14)).put (some 30) (V 15)).put (some 31) (V 16)).put (some 32) (V 17)).put (some 33) (V 18)).put (some 34) (V 19)).put (some 35) (V 20)).put (some 36) (V 21)).put (some 37) (V 22)).put (some 38) (V 23)).put (some 39) (V 24)).put (some 40) (V 25)).put (some 41) (V 26)).put (some 42) (V 27)).put (some 43) (V 28)).put (some 44) (V 29)).put (some 6) (V 30)) := ⟨fun V => (((((((((((((((((((((((((((((((a0.put (some 15) (V 0)).put (some 16) (V 1)).put (some 17) (V 2)).put (some 18) (V 3)).put (some 19) (V 4)).put (some 20) (V 5)).put (some 21) (V 6)).put (some 22) (V 7)).put (some 23) (V 8)).put (some 24) (V 9)).put (some 25) (V 10)).put (some 26) (V 11)).put (some 27) (V 12)).put (some 28) (V 13)).put (some 29) (V 14)).put (some 30) (V 15)).put (some 31) (V 16)).put (some 32) (V 17)).put (some 33) (V 18)).put (some 34) (V 19)).put (some 35) (V 20)).put (some 36) (V 21)).put (some 37) (V 22)).put (some 38) (V 23)).put (some 39) (V 24)).put (some 40) (V 25)).put (some 41) (V 26)).put (some 42) (V 27)).put (some 43) (V 28)).put (some 44) (V 29)).put (some 6) (V 30)), fun _ => rfl⟩
    rw [ha0] at hfr
    simp only [Act.put, List.setIfInBounds_toArray, List.set_cons_zero, List.set_cons_succ] at hfr
    have HFR := Lib.hid hfr
    clear hfr
    refine wp_region_inv (by kernel_rfl) (by kernel_rfl) (fun L A W => ∃ V : Nat → Value, A = fr V ∧ Vals (fun j => ([some (.int .u64 (a : Nat)), some (wv n), some (v1), some (.int .u64 (cr : Nat)), some (.int .u64 (a : Nat)), some (wv n), some (v2), some (.int .u64 (cr : Nat)), some (.bool true), some (.bool true), some (.int .u64 (a : Nat)), some (wv n), some (wv s), some (.int .u64 (a : Nat)), some (wv n), some (wv s), some (.bool true), some (.bool true), some (.bool true), some (v1), some (wv d), some (v2), some (wv d), some (.bool true), some (.bool true), some (.bool true), some (v1), some (v2), some (.bool true), some (.bool true), some (.bool true)] : List (Option Value)).getD j none) L V ∧ (LwB w g4 n v1 v2 b W)) ?_ ⟨?_, ?_, ?_, ?_, ?_, ?_, ?_, ?_, ?_, ?_, ?_, ?_, ?_, ?_, ?_, ?_, ?_, ?_, ?_, ?_, ?_, ?_, ?_, ?_, ?_, ?_, ?_, ?_, ?_, ?_, ?_, trivial⟩ ?_
    · refine ⟨fun j => a0.tmps.getD (([15, 16, 17, 18, 19, 20, 21, 22, 23, 24, 25, 26, 27, 28, 29, 30, 31, 32, 33, 34, 35, 36, 37, 38, 39, 40, 41, 42, 43, 44, 6] : List Nat).getD j 0) undef, ?_, Vals.no _ _ _ (far_none _ _ rfl), HB0.out.ext (Ext.refl _).drew⟩
      rw [HFR.out, ha0]
      rfl
    all_goals clear ha0
    · rintro L A W K hL hC hW ⟨V, rfl, HV, s0⟩ hK
      have H := Lib.hid (show ∀ W', Ext W W' → K (fr (upd V 0 (.int .u64 (a : Nat)))) W' from fun W' he => hK _ _ ⟨upd V 0 (.int .u64 (a : Nat)), rfl, HV.up 0 _ (fun x hx => Option.some.inj hx), LwB.ext s0 he⟩)
      clear hK hC hW hL HV s0
      rw [HFR.out]
      go_wp2_with fail
      show K _ _
      have := H.out _ (Ext.refl _)
      rw [HFR.out] at this
      exact this
    · rintro L A W K hL hC hW ⟨V, rfl, HV, s0⟩ hK
      have hB := s0
      have H := Lib.hid (show ∀ W', Ext W W' → K (fr (upd V 1 (wv n))) W' from fun W' he => hK _ _ ⟨upd V 1 (wv n), rfl, HV.up 1 _ (fun x hx => Option.some.inj hx), LwB.ext s0 he⟩)
      clear hK hC hW hL HV s0
      rw [HFR.out]
      have HW := Lib.hid hB.1
      clear hB
      refine wpList_load_wordG rfl 64 33 (.tmp 4) rfl Tryd.underlying64 winfo (g4) (n) rfl HW.out ?_
      show K _ _
      have := H.out _ (Ext.refl _)
      rw [HFR.out] at this
      exact this
    · rintro L A W K hL hC hW ⟨V, rfl, HV, s0⟩ hK
      have H := Lib.hid (show ∀ W', Ext W W' → K (fr (upd V 2 (v1))) W' from fun W' he => hK _ _ ⟨upd V 2 (v1), rfl, HV.up 2 _ (fun x hx => Option.some.inj hx), LwB.ext s0 he⟩)
      clear hK hC hW hL HV s0
      rw [HFR.out]
      go_wp2_with fail
      show K _ _
      have := H.out _ (Ext.refl _)
      rw [HFR.out] at this
      exact this
    · rintro L A W K hL hC hW ⟨V, rfl, HV, s0⟩ hK
      have e0 : V 0 = .int .u64 (a : Nat) := HV 0 _ rfl (hW 0 rfl)
      have e1 : V 1 = wv n := HV 1 _ rfl (hW 1 rfl)
      have e2 : V 2 = v1 := HV 2 _ rfl (hW 2 rfl)
      have hB := s0
      have H := Lib.hid (show ∀ W', Ext W W' → K (fr (upd V 3 (.int .u64 (cr : Nat)))) W' from fun W' he => hK _ _ ⟨upd V 3 (.int .u64 (cr : Nat)), rfl, HV.up 3 _ (fun x hx => Option.some.inj hx), LwB.ext s0 he⟩)
      have HU := Lib.hid (show (upd V 3 (.int .u64 (cr : Nat))) 0 = .int .u64 (a : Nat) ∧ (upd V 3 (.int .u64 (cr : Nat))) 1 = wv n ∧ (upd V 3 (.int .u64 (cr : Nat))) 2 = v1 from ⟨e0, e1, e2⟩)
      clear hK hC hW hL HV s0
      rw [HFR.out]
      rw [e0, e1, e2]
      clear e0 e1 e2
      go_wp2_with fail
      refine (HC1.out _ hB).mono ?_
      rintro e wx ⟨rfl, he⟩
      have := H.out _ he
      clear H
      go_wp2_with fail
      show K _ _
      rw [HFR.out] at this
      obtain ⟨u0, u1, u2⟩ := HU.out
      rw [u0, u1, u2] at this
      exact this
    · rintro L A W K hL hC hW ⟨V, rfl, HV, s0⟩ hK
      have H := Lib.hid (show ∀ W', Ext W W' → K (fr (upd V 4 (.int .u64 (a : Nat)))) W' from fun W' he => hK _ _ ⟨upd V 4 (.int .u64 (a : Nat)), rfl, HV.up 4 _ (fun x hx => Option.some.inj hx), LwB.ext s0 he⟩)
      clear hK hC hW hL HV s0
      rw [HFR.out]
      go_wp2_with fail
      show K _ _
      have := H.out _ (Ext.refl _)
      rw [HFR.out] at this
      exact this
    · rintro L A W K hL hC hW ⟨V, rfl, HV, s0⟩ hK
      have hB := s0
      have H := Lib.hid (show ∀ W', Ext W W' → K (fr (upd V 5 (wv n))) W' from fun W' he => hK _ _ ⟨upd V 5 (wv n), rfl, HV.up 5 _ (fun x hx => Option.some.inj hx), LwB.ext s0 he⟩)
      clear hK hC hW hL HV s0
      rw [HFR.out]
      have HW := Lib.hid hB.1
      clear hB
      refine wpList_load_wordG rfl 64 33 (.tmp 4) rfl Tryd.underlying64 winfo (g4) (n) rfl HW.out ?_
      show K _ _
      have := H.out _ (Ext.refl _)
      rw [HFR.out] at this
      exact this
    · rintro L A W K hL hC hW ⟨V, rfl, HV, s0⟩ hK
      have H := Lib.hid (show ∀ W', Ext W W' → K (fr (upd V 6 (v2))) W' from fun W' he => hK _ _ ⟨upd V 6 (v2), rfl, HV.up 6 _ (fun x hx => Option.some.inj hx), LwB.ext s0 he⟩)
      clear hK hC hW hL HV s0
      rw [HFR.out]
      go_wp2_with fail
      show K _ _
      have := H.out _ (Ext.refl _)
      rw [HFR.out] at this
      exact this
    · rintro L A W K hL hC hW ⟨V, rfl, HV, s0⟩ hK
      have e4 : V 4 = .int .u64 (a : Nat) := HV 4 _ rfl (hW 4 rfl)
      have e5 : V 5 = wv n := HV 5 _ rfl (hW 5 rfl)
      have e6 : V 6 = v2 := HV 6 _ rfl (hW 6 rfl)
      have hB := s0
      have H := Lib.hid (show ∀ W', Ext W W' → K (fr (upd V 7 (.int .u64 (cr : Nat)))) W' from fun W' he => hK _ _ ⟨upd V 7 (.int .u64 (cr : Nat)), rfl, HV.up 7 _ (fun x hx => Option.some.inj hx), LwB.ext s0 he⟩)
      have HU := Lib.hid (show (upd V 7 (.int .u64 (cr : Nat))) 4 = .int .u64 (a : Nat) ∧ (upd V 7 (.int .u64 (cr : Nat))) 5 = wv n ∧ (upd V 7 (.int .u64 (cr : Nat))) 6 = v2 from ⟨e4, e5, e6⟩)
      clear hK hC hW hL HV s0
      rw [HFR.out]
      rw [e4, e5, e6]
      clear e4 e5 e6
      go_wp2_with fail
      refine (HC2.out _ hB).mono ?_
      rintro e wx ⟨rfl, he⟩
      have := H.out _ he
      clear H
      go_wp2_with fail
      show K _ _
      rw [HFR.out] at this
      obtain ⟨u4, u5, u6⟩ := HU.out
      rw [u4, u5, u6] at this
      exact this
    · rintro L A W K hL hC hW ⟨V, rfl, HV, s0⟩ hK
      have e3 : V 3 = .int .u64 (cr : Nat) := HV 3 _ rfl (hW 3 rfl)
      have e7 : V 7 = .int .u64 (cr : Nat) := HV 7 _ rfl (hW 7 rfl)
      have H := Lib.hid (show ∀ W', Ext W W' → K (fr (upd V 8 (.bool true))) W' from fun W' he => hK _ _ ⟨upd V 8 (.bool true), rfl, HV.up 8 _ (fun x hx => Option.some.inj hx), LwB.ext s0 he⟩)
      have HU := Lib.hid (show (upd V 8 (.bool true)) 3 = .int .u64 (cr : Nat) ∧ (upd V 8 (.bool true)) 7 = .int .u64 (cr : Nat) from ⟨e3, e7⟩)
      clear hK hC hW hL HV s0
      rw [HFR.out]
      rw [e3, e7]
      clear e3 e7
      go_wp2_with fail
      show K _ _
      have := H.out _ (Ext.refl _)
      rw [HFR.out] at this
      obtain ⟨u3, u7⟩ := HU.out
      rw [u3, u7] at this
      exact this
    · rintro L A W K hL hC hW ⟨V, rfl, HV, s0⟩ hK
      have e8 : V 8 = .bool true := HV 8 _ rfl (hW 8 rfl)
      have H := Lib.hid (show ∀ W', Ext W W' → K (fr (upd V 9 (.bool true))) W' from fun W' he => hK _ _ ⟨upd V 9 (.bool true), rfl, HV.up 9 _ (fun x hx => Option.some.inj hx), LwB.ext s0 he⟩)
      have HU := Lib.hid (show (upd V 9 (.bool true)) 8 = .bool true from e8)
      clear hK hC hW hL HV s0
      rw [HFR.out]
      rw [e8]
      clear e8
      go_wp2_with fail
      show K _ _
      have := H.out _ (Ext.refl _)
      rw [HFR.out] at this
      obtain u8 := HU.out
      rw [u8] at this
      exact this
    · rintro L A W K hL hC hW ⟨V, rfl, HV, s0⟩ hK
      have e9 : V 9 = .bool true := HV 9 _ rfl (hW 9 rfl)
      have H := Lib.hid (show ∀ W', Ext W W' → K (fr (upd V 10 (.int .u64 (a : Nat)))) W' from fun W' he => hK _ _ ⟨upd V 10 (.int .u64 (a : Nat)), rfl, HV.up 10 _ (fun x hx => Option.some.inj hx), LwB.ext s0 he⟩)
      have HU := Lib.hid (show (upd V 10 (.int .u64 (a : Nat))) 9 = .bool true from e9)
      clear hK hC hW hL HV s0
      rw [HFR.out]
      rw [e9]
      clear e9
      go_wp2_with fail
      show K _ _
      have := H.out _ (Ext.refl _)
      rw [HFR.out] at this
      obtain u9 := HU.out
      rw [u9] at this
      exact this
    · rintro L A W K hL hC hW ⟨V, rfl, HV, s0⟩ hK
      have e9 : V 9 = .bool true := HV 9 _ rfl (hW 9 rfl)
      have hB := s0
      have H := Lib.hid (show ∀ W', Ext W W' → K (fr (upd V 11 (wv n))) W' from fun W' he => hK _ _ ⟨upd V 11 (wv n), rfl, HV.up 11 _ (fun x hx => Option.some.inj hx), LwB.ext s0 he⟩)
      have HU := Lib.hid (show (upd V 11 (wv n)) 9 = .bool true from e9)
      clear hK hC hW hL HV s0
      rw [HFR.out]
      rw [e9]
      clear e9
      have HW := Lib.hid hB.1
      clear hB
      refine wpList_load_wordG rfl 64 33 (.tmp 4) rfl Tryd.underlying64 winfo (g4) (n) rfl HW.out ?_
      show K _ _
      have := H.out _ (Ext.refl _)
      rw [HFR.out] at this
      obtain u9 := HU.out
      rw [u9] at this
      exact this
    · rintro L A W K hL hC hW ⟨V, rfl, HV, s0⟩ hK
      have e9 : V 9 = .bool true := HV 9 _ rfl (hW 9 rfl)
      have e10 : V 10 = .int .u64 (a : Nat) := HV 10 _ rfl (hW 10 rfl)
      have e11 : V 11 = wv n := HV 11 _ rfl (hW 11 rfl)
      have hB := s0
      have H := Lib.hid (show ∀ W', Ext W W' → K (fr (upd V 12 (wv s))) W' from fun W' he => hK _ _ ⟨upd V 12 (wv s), rfl, HV.up 12 _ (fun x hx => Option.some.inj hx), LwB.ext s0 he⟩)
      have HU := Lib.hid (show (upd V 12 (wv s)) 9 = .bool true ∧ (upd V 12 (wv s)) 10 = .int .u64 (a : Nat) ∧ (upd V 12 (wv s)) 11 = wv n from ⟨e9, e10, e11⟩)
      clear hK hC hW hL HV s0
      rw [HFR.out]
      rw [e9, e10, e11]
      clear e9 e10 e11
      go_wp2_with fail
      refine (HS1.out _ hB).mono ?_
      rintro e wx ⟨rfl, he⟩
      have := H.out _ he
      clear H
      go_wp2_with fail
      show K _ _
      rw [HFR.out] at this
      obtain ⟨u9, u10, u11⟩ := HU.out
      rw [u9, u10, u11] at this
      exact this
    · rintro L A W K hL hC hW ⟨V, rfl, HV, s0⟩ hK
      have e9 : V 9 = .bool true := HV 9 _ rfl (hW 9 rfl)
      have H := Lib.hid (show ∀ W', Ext W W' → K (fr (upd V 13 (.int .u64 (a : Nat)))) W' from fun W' he => hK _ _ ⟨upd V 13 (.int .u64 (a : Nat)), rfl, HV.up 13 _ (fun x hx => Option.some.inj hx), LwB.ext s0 he⟩)
      have HU := Lib.hid (show (upd V 13 (.int .u64 (a : Nat))) 9 = .bool true from e9)
      clear hK hC hW hL HV s0
      rw [HFR.out]
      rw [e9]
      clear e9
      go_wp2_with fail
      show K _ _
      have := H.out _ (Ext.refl _)
      rw [HFR.out] at this
      obtain u9 := HU.out
      rw [u9] at this
      exact this
    · rintro L A W K hL hC hW ⟨V, rfl, HV, s0⟩ hK
      have e9 : V 9 = .bool true := HV 9 _ rfl (hW 9 rfl)
      have hB := s0
      have H := Lib.hid (show ∀ W', Ext W W' → K (fr (upd V 14 (wv n))) W' from fun W' he => hK _ _ ⟨upd V 14 (wv n), rfl, HV.up 14 _ (fun x hx => Option.some.inj hx), LwB.ext s0 he⟩)
      have HU := Lib.hid (show (upd V 14 (wv n)) 9 = .bool true from e9)
      clear hK hC hW hL HV s0
      rw [HFR.out]
      rw [e9]
      clear e9
      have HW := Lib.hid hB.1
      clear hB
      refine wpList_load_wordG rfl 64 33 (.tmp 4) rfl Tryd.underlying64 winfo (g4) (n) rfl HW.out ?_
      show K _ _
      have := H.out _ (Ext.refl _)
      rw [HFR.out] at this
      obtain u9 := HU.out
      rw [u9] at this
      exact this
    · rintro L A W K hL hC hW ⟨V, rfl, HV, s0⟩ hK
      have e9 : V 9 = .bool true := HV 9 _ rfl (hW 9 rfl)
      have e13 : V 13 = .int .u64 (a : Nat) := HV 13 _ rfl (hW 13 rfl)
      have e14 : V 14 = wv n := HV 14 _ rfl (hW 14 rfl)
      have hB := s0
      have H := Lib.hid (show ∀ W', Ext W W' → K (fr (upd V 15 (wv s))) W' from fun W' he => hK _ _ ⟨upd V 15 (wv s), rfl, HV.up 15 _ (fun x hx => Option.some.inj hx), LwB.ext s0 he⟩)
      have HU := Lib.hid (show (upd V 15 (wv s)) 9 = .bool true ∧ (upd V 15 (wv s)) 13 = .int .u64 (a : Nat) ∧ (upd V 15 (wv s)) 14 = wv n from ⟨e9, e13, e14⟩)
      clear hK hC hW hL HV s0
      rw [HFR.out]
      rw [e9, e13, e14]
      clear e9 e13 e14
      go_wp2_with fail
      refine (HS2.out _ hB).mono ?_
      rintro e wx ⟨rfl, he⟩
      have := H.out _ he
      clear H
      go_wp2_with fail
      show K _ _
      rw [HFR.out] at this
      obtain ⟨u9, u13, u14⟩ := HU.out
      rw [u9, u13, u14] at this
      exact this
    · rintro L A W K hL hC hW ⟨V, rfl, HV, s0⟩ hK
      have e9 : V 9 = .bool true := HV 9 _ rfl (hW 9 rfl)
      have e12 : V 12 = wv s := HV 12 _ rfl (hW 12 rfl)
      have e15 : V 15 = wv s := HV 15 _ rfl (hW 15 rfl)
      have hB := s0
      have H := Lib.hid (show ∀ W', Ext W W' → K (fr (upd V 16 (.bool true))) W' from fun W' he => hK _ _ ⟨upd V 16 (.bool true), rfl, HV.up 16 _ (fun x hx => Option.some.inj hx), LwB.ext s0 he⟩)
      have HU := Lib.hid (show (upd V 16 (.bool true)) 9 = .bool true ∧ (upd V 16 (.bool true)) 12 = wv s ∧ (upd V 16 (.bool true)) 15 = wv s from ⟨e9, e12, e15⟩)
      clear hK hC hW hL HV s0
      rw [HFR.out]
      rw [e9, e12, e15]
      clear e9 e12 e15
      clear hB
      refine wpList_eql_word rfl (.tmp 27) (.tmp 30) rfl s s hs hs rfl rfl ?_
      rw [show (s == s) = true from by simp]
      show K _ _
      have := H.out _ (Ext.refl _)
      rw [HFR.out] at this
      obtain ⟨u9, u12, u15⟩ := HU.out
      rw [u9, u12, u15] at this
      exact this
    · rintro L A W K hL hC hW ⟨V, rfl, HV, s0⟩ hK
      have e9 : V 9 = .bool true := HV 9 _ rfl (hW 9 rfl)
      have e16 : V 16 = .bool true := HV 16 _ rfl (hW 16 rfl)
      have H := Lib.hid (show ∀ W', Ext W W' → K (fr (upd V 17 (.bool true))) W' from fun W' he => hK _ _ ⟨upd V 17 (.bool true), rfl, HV.up 17 _ (fun x hx => Option.some.inj hx), LwB.ext s0 he⟩)
      have HU := Lib.hid (show (upd V 17 (.bool true)) 9 = .bool true ∧ (upd V 17 (.bool true)) 16 = .bool true from ⟨e9, e16⟩)
      clear hK hC hW hL HV s0
      rw [HFR.out]
      rw [e9, e16]
      clear e9 e16
      go_wp2_with fail
      show K _ _
      have := H.out _ (Ext.refl _)
      rw [HFR.out] at this
      obtain ⟨u9, u16⟩ := HU.out
      rw [u9, u16] at this
      exact this
    · rintro L A W K hL hC hW ⟨V, rfl, HV, s0⟩ hK
      have e17 : V 17 = .bool true := HV 17 _ rfl (hW 17 rfl)
      have H := Lib.hid (show ∀ W', Ext W W' → K (fr (upd V 18 (.bool true))) W' from fun W' he => hK _ _ ⟨upd V 18 (.bool true), rfl, HV.up 18 _ (fun x hx => Option.some.inj hx), LwB.ext s0 he⟩)
      have HU := Lib.hid (show (upd V 18 (.bool true)) 17 = .bool true from e17)
      clear hK hC hW hL HV s0
      rw [HFR.out]
      rw [e17]
      clear e17
      go_wp2_with fail
      show K _ _
      have := H.out _ (Ext.refl _)
      rw [HFR.out] at this
      obtain u17 := HU.out
      rw [u17] at this
      exact this
    · rintro L A W K hL hC hW ⟨V, rfl, HV, s0⟩ hK
      have e18 : V 18 = .bool true := HV 18 _ rfl (hW 18 rfl)
      have H := Lib.hid (show ∀ W', Ext W W' → K (fr (upd V 19 (v1))) W' from fun W' he => hK _ _ ⟨upd V 19 (v1), rfl, HV.up 19 _ (fun x hx => Option.some.inj hx), LwB.ext s0 he⟩)
      have HU := Lib.hid (show (upd V 19 (v1)) 18 = .bool true from e18)
      clear hK hC hW hL HV s0
      rw [HFR.out]
      rw [e18]
      clear e18
      go_wp2_with fail
      show K _ _
      have := H.out _ (Ext.refl _)
      rw [HFR.out] at this
      obtain u18 := HU.out
      rw [u18] at this
      exact this
    · rintro L A W K hL hC hW ⟨V, rfl, HV, s0⟩ hK
      have e18 : V 18 = .bool true := HV 18 _ rfl (hW 18 rfl)
      have e19 : V 19 = v1 := HV 19 _ rfl (hW 19 rfl)
      have hB := s0
      have H := Lib.hid (show ∀ W', Ext W W' → K (fr (upd V 20 (wv d))) W' from fun W' he => hK _ _ ⟨upd V 20 (wv d), rfl, HV.up 20 _ (fun x hx => Option.some.inj hx), LwB.ext s0 he⟩)
      have HU := Lib.hid (show (upd V 20 (wv d)) 18 = .bool true ∧ (upd V 20 (wv d)) 19 = v1 from ⟨e18, e19⟩)
      clear hK hC hW hL HV s0
      rw [HFR.out]
      rw [e18, e19]
      clear e18 e19
      go_wp2_with fail
      refine (HD1.out _ hB).mono ?_
      rintro e wx ⟨rfl, he⟩
      have := H.out _ he
      clear H
      go_wp2_with fail
      show K _ _
      rw [HFR.out] at this
      obtain ⟨u18, u19⟩ := HU.out
      rw [u18, u19] at this
      exact this
    · rintro L A W K hL hC hW ⟨V, rfl, HV, s0⟩ hK
      have e18 : V 18 = .bool true := HV 18 _ rfl (hW 18 rfl)
      have H := Lib.hid (show ∀ W', Ext W W' → K (fr (upd V 21 (v2))) W' from fun W' he => hK _ _ ⟨upd V 21 (v2), rfl, HV.up 21 _ (fun x hx => Option.some.inj hx), LwB.ext s0 he⟩)
      have HU := Lib.hid (show (upd V 21 (v2)) 18 = .bool true from e18)
      clear hK hC hW hL HV s0
      rw [HFR.out]
      rw [e18]
      clear e18
      go_wp2_with fail
      show K _ _
      have := H.out _ (Ext.refl _)
      rw [HFR.out] at this
      obtain u18 := HU.out
      rw [u18] at this
      exact this
    · rintro L A W K hL hC hW ⟨V, rfl, HV, s0⟩ hK
      have e18 : V 18 = .bool true := HV 18 _ rfl (hW 18 rfl)
      have e21 : V 21 = v2 := HV 21 _ rfl (hW 21 rfl)
      have hB := s0
      have H := Lib.hid (show ∀ W', Ext W W' → K (fr (upd V 22 (wv d))) W' from fun W' he => hK _ _ ⟨upd V 22 (wv d), rfl, HV.up 22 _ (fun x hx => Option.some.inj hx), LwB.ext s0 he⟩)
      have HU := Lib.hid (show (upd V 22 (wv d)) 18 = .bool true ∧ (upd V 22 (wv d)) 21 = v2 from ⟨e18, e21⟩)
      clear hK hC hW hL HV s0
      rw [HFR.out]
      rw [e18, e21]
      clear e18 e21
      go_wp2_with fail
      refine (HD2.out _ hB).mono ?_
      rintro e wx ⟨rfl, he⟩
      have := H.out _ he
      clear H
      go_wp2_with fail
      show K _ _
      rw [HFR.out] at this
      obtain ⟨u18, u21⟩ := HU.out
      rw [u18, u21] at this
      exact this
    · rintro L A W K hL hC hW ⟨V, rfl, HV, s0⟩ hK
      have e18 : V 18 = .bool true := HV 18 _ rfl (hW 18 rfl)
      have e20 : V 20 = wv d := HV 20 _ rfl (hW 20 rfl)
      have e22 : V 22 = wv d := HV 22 _ rfl (hW 22 rfl)
      have hB := s0
      have H := Lib.hid (show ∀ W', Ext W W' → K (fr (upd V 23 (.bool true))) W' from fun W' he => hK _ _ ⟨upd V 23 (.bool true), rfl, HV.up 23 _ (fun x hx => Option.some.inj hx), LwB.ext s0 he⟩)
      have HU := Lib.hid (show (upd V 23 (.bool true)) 18 = .bool true ∧ (upd V 23 (.bool true)) 20 = wv d ∧ (upd V 23 (.bool true)) 22 = wv d from ⟨e18, e20, e22⟩)
      clear hK hC hW hL HV s0
      rw [HFR.out]
      rw [e18, e20, e22]
      clear e18 e20 e22
      clear hB
      refine wpList_eql_word rfl (.tmp 35) (.tmp 37) rfl d d hd hd rfl rfl ?_
      rw [show (d == d) = true from by simp]
      show K _ _
      have := H.out _ (Ext.refl _)
      rw [HFR.out] at this
      obtain ⟨u18, u20, u22⟩ := HU.out
      rw [u18, u20, u22] at this
      exact this
    · rintro L A W K hL hC hW ⟨V, rfl, HV, s0⟩ hK
      have e18 : V 18 = .bool true := HV 18 _ rfl (hW 18 rfl)
      have e23 : V 23 = .bool true := HV 23 _ rfl (hW 23 rfl)
      have H := Lib.hid (show ∀ W', Ext W W' → K (fr (upd V 24 (.bool true))) W' from fun W' he => hK _ _ ⟨upd V 24 (.bool true), rfl, HV.up 24 _ (fun x hx => Option.some.inj hx), LwB.ext s0 he⟩)
      have HU := Lib.hid (show (upd V 24 (.bool true)) 18 = .bool true ∧ (upd V 24 (.bool true)) 23 = .bool true from ⟨e18, e23⟩)
      clear hK hC hW hL HV s0
      rw [HFR.out]
      rw [e18, e23]
      clear e18 e23
      go_wp2_with fail
      show K _ _
      have := H.out _ (Ext.refl _)
      rw [HFR.out] at this
      obtain ⟨u18, u23⟩ := HU.out
      rw [u18, u23] at this
      exact this
    · rintro L A W K hL hC hW ⟨V, rfl, HV, s0⟩ hK
      have e24 : V 24 = .bool true := HV 24 _ rfl (hW 24 rfl)
      have H := Lib.hid (show ∀ W', Ext W W' → K (fr (upd V 25 (.bool true))) W' from fun W' he => hK _ _ ⟨upd V 25 (.bool true), rfl, HV.up 25 _ (fun x hx => Option.some.inj hx), LwB.ext s0 he⟩)
      have HU := Lib.hid (show (upd V 25 (.bool true)) 24 = .bool true from e24)
      clear hK hC hW hL HV s0
      rw [HFR.out]
      rw [e24]
      clear e24
      go_wp2_with fail
      show K _ _
      have := H.out _ (Ext.refl _)
      rw [HFR.out] at this
      obtain u24 := HU.out
      rw [u24] at this
      exact this
    · rintro L A W K hL hC hW ⟨V, rfl, HV, s0⟩ hK
      have e25 : V 25 = .bool true := HV 25 _ rfl (hW 25 rfl)
      have H := Lib.hid (show ∀ W', Ext W W' → K (fr (upd V 26 (v1))) W' from fun W' he => hK _ _ ⟨upd V 26 (v1), rfl, HV.up 26 _ (fun x hx => Option.some.inj hx), LwB.ext s0 he⟩)
      have HU := Lib.hid (show (upd V 26 (v1)) 25 = .bool true from e25)
      clear hK hC hW hL HV s0
      rw [HFR.out]
      rw [e25]
      clear e25
      go_wp2_with fail
      show K _ _
      have := H.out _ (Ext.refl _)
      rw [HFR.out] at this
      obtain u25 := HU.out
      rw [u25] at this
      exact this
    · rintro L A W K hL hC hW ⟨V, rfl, HV, s0⟩ hK
      have e25 : V 25 = .bool true := HV 25 _ rfl (hW 25 rfl)
      have H := Lib.hid (show ∀ W', Ext W W' → K (fr (upd V 27 (v2))) W' from fun W' he => hK _ _ ⟨upd V 27 (v2), rfl, HV.up 27 _ (fun x hx => Option.some.inj hx), LwB.ext s0 he⟩)
      have HU := Lib.hid (show (upd V 27 (v2)) 25 = .bool true from e25)
      clear hK hC hW hL HV s0
      rw [HFR.out]
      rw [e25]
      clear e25
      go_wp2_with fail
      show K _ _
      have := H.out _ (Ext.refl _)
      rw [HFR.out] at this
      obtain u25 := HU.out
      rw [u25] at this
      exact this
    · rintro L A W K hL hC hW ⟨V, rfl, HV, s0⟩ hK
      have e25 : V 25 = .bool true := HV 25 _ rfl (hW 25 rfl)
      have e26 : V 26 = v1 := HV 26 _ rfl (hW 26 rfl)
      have e27 : V 27 = v2 := HV 27 _ rfl (hW 27 rfl)
      have hB := s0
      have H := Lib.hid (show ∀ W', Ext W W' → K (fr (upd V 28 (.bool true))) W' from fun W' he => hK _ _ ⟨upd V 28 (.bool true), rfl, HV.up 28 _ (fun x hx => Option.some.inj hx), LwB.ext s0 he⟩)
      have HU := Lib.hid (show (upd V 28 (.bool true)) 25 = .bool true ∧ (upd V 28 (.bool true)) 26 = v1 ∧ (upd V 28 (.bool true)) 27 = v2 from ⟨e25, e26, e27⟩)
      clear hK hC hW hL HV s0
      rw [HFR.out]
      rw [e25, e26, e27]
      clear e25 e26 e27
      go_wp2_with fail
      refine (HEQ.out _ hB).mono ?_
      rintro e wx ⟨rfl, he⟩
      have := H.out _ he
      clear H
      go_wp2_with fail
      show K _ _
      rw [HFR.out] at this
      obtain ⟨u25, u26, u27⟩ := HU.out
      rw [u25, u26, u27] at this
      exact this
    · rintro L A W K hL hC hW ⟨V, rfl, HV, s0⟩ hK
      have e25 : V 25 = .bool true := HV 25 _ rfl (hW 25 rfl)
      have e28 : V 28 = .bool true := HV 28 _ rfl (hW 28 rfl)
      have H := Lib.hid (show ∀ W', Ext W W' → K (fr (upd V 29 (.bool true))) W' from fun W' he => hK _ _ ⟨upd V 29 (.bool true), rfl, HV.up 29 _ (fun x hx => Option.some.inj hx), LwB.ext s0 he⟩)
      have HU := Lib.hid (show (upd V 29 (.bool true)) 25 = .bool true ∧ (upd V 29 (.bool true)) 28 = .bool true from ⟨e25, e28⟩)
      clear hK hC hW hL HV s0
      rw [HFR.out]
      rw [e25, e28]
      clear e25 e28
      go_wp2_with fail
      show K _ _
      have := H.out _ (Ext.refl _)
      rw [HFR.out] at this
      obtain ⟨u25, u28⟩ := HU.out
      rw [u25, u28] at this
      exact this
    · rintro L A W K hL hC hW ⟨V, rfl, HV, s0⟩ hK
      have e29 : V 29 = .bool true := HV 29 _ rfl (hW 29 rfl)
      have H := Lib.hid (show ∀ W', Ext W W' → K (fr (upd V 30 (.bool true))) W' from fun W' he => hK _ _ ⟨upd V 30 (.bool true), rfl, HV.up 30 _ (fun x hx => Option.some.inj hx), LwB.ext s0 he⟩)
      have HU := Lib.hid (show (upd V 30 (.bool true)) 29 = .bool true from e29)
      clear hK hC hW hL HV s0
      rw [HFR.out]
      rw [e29]
      clear e29
      go_wp2_with fail
      show K _ _
      have := H.out _ (Ext.refl _)
      rw [HFR.out] at this
      obtain u29 := HU.out
      rw [u29] at this
      exact this
    · rintro L A W hL ⟨V, rfl, HV, s0⟩
      have e0 : V 0 = .int .u64 (a : Nat) := HV 0 _ rfl (hL 0 (by simp))
      have e1 : V 1 = wv n := HV 1 _ rfl (hL 1 (by simp))
      have e2 : V 2 = v1 := HV 2 _ rfl (hL 2 (by simp))
      have e3 : V 3 = .int .u64 (cr : Nat) := HV 3 _ rfl (hL 3 (by simp))
      have e4 : V 4 = .int .u64 (a : Nat) := HV 4 _ rfl (hL 4 (by simp))
      have e5 : V 5 = wv n := HV 5 _ rfl (hL 5 (by simp))
      have e6 : V 6 = v2 := HV 6 _ rfl (hL 6 (by simp))
      have e7 : V 7 = .int .u64 (cr : Nat) := HV 7 _ rfl (hL 7 (by simp))
      have e8 : V 8 = .bool true := HV 8 _ rfl (hL 8 (by simp))
      have e9 : V 9 = .bool true := HV 9 _ rfl (hL 9 (by simp))
      have e10 : V 10 = .int .u64 (a : Nat) := HV 10 _ rfl (hL 10 (by simp))
      have e11 : V 11 = wv n := HV 11 _ rfl (hL 11 (by simp))
      have e12 : V 12 = wv s := HV 12 _ rfl (hL 12 (by simp))
      have e13 : V 13 = .int .u64 (a : Nat) := HV 13 _ rfl (hL 13 (by simp))
      have e14 : V 14 = wv n := HV 14 _ rfl (hL 14 (by simp))
      have e15 : V 15 = wv s := HV 15 _ rfl (hL 15 (by simp))
      have e16 : V 16 = .bool true := HV 16 _ rfl (hL 16 (by simp))
      have e17 : V 17 = .bool true := HV 17 _ rfl (hL 17 (by simp))
      have e18 : V 18 = .bool true := HV 18 _ rfl (hL 18 (by simp))
      have e19 : V 19 = v1 := HV 19 _ rfl (hL 19 (by simp))
      have e20 : V 20 = wv d := HV 20 _ rfl (hL 20 (by simp))
      have e21 : V 21 = v2 := HV 21 _ rfl (hL 21 (by simp))
      have e22 : V 22 = wv d := HV 22 _ rfl (hL 22 (by simp))
      have e23 : V 23 = .bool true := HV 23 _ rfl (hL 23 (by simp))
      have e24 : V 24 = .bool true := HV 24 _ rfl (hL 24 (by simp))
      have e25 : V 25 = .bool true := HV 25 _ rfl (hL 25 (by simp))
      have e26 : V 26 = v1 := HV 26 _ rfl (hL 26 (by simp))
      have e27 : V 27 = v2 := HV 27 _ rfl (hL 27 (by simp))
      have e28 : V 28 = .bool true := HV 28 _ rfl (hL 28 (by simp))
      have e29 : V 29 = .bool true := HV 29 _ rfl (hL 29 (by simp))
      have e30 : V 30 = .bool true := HV 30 _ rfl (hL 30 (by simp))
      have hA := s0
      rw [HFR.out]
      rw [e0, e1, e2, e3, e4, e5, e6, e7, e8, e9, e10, e11, e12, e13, e14, e15, e16, e17, e18, e19, e20, e21, e22, e23, e24, e25, e26, e27, e28, e29, e30]
      clear hL HV HFR e0 e1 e2 e3 e4 e5 e6 e7 e8 e9 e10 e11 e12 e13 e14 e15 e16 e17 e18 e19 e20 e21 e22 e23 e24 e25 e26 e27 e28 e29 e30 s0
      clear HC1 HC2 HS1 HS2 HD1 HD2 HEQ HB0
      have HR := Lib.hid hA.2.2.2.2
      clear hA hs hd
      go_wp2_with fail
      go_ret
      exact ⟨rfl, HR.out⟩

set_option maxRecDepth 100000 in
theorem makes_told (W : World) (args : Array Value) (h : Told Tryd.f10 W args) (ht : Tb W) : Calls Tryd.prog 10 args W (RetT W) := by
  obtain ⟨H, enc, base, ds, p, hval, hA⟩ := h
  rw [Tryd.params10] at hA hval
  obtain ⟨v0, v1, v2, d0, d1, d2, p0, p1, p2, ha, rfl, rfl, h0, h1, h2⟩ := trodAll_three hA
  obtain rfl : args = #[v0, v1, v2] := by apply Array.toList_inj.1; rw [ha]
  obtain ⟨a, rfl, ha0⟩ := u64_came Tryd.underlying62 (hval 0 _ _ rfl rfl) h0
  obtain ⟨n, hn, rfl⟩ := word_came (hval 1 _ _ rfl rfl) h1
  obtain ⟨b, hb⟩ := bs_came (hval 2 _ _ rfl rfl) h2
  exact makes_any a n v2 b W ha0 hn hb ht

set_option maxRecDepth 100000 in
theorem makes_spec (H : Type) : ∀ ds : List (DataW H), ds.length = Tryd.f10.params.toList.length → Rows.addrMakesSpec.fn H ds = { results := [.lit (.bool true)], args := ds }
  | [_, _, _], _ => rfl
  | [], h | [_], h | [_, _], h | _ :: _ :: _ :: _ :: _, h => by rw [Tryd.params10] at h; simp at h

set_option maxRecDepth 100000 in
theorem addrMakes_holds : Rows.AddrMakesSaid :=
  OpenClaim.holds_of_wide 10 Tryd.f10 rfl rfl rfl rfl rfl rfl rfl ⟨rfl, rfl, rfl, rfl, rfl⟩ rfl rfl rfl rfl rfl (by kernel_rfl) Tryd.func10 (by kernel_rfl)
    (of_decide_eq_true (by kernel_rfl)) (by unfold Func.isWrapper; first | (rw [if_pos (by decide +kernel)]; kernel_rfl) | (rw [if_neg (by decide +kernel)]; exact ⟨rfl, rfl⟩))
    (fun os started H enc _ => law_lifted_t started (by kernel_rfl) Tryd.func10 rfl rfl (makes_spec H) (of_decide_eq_true (by kernel_rfl))
      (ChangeSpec.witness_shaped (enc := enc) (C := Tryd.checked) (os := os) (X := fun w _ => laidMetH Tryd.prog laid2 w) false (World.doorLaid Tryd.prog 400 os) #[.int .u64 0, .agg #[.int .u64 0, .int .u64 0, .int .u64 0, .int .u64 0], .slice none 0 0] 8 rfl (World.shaped_of_RefB (by kernel_rfl) (by kernel_rfl)) (by kernel_rfl) (by kernel_rfl) (by kernel_rfl) (door_met os _)) makes_told)

set_option maxRecDepth 100000 in
theorem addrMakes_card : Rows.AddrMakesCardSaid :=
  Claim7.holds_tied_plain_at .later [] [.data, .data] true (true, "6022e3c362c65ddb5e4c18bedef3ddafca15e789426a41385729bbd240e05e94") false
    addrMakes_holds (fun _ h => by cases h) (by kernel_rfl) (fun _ h => by cases h) addrMakes_row_tie rfl ⟨rfl, rfl⟩ (by kernel_rfl) rfl
    (fun f fn hf hfn => by
      obtain rfl : f = 10 := Option.some.inj ((show Tryd.prog.funcNamed "sheafer/sheaferlaw05.AddrMakes" = some 10 by kernel_rfl).symm.trans hf) |>.symm
      obtain rfl : fn = Tryd.f10 := (Option.some.inj (Tryd.func10.symm.trans hfn)).symm
      exact ⟨by kernel_rfl, fun j t ht => by
        rw [Tryd.params10] at ht
        have hm : t ∈ [62, 64, 24] := by simpa using Array.mem_of_getElem? ht
        have hall : ([62, 64, 24].all fun u => !Tryd.prog.wantsStandIn u) = true := by kernel_rfl
        exact (show Tryd.prog.wantsStandIn t = false by simpa using List.all_eq_true.1 hall t hm)⟩)
    (by kernel_rfl)
end Go.Proofs.YthjmjccggkejhaaDoor
