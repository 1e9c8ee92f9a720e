/- The document's Move, Save. The document's Save. -/
import Derived.Test.YtiojfpdjnblkhaaQSde
namespace Go.Proofs.Ytiojfpdjnblkhaa
open Go.ChangeShapes Go.WideShapes Go.ChangeAt Go.RowKit Go.Shelf

set_option maxRecDepth 100000 in
set_option maxHeartbeats 8000000 in
theorem refMove_any (sv : Value) (l : List Ac) (b a n : Nat) (w : World) (hs : Acs w sv l) (hl : l.length ≤ 1000) (hsz : ∀ q ∈ l, q.code.length ≤ 1000000 ∧ q.store.length ≤ 1000000) (hb : b < 18446744073709551616) (ha : a < 18446744073709551616) (hn : n < M256) :
  Calls Try.prog 46 #[.agg #[sv], .int .u64 (b : Nat), .int .u64 (a : Nat), wv n] w (RetS w (moveR l b a n)) := by
 have HS := Lib.hid hs
 have HSZ := Lib.hid hsz
 have HLE := Lib.hid (show l.length ≤ 10000 by omega)
 have HN := Lib.hid hn
 have HA0 := Lib.hid ha
 have HDEF : Hid (moveR l b a n = if b = 0 then ([], 2) else if a = 0 then ([], 2) else if und (accF l b).1.bal n then ([], 162) else if n = 0 then (wiL l (accF l b).1, 0) else if b = a then (wiL l (accF l b).1, 0) else if roomR l a = false then ([], 6) else
  (wiL (wiL l (setB (accF l b).1 (subN (accF l b).1.bal n))) (setB (accF l a).1 (addN (accF l a).1.bal n)), 0)) := Lib.hid rfl
 obtain ⟨A0, c0, rfl, h1, h2⟩ := hs.len
 obtain ⟨w0, hw0⟩ : ∃ w0, (((w.alloc (.cells #[.slice A0 l.length c0] 24)).alloc (.cells (wc n) 31)).alloc (.cells #[.slice none 0 0] 24)) = w0 := ⟨_, rfl⟩
 have HJ0 : Hid (MnJ w w.heap.size (w.heap.size + 1) (w.heap.size + 1 + 1) (.slice A0 l.length c0) n w0) := by
  rw [← hw0]
  exact Lib.hid ⟨Cs.alloc (Cs.alloc (Cs.new _ _ _ _ rfl) _) _, Cs.alloc (Cs.new _ _ _ _ (by simp)) _, Cs.new _ _ _ _ (by simp), (((Ext.refl w).alloc _).alloc _).alloc _⟩
 have HW0 := Lib.hid hw0
 clear hs hsz hw0
 unfold wv
 go_enter Try.func46, Try.ntmps46
 go_upto_region 1 with fail
 rw [HW0.out]
 clear HW0
 obtain ⟨p, hp⟩ : ∃ p, (accF l b).1 = p := ⟨_, rfl⟩
 have HOPp := Lib.hid (accF_ok HS.out b hb)
 have HPZp := Lib.hid (accF_sz6 HSZ.out b)
 have HOFp := Lib.hid (fun W (h : Ext w W) => refOf_any (.slice A0 l.length c0) l b w W h HS.out hb)
 rw [hp] at HOPp HPZp HOFp HDEF
 clear hp
 obtain ⟨q, hq⟩ : ∃ p, (accF l a).1 = p := ⟨_, rfl⟩
 have HOPq := Lib.hid (accF_ok HS.out a ha)
 have HPZq := Lib.hid (accF_sz6 HSZ.out a)
 have HOFq := Lib.hid (fun W (h : Ext w W) => refOf_any (.slice A0 l.length c0) l a w W h HS.out ha)
 rw [hq] at HOPq HPZq HOFq HDEF
 clear hq
 obtain ⟨m, hm⟩ : ∃ m, subN p.bal n = m := ⟨_, rfl⟩
 obtain ⟨ub, hub⟩ : ∃ b, und p.bal n = b := ⟨_, rfl⟩
 have HSUB := Lib.hid (fun W => refSub_any p.bal n W HOPp.out.2.1 HN.out)
 have HM := Lib.hid (show m < M256 by rw [← hm]; exact Nat.mod_lt _ (by decide))
 rw [hm, hub] at HSUB HDEF
 clear hm hub
 obtain ⟨k, hk⟩ : ∃ m, addN q.bal n = m := ⟨_, rfl⟩
 obtain ⟨ob, hob⟩ : ∃ b, ovr q.bal n = b := ⟨_, rfl⟩
 have HADD := Lib.hid (fun W => refAdd_any q.bal n W HOPq.out.2.1 HN.out)
 have HK := Lib.hid (show k < M256 by rw [← hk]; exact Nat.mod_lt _ (by decide))
 rw [hk, hob] at HADD
 rw [hk] at HDEF
 clear hk hob
 obtain ⟨rm, hrm⟩ : ∃ b, roomR l a = b := ⟨_, rfl⟩
 have HRM := Lib.hid (fun W (h : Ext w W) => refRoom_any (.slice A0 l.length c0) l a W (HS.out.ext h) ha HLE.out)
 rw [hrm] at HRM HDEF
 clear hrm
 by_cases h0 : b = 0
 ·have f0 : (((b : Nat) : Int) == 0) = true := by rw [beq_iff_eq]; omega
  have HF := Lib.hid (show moveR l b a n = ([], 2) by rw [HDEF.out, if_pos h0])
  clear h0 HDEF
  have r1 : w0.cell? ⟨(w.heap.size + 1 + 1), 0, none⟩ = some (.slice none 0 0) := HJ0.out.2.2.1.cell 0 _ rfl
  have p1 : w0.frozen? ⟨(w.heap.size + 1 + 1), 0, none⟩ = false := HJ0.out.2.2.1.frozen 0
  go_wp2_with fail
  refine bodyPost_ret (results_st_err Try.results46 _ _ (w.heap.size + 1 + 1) (.slice none 0 0) rfl (by simpa using Cs.set HJ0.out.2.2.1 0 (.slice none 0 0))) rfl ?_
  exact ⟨_, by rw [HF.out]; rfl, by rw [HF.out]; exact RwA.nil _ _ _, HJ0.out.2.2.2.grown (grown_set _ _ _ _) (by omega)⟩
 ·have f0 : (((b : Nat) : Int) == 0) = false := by rw [beq_eq_false_iff_ne]; omega
  have HDEF := Lib.hid (show moveR l b a n = if a = 0 then ([], 2) else if ub then ([], 162) else if n = 0 then (wiL l p, 0) else if b = a then (wiL l p, 0) else if rm = false then ([], 6) else (wiL (wiL l (setB p m)) (setB q k), 0) by rw [HDEF.out, if_neg h0])
  clear h0
  by_cases h1 : a = 0
  ·have f1 : (((a : Nat) : Int) == 0) = true := by rw [beq_iff_eq]; omega
   have HF := Lib.hid (show moveR l b a n = ([], 2) by rw [HDEF.out, if_pos h1])
   clear h1 HDEF
   have r1 : w0.cell? ⟨(w.heap.size + 1 + 1), 0, none⟩ = some (.slice none 0 0) := HJ0.out.2.2.1.cell 0 _ rfl
   have p1 : w0.frozen? ⟨(w.heap.size + 1 + 1), 0, none⟩ = false := HJ0.out.2.2.1.frozen 0
   go_wp2_with fail
   refine bodyPost_ret (results_st_err Try.results46 _ _ (w.heap.size + 1 + 1) (.slice none 0 0) rfl (by simpa using Cs.set HJ0.out.2.2.1 0 (.slice none 0 0))) rfl ?_
   exact ⟨_, by rw [HF.out]; rfl, by rw [HF.out]; exact RwA.nil _ _ _, HJ0.out.2.2.2.grown (grown_set _ _ _ _) (by omega)⟩
  ·have f1 : (((a : Nat) : Int) == 0) = false := by rw [beq_eq_false_iff_ne]; omega
   have HDEF := Lib.hid (show moveR l b a n = if ub then ([], 162) else if n = 0 then (wiL l p, 0) else if b = a then (wiL l p, 0) else if rm = false then ([], 6) else (wiL (wiL l (setB p m)) (setB q k), 0) by rw [HDEF.out, if_neg h1])
   clear h1
   have HJ := HJ0
   go_upto_region 3 with fail
   refine wp_named fun a0 ha0 => ?_
   obtain ⟨fr, hfr⟩ : ∃ fr : (Nat → Value) → Act, ∀ V, fr V = (((((((((((a0.put (some 22) (V 0)).put (some 23) (V 1)).put (some 24) (V 2)).put (some 25) (V 3)).put (some 26) (V 4)).put (some 27) (V 5)).put (some 21) (V 6)).put (some 28) (V 7)).put (some 29) (V 8)).put (some 10) (V 9)).put (some 11) (V 11)) := ⟨_, fun _ => rfl⟩
   rw [ha0] at hfr
   simp only [Act.put, List.setIfInBounds_toArray, List.set_cons_zero, List.set_cons_succ] at hfr
   have HFR := Lib.hid hfr
   clear hfr
   refine wp_region_inv (by kernel_rfl) (by kernel_rfl) (fun L A W => ∃ V : Nat → Value, A = fr V ∧ Vals (fun j => ([some (.agg #[.slice A0 l.length c0]), some (.int .u64 (b : Nat)), none, some (wv p.bal), some (wv n), some (.tuple #[wv (m), .bool (ub)]), some (.tuple #[wv (m), .bool (ub)]), some (wv (m)), some (.bool (ub)), none, none, some (.bool (ub))] : List (Option Value)).getD j none) L V ∧ (L 10 = false → MnJ w (w.heap.size) (w.heap.size + 1) (w.heap.size + 1 + 1) (.slice A0 l.length c0) n W) ∧ (L 10 = true → KaJ w (w.heap.size) (w.heap.size + 1) (w.heap.size + 1 + 1) (.slice A0 l.length c0) n m W (V 9)) ∧ (L 10 = false → L 2 = true → OfP w p (V 2)) ∧ (L 10 = false → L 9 = true → NwW (w.heap.size + 1 + 1) W (V 9))) ?_ ⟨?_, ?_, ?_, ?_, ?_, ?_, ?_, ?_, ?_, ?_, ?_, ?_, trivial⟩ ?_
   ·refine ⟨fun j => a0.tmps.getD (([22, 23, 24, 25, 26, 27, 21, 28, 29, 10, 0, 11] : List Nat).getD j 0) undef, ?_, Vals.no _ _ _ (far_none _ _ rfl), fun _ => HJ.out.ext (Ext.refl _).drew, fun h0 => absurd h0 (by decide), fun h0 h1 => absurd h1 (by decide), fun h0 h1 => absurd h1 (by decide)⟩
    rw [HFR.out, ha0]
    rfl
   all_goals clear ha0
   ·rintro L A W K hL hC hW ⟨V, rfl, HV, s0, s1, f2, f9⟩ hK
    have hB := s0 (hC.no (hC.no (hC.no (hC.no (hC.no (hC.no hL 2 _ rfl rfl) 3 _ rfl rfl) 5 _ rfl rfl) 6 _ rfl rfl) 7 _ rfl rfl) 10 _ rfl rfl)
    have H := Lib.hid (show ∀ W', Ext W W' → K (fr (upd V 0 (.agg #[.slice A0 l.length c0]))) W' from fun W' he => hK _ _ ⟨_, rfl, HV.us 0 _ rfl, fun h0 => MnJ.ext (s0 (mnf h0 rfl)) he, fun h0 => KaJ.ext (s1 (more_ne h0 rfl)) he, fun h0 h1 => keepP (f2 (mnf h0 rfl) (more_ne h1 rfl)) he, fun h0 h1 => NwW.ext (f9 (mnf h0 rfl) (more_ne h1 rfl)) he⟩)
    clear hK hC hW hL HV s0 s1 f2 f9
    rw [HFR.out]
    have hcl : W.cell? ⟨w.heap.size, 0, none⟩ = some (.slice A0 l.length c0) := hB.1.cell 0 _ rfl
    clear hB
    go_wp2_with fail
    show K _ _; have := H.out _ (Ext.refl _); rw [HFR.out] at this
    exact this
   ·rintro L A W K hL hC hW ⟨V, rfl, HV, s0, s1, f2, f9⟩ hK
    have H := Lib.hid (show ∀ W', Ext W W' → K (fr (upd V 1 (.int .u64 (b : Nat)))) W' from fun W' he => hK _ _ ⟨_, rfl, HV.us 1 _ rfl, fun h0 => MnJ.ext (s0 (mnf h0 rfl)) he, fun h0 => KaJ.ext (s1 (more_ne h0 rfl)) he, fun h0 h1 => keepP (f2 (mnf h0 rfl) (more_ne h1 rfl)) he, fun h0 h1 => NwW.ext (f9 (mnf h0 rfl) (more_ne h1 rfl)) he⟩)
    clear hK hC hW hL HV s0 s1 f2 f9
    rw [HFR.out]
    go_wp2_with fail
    show K _ _; have := H.out _ (Ext.refl _); rw [HFR.out] at this
    exact this
   ·rintro L A W K hL hC hW ⟨V, rfl, HV, s0, s1, f2, f9⟩ hK
    have e0 := HV 0 _ rfl (hW 0 rfl)
    have e1 := HV 1 _ rfl (hW 1 rfl)
    have hB := s0 (hC.no (hC.no (hC.no (hC.no (hC.no hL 3 _ rfl rfl) 5 _ rfl rfl) 6 _ rfl rfl) 7 _ rfl rfl) 10 _ rfl rfl)
    have H := Lib.hid (show ∀ v W', Ext W W' → (OfP w p v) → K (fr (upd V 2 v)) W' from fun v W' he hp => hK _ _ ⟨_, rfl, HV.un 2 _ rfl, fun h0 => MnJ.ext (s0 (mnf h0 rfl)) he, fun h0 => KaJ.ext (s1 (more_ne h0 rfl)) he, fun h0 h1 => hp, fun h0 h1 => NwW.ext (f9 (mnf h0 rfl) (more_ne h1 rfl)) he⟩)
    have HU := Lib.hid (show ∀ v, (upd V 2 v) 0 = .agg #[.slice A0 l.length c0] ∧ (upd V 2 v) 1 = .int .u64 (b : Nat) from fun v => ⟨e0, e1⟩)
    clear hK hC hW hL HV s0 s1 f2 f9
    rw [HFR.out, e0, e1]
    clear e0 e1
    have HB := Lib.hid hB
    clear hB
    go_wp2_with fail
    refine (HOFp.out _ HB.out.2.2.2).mono ?_
    rintro e wx ⟨u', v', rfl, hu', hv', he⟩
    have := H.out _ _ he (⟨u', v', rfl, hu', hv'⟩)
    clear H
    go_wp2_with fail
    show K _ _
    rw [HFR.out] at this
    obtain ⟨u0, u1⟩ := HU.out _
    rw [u0, u1] at this
    exact this
   ·rintro L A W K hL hC hW ⟨V, rfl, HV, s0, s1, f2, f9⟩ hK
    have hB := s0 (hC.no (hC.no (hC.no (hC.no hL 5 _ rfl rfl) 6 _ rfl rfl) 7 _ rfl rfl) 10 _ rfl rfl)
    have q2 := f2 (hC.no (hC.no (hC.no (hC.no hL 5 _ rfl rfl) 6 _ rfl rfl) 7 _ rfl rfl) 10 _ rfl rfl) (hW 2 rfl)
    obtain ⟨u2, v2, e2, y2, z2⟩ := q2
    have H := Lib.hid (show ∀ W', Ext W W' → K (fr (upd V 3 (wv p.bal))) W' from fun W' he => hK _ _ ⟨_, rfl, HV.us 3 _ rfl, fun h0 => MnJ.ext (s0 (mnf h0 rfl)) he, fun h0 => KaJ.ext (s1 (more_ne h0 rfl)) he, fun h0 h1 => keepP (f2 (mnf h0 rfl) (more_ne h1 rfl)) he, fun h0 h1 => NwW.ext (f9 (mnf h0 rfl) (more_ne h1 rfl)) he⟩)
    have HU := Lib.hid (show (upd V 3 (wv p.bal)) 2 = .agg (acc p u2 v2) from e2)
    clear hK hC hW hL HV s0 s1 f2 f9
    rw [HFR.out, e2]
    clear e2
    clear hB
    refine wpList_field_bal rfl (.tmp 24) rfl p u2 v2 rfl ?_
    show K _ _; have := H.out _ (Ext.refl _); rw [HFR.out] at this
    obtain u2 := HU.out
    rw [u2] at this
    exact this
   ·rintro L A W K hL hC hW ⟨V, rfl, HV, s0, s1, f2, f9⟩ hK
    have hB := s0 (hC.no (hC.no (hC.no (hC.no hL 5 _ rfl rfl) 6 _ rfl rfl) 7 _ rfl rfl) 10 _ rfl rfl)
    have H := Lib.hid (show ∀ W', Ext W W' → K (fr (upd V 4 (wv n))) W' from fun W' he => hK _ _ ⟨_, rfl, HV.us 4 _ rfl, fun h0 => MnJ.ext (s0 (mnf h0 rfl)) he, fun h0 => KaJ.ext (s1 (more_ne h0 rfl)) he, fun h0 h1 => keepP (f2 (mnf h0 rfl) (more_ne h1 rfl)) he, fun h0 h1 => NwW.ext (f9 (mnf h0 rfl) (more_ne h1 rfl)) he⟩)
    clear hK hC hW hL HV s0 s1 f2 f9
    rw [HFR.out]
    have HWD := Lib.hid hB.2.1
    clear hB
    refine wpList_load_word rfl 31 28 (.tmp 7) rfl Try.underlying31 winfo (w.heap.size + 1) n rfl HWD.out ?_
    show K _ _; have := H.out _ (Ext.refl _); rw [HFR.out] at this
    exact this
   ·rintro L A W K hL hC hW ⟨V, rfl, HV, s0, s1, f2, f9⟩ hK
    have e3 := HV 3 _ rfl (hW 3 rfl)
    have e4 := HV 4 _ rfl (hW 4 rfl)
    have hB := s0 (hC.no (hC.no (hC.no hL 6 _ rfl rfl) 7 _ rfl rfl) 10 _ rfl rfl)
    have H := Lib.hid (show ∀ W', Ext W W' → K (fr (upd V 5 (.tuple #[wv (m), .bool (ub)]))) W' from fun W' he => hK _ _ ⟨_, rfl, HV.us 5 _ rfl, fun h0 => MnJ.ext (s0 (mnf h0 rfl)) he, fun h0 => KaJ.ext (s1 (more_ne h0 rfl)) he, fun h0 h1 => keepP (f2 (mnf h0 rfl) (more_ne h1 rfl)) he, fun h0 h1 => NwW.ext (f9 (mnf h0 rfl) (more_ne h1 rfl)) he⟩)
    have HU := Lib.hid (show (upd V 5 (.tuple #[wv (m), .bool (ub)])) 3 = wv p.bal ∧ (upd V 5 (.tuple #[wv (m), .bool (ub)])) 4 = wv n from ⟨e3, e4⟩)
    clear hK hC hW hL HV s0 s1 f2 f9
    rw [HFR.out, e3, e4]
    clear e3 e4
    clear hB
    go_wp2_with fail
    refine (HSUB.out _).mono ?_
    rintro e wx ⟨rfl, _, he⟩
    have := H.out _ he
    clear H
    go_wp2_with fail
    show K _ _
    rw [HFR.out] at this
    obtain ⟨u3, u4⟩ := HU.out
    rw [u3, u4] at this
    exact this
   ·rintro L A W K hL hC hW ⟨V, rfl, HV, s0, s1, f2, f9⟩ hK
    have e5 := HV 5 _ rfl (hW 5 rfl)
    have H := Lib.hid (show ∀ W', Ext W W' → K (fr (upd V 6 (.tuple #[wv (m), .bool (ub)]))) W' from fun W' he => hK _ _ ⟨_, rfl, HV.us 6 _ rfl, fun h0 => MnJ.ext (s0 (mnf h0 rfl)) he, fun h0 => KaJ.ext (s1 (more_ne h0 rfl)) he, fun h0 h1 => keepP (f2 (mnf h0 rfl) (more_ne h1 rfl)) he, fun h0 h1 => NwW.ext (f9 (mnf h0 rfl) (more_ne h1 rfl)) he⟩)
    have HU := Lib.hid (show (upd V 6 (.tuple #[wv (m), .bool (ub)])) 5 = .tuple #[wv (m), .bool (ub)] from e5)
    clear hK hC hW hL HV s0 s1 f2 f9
    rw [HFR.out, e5]
    clear e5
    go_wp2_with fail
    show K _ _; have := H.out _ (Ext.refl _); rw [HFR.out] at this
    obtain u5 := HU.out
    rw [u5] at this
    exact this
   ·rintro L A W K hL hC hW ⟨V, rfl, HV, s0, s1, f2, f9⟩ hK
    have e6 := HV 6 _ rfl (hW 6 rfl)
    have H := Lib.hid (show ∀ W', Ext W W' → K (fr (upd V 7 (wv (m)))) W' from fun W' he => hK _ _ ⟨_, rfl, HV.us 7 _ rfl, fun h0 => MnJ.ext (s0 (mnf h0 rfl)) he, fun h0 => KaJ.ext (s1 (more_ne h0 rfl)) he, fun h0 h1 => keepP (f2 (mnf h0 rfl) (more_ne h1 rfl)) he, fun h0 h1 => NwW.ext (f9 (mnf h0 rfl) (more_ne h1 rfl)) he⟩)
    have HU := Lib.hid (show (upd V 7 (wv (m))) 6 = .tuple #[wv (m), .bool (ub)] from e6)
    clear hK hC hW hL HV s0 s1 f2 f9
    rw [HFR.out, e6]
    clear e6
    go_wp2_with fail
    show K _ _; have := H.out _ (Ext.refl _); rw [HFR.out] at this
    obtain u6 := HU.out
    rw [u6] at this
    exact this
   ·rintro L A W K hL hC hW ⟨V, rfl, HV, s0, s1, f2, f9⟩ hK
    have e6 := HV 6 _ rfl (hW 6 rfl)
    have H := Lib.hid (show ∀ W', Ext W W' → K (fr (upd V 8 (.bool (ub)))) W' from fun W' he => hK _ _ ⟨_, rfl, HV.us 8 _ rfl, fun h0 => MnJ.ext (s0 (mnf h0 rfl)) he, fun h0 => KaJ.ext (s1 (more_ne h0 rfl)) he, fun h0 h1 => keepP (f2 (mnf h0 rfl) (more_ne h1 rfl)) he, fun h0 h1 => NwW.ext (f9 (mnf h0 rfl) (more_ne h1 rfl)) he⟩)
    have HU := Lib.hid (show (upd V 8 (.bool (ub))) 6 = .tuple #[wv (m), .bool (ub)] from e6)
    clear hK hC hW hL HV s0 s1 f2 f9
    rw [HFR.out, e6]
    clear e6
    go_wp2_with fail
    show K _ _; have := H.out _ (Ext.refl _); rw [HFR.out] at this
    obtain u6 := HU.out
    rw [u6] at this
    exact this
   ·rintro L A W K hL hC hW ⟨V, rfl, HV, s0, s1, f2, f9⟩ hK
    have hB := s0 (hC.no hL 10 _ rfl rfl)
    have H := Lib.hid (show ∀ v W', Ext W W' → (NwW (w.heap.size + 1 + 1) W' v) → K (fr (upd V 9 v)) W' from fun v W' he hp => hK _ _ ⟨_, rfl, HV.un 9 _ rfl, fun h0 => MnJ.ext (s0 (mnf h0 rfl)) he, fun h0 => mtf (hC.no hL 10 _ rfl rfl) (more_ne h0 rfl), fun h0 h1 => keepP (f2 (mnf h0 rfl) (more_ne h1 rfl)) he, fun h0 h1 => hp⟩)
    clear hK hC hW hL HV s0 s1 f2 f9
    rw [HFR.out]
    have HB := Lib.hid hB
    clear hB
    go_wp2_with fail
    show K _ _; have := H.out (.pointer (some ⟨W.heap.size, 0, none⟩)) _ ((Ext.refl W).alloc (.cells (wc 0) 31)) (⟨_, rfl, Cs.new _ _ _ _ rfl, Cs.lt HB.out.2.2.1⟩); rw [HFR.out] at this
    exact this
   ·rintro L A W K hL hC hW ⟨V, rfl, HV, s0, s1, f2, f9⟩ hK
    have e7 := HV 7 _ rfl (hW 7 rfl)
    have hB := s0 hL
    have q9 := f9 hL (hW 9 rfl)
    obtain ⟨g9, e9, k9, z9⟩ := q9
    have H := Lib.hid (show ∀ W', (KaJ w (w.heap.size) (w.heap.size + 1) (w.heap.size + 1 + 1) (.slice A0 l.length c0) n m W' (V 9)) → K (fr (V)) W' from fun W' hA => hK _ _ ⟨V, rfl, HV.st 10 rfl, fun h0 => msf h0, fun h0 => hA, fun h0 h1 => msf h0, fun h0 h1 => msf h0⟩)
    have HU := Lib.hid (show (V) 9 = .pointer (some ⟨g9, 0, none⟩) ∧ (V) 7 = wv (m) from ⟨e9, e7⟩)
    clear hK hC hW hL HV s0 s1 f2 f9
    rw [HFR.out, e9, e7]
    clear e9 e7
    have HB := Lib.hid hB
    have K1 := Lib.hid k9
    have Z1 := Lib.hid z9
    clear hB k9 z9
    refine wpList_store_word rfl rfl 31 (.tmp 10) (.tmp 28) rfl winfo g9 (wc 0) (m) rfl rfl K1.out rfl ?_
    intro w6 k6 g6'
    have HA := Lib.hid (show KaJ w (w.heap.size) (w.heap.size + 1) (w.heap.size + 1 + 1) (.slice A0 l.length c0) n m w6 (V 9) from by rw [HU.out.1]; exact KaJ.new HB.out ⟨by omega, by omega, by omega⟩ Z1.out g6' k6)
    clear k6 g6'
    show K _ _; have := H.out _ HA.out; rw [HFR.out] at this
    obtain ⟨u9, u7⟩ := HU.out
    rw [u9, u7] at this
    exact this
   ·rintro L A W K hL hC hW ⟨V, rfl, HV, s0, s1, f2, f9⟩ hK
    have e8 := HV 8 _ rfl (hW 8 rfl)
    have H := Lib.hid (show ∀ W', Ext W W' → K (fr (upd V 11 (.bool (ub)))) W' from fun W' he => hK _ _ ⟨_, rfl, HV.us 11 _ rfl, fun h0 => MnJ.ext (s0 (mnf h0 rfl)) he, fun h0 => KaJ.ext (s1 (more_ne h0 rfl)) he, fun h0 h1 => keepP (f2 (mnf h0 rfl) (more_ne h1 rfl)) he, fun h0 h1 => NwW.ext (f9 (mnf h0 rfl) (more_ne h1 rfl)) he⟩)
    have HU := Lib.hid (show (upd V 11 (.bool (ub))) 8 = .bool (ub) from e8)
    clear hK hC hW hL HV s0 s1 f2 f9
    rw [HFR.out, e8]
    clear e8
    go_wp2_with fail
    show K _ _; have := H.out _ (Ext.refl _); rw [HFR.out] at this
    obtain u8 := HU.out
    rw [u8] at this
    exact this
   ·rintro L A W hL ⟨V, rfl, HV, s0, s1, f2, f9⟩
    have e0 := HV 0 _ rfl (hL 0 (by simp))
    have e1 := HV 1 _ rfl (hL 1 (by simp))
    have e3 := HV 3 _ rfl (hL 3 (by simp))
    have e4 := HV 4 _ rfl (hL 4 (by simp))
    have e5 := HV 5 _ rfl (hL 5 (by simp))
    have e6 := HV 6 _ rfl (hL 6 (by simp))
    have e7 := HV 7 _ rfl (hL 7 (by simp))
    have e8 := HV 8 _ rfl (hL 8 (by simp))
    have e11 := HV 11 _ rfl (hL 11 (by simp))
    have hA := s1 (hL 10 (by simp))
    rw [HFR.out, e0, e1, e3, e4, e5, e6, e7, e8, e11]
    clear hL HV HFR e0 e1 e3 e4 e5 e6 e7 e8 e11 s0 s1 f2 f9
    obtain ⟨gl, hv4, hJ4, hg4⟩ := hA
    have HJ4 := Lib.hid hJ4
    have HG4 := Lib.hid hg4
    rw [hv4]
    clear hv4 hJ4 hg4
    cases ub with
    | true =>
     have HF := Lib.hid (show moveR l b a n = ([], 162) by rw [HDEF.out]; rfl)
     clear HDEF
     have r1 : W.cell? ⟨(w.heap.size + 1 + 1), 0, none⟩ = some (.slice none 0 0) := HJ4.out.1.2.2.1.cell 0 _ rfl
     have p1 : W.frozen? ⟨(w.heap.size + 1 + 1), 0, none⟩ = false := HJ4.out.1.2.2.1.frozen 0
     go_wp2_with fail
     refine bodyPost_ret (results_st_err Try.results46 _ _ (w.heap.size + 1 + 1) (.slice none 0 0) rfl (by simpa using Cs.set HJ4.out.1.2.2.1 0 (.slice none 0 0))) rfl ?_
     exact ⟨_, by rw [HF.out]; rfl, by rw [HF.out]; exact RwA.nil _ _ _, HJ4.out.1.2.2.2.grown (grown_set _ _ _ _) (by omega)⟩
    | false =>
     have HDEF := Lib.hid (show moveR l b a n = if n = 0 then (wiL l p, 0) else if b = a then (wiL l p, 0) else if rm = false then ([], 6) else (wiL (wiL l (setB p m)) (setB q k), 0) by rw [HDEF.out]; rfl)
     have HJ := Lib.hid HJ4.out.1
     by_cases hn0 : n = 0
     ·have hz : (n == 0) = true := by rw [beq_iff_eq]; exact hn0
      have HNZ := Lib.hid hz
      have HF := Lib.hid (show moveR l b a n = (wiL l p, 0) by rw [HDEF.out, if_pos hn0])
      have HXOp := Lib.hid (And.intro HOPp.out HPZp.out)
      clear hn0 HDEF hz
      have HWI := Lib.hid (fun u v W (h : Ext w W) (h1 : Bs w u p.code) (h2 : Pks w v p.store) => refWith_any (.slice A0 l.length c0) l p u v W (HS.out.ext h) HXOp.out.1 (h1.ext h) (h2.ext h) HLE.out HSZ.out HXOp.out.2)
      obtain ⟨r, hr⟩ : ∃ r : List Ac × Int, (wiL l p, (0 : Int)) = r := ⟨_, rfl⟩
      have HR0 := Lib.hid (show r.2 = 0 by rw [← hr])
      rw [hr] at HF
      rw [show wiL l p = r.1 by rw [← hr]] at HWI
      clear hr
      have WIV := Lib.hid (fun (W : World) (v' : Value) (h : RwA w.heap.size W v' (.slice none 0 0) r.1) => show StV w.heap.size r W (.agg #[v']) from by obtain ⟨A, c, rfl⟩ := h.shape; exact ⟨A, c, rfl, h⟩)
      go_upto_region 7 with (first
       | ((with_reducible refine wpList_load_word ?_ 31 28 (.tmp 7) ?_ Try.underlying31 winfo (w.heap.size + 1) (n) ?_ ?_ ?_); (exact rfl); (exact rfl); (exact rfl); (exact HJ.out.2.1))
       | ((with_reducible refine wpList_eql_word ?_ (.tmp 34) (.tmp 35) ?_ n 0 HN.out (by decide) ?_ ?_ ?_); (exact rfl); (exact rfl); (exact rfl); (exact rfl); rw [HNZ.out]))
      refine wp_named fun a0 ha0 => ?_
      obtain ⟨fr, hfr⟩ : ∃ fr : (Nat → Value) → Act, ∀ V, fr V = ((((((a0.put (some 42) (V 0)).put (some 43) (V 1)).put (some 44) (V 2)).put (some 45) (V 3)).put (some 46) (V 4)).put (some 9) (V 6)) := ⟨_, fun _ => rfl⟩
      rw [ha0] at hfr
      simp only [Act.put, List.setIfInBounds_toArray, List.set_cons_zero, List.set_cons_succ] at hfr
      have HFR := Lib.hid hfr
      clear hfr
      refine wp_region_inv (by kernel_rfl) (by kernel_rfl) (fun L A W => ∃ V : Nat → Value, A = fr V ∧ Vals (fun j => ([some (.agg #[.slice A0 l.length c0]), some (.agg #[.slice A0 l.length c0]), some (.int .u64 (b : Nat)), none, none, none, some (.int .i64 0)] : List (Option Value)).getD j none) L V ∧ (L 5 = false → MnJ w (w.heap.size) (w.heap.size + 1) (w.heap.size + 1 + 1) (.slice A0 l.length c0) n W) ∧ (L 5 = true → MnE w (w.heap.size + 1 + 1) r W) ∧ (L 5 = false → L 3 = true → OfP w p (V 3)) ∧ (L 5 = false → L 4 = true → StV w.heap.size r W (V 4))) ?_ ⟨?_, ?_, ?_, ?_, ?_, ?_, ?_, trivial⟩ ?_
      ·refine ⟨fun j => a0.tmps.getD (([42, 43, 44, 45, 46, 0, 9] : List Nat).getD j 0) undef, ?_, Vals.no _ _ _ (far_none _ _ rfl), fun _ => HJ.out.ext (Ext.refl _).drew, fun h0 => absurd h0 (by decide), fun h0 h1 => absurd h1 (by decide), fun h0 h1 => absurd h1 (by decide)⟩
       rw [HFR.out, ha0]
       rfl
      all_goals clear ha0
      ·rintro L A W K hL hC hW ⟨V, rfl, HV, s0, s1, f3, f4⟩ hK
       have hB := s0 (hC.no (hC.no hL 4 _ rfl rfl) 5 _ rfl rfl)
       have H := Lib.hid (show ∀ W', Ext W W' → K (fr (upd V 0 (.agg #[.slice A0 l.length c0]))) W' from fun W' he => hK _ _ ⟨_, rfl, HV.us 0 _ rfl, fun h0 => MnJ.ext (s0 (mnf h0 rfl)) he, fun h0 => MnE.ext (s1 (more_ne h0 rfl)) he, fun h0 h1 => keepP (f3 (mnf h0 rfl) (more_ne h1 rfl)) he, fun h0 h1 => StV.ext (f4 (mnf h0 rfl) (more_ne h1 rfl)) he⟩)
       clear hK hC hW hL HV s0 s1 f3 f4
       rw [HFR.out]
       have hcl : W.cell? ⟨w.heap.size, 0, none⟩ = some (.slice A0 l.length c0) := hB.1.cell 0 _ rfl
       clear hB
       go_wp2_with fail
       show K _ _; have := H.out _ (Ext.refl _); rw [HFR.out] at this
       exact this
      ·rintro L A W K hL hC hW ⟨V, rfl, HV, s0, s1, f3, f4⟩ hK
       have hB := s0 (hC.no (hC.no (hC.no hL 3 _ rfl rfl) 4 _ rfl rfl) 5 _ rfl rfl)
       have H := Lib.hid (show ∀ W', Ext W W' → K (fr (upd V 1 (.agg #[.slice A0 l.length c0]))) W' from fun W' he => hK _ _ ⟨_, rfl, HV.us 1 _ rfl, fun h0 => MnJ.ext (s0 (mnf h0 rfl)) he, fun h0 => MnE.ext (s1 (more_ne h0 rfl)) he, fun h0 h1 => keepP (f3 (mnf h0 rfl) (more_ne h1 rfl)) he, fun h0 h1 => StV.ext (f4 (mnf h0 rfl) (more_ne h1 rfl)) he⟩)
       clear hK hC hW hL HV s0 s1 f3 f4
       rw [HFR.out]
       have hcl : W.cell? ⟨w.heap.size, 0, none⟩ = some (.slice A0 l.length c0) := hB.1.cell 0 _ rfl
       clear hB
       go_wp2_with fail
       show K _ _; have := H.out _ (Ext.refl _); rw [HFR.out] at this
       exact this
      ·rintro L A W K hL hC hW ⟨V, rfl, HV, s0, s1, f3, f4⟩ hK
       have H := Lib.hid (show ∀ W', Ext W W' → K (fr (upd V 2 (.int .u64 (b : Nat)))) W' from fun W' he => hK _ _ ⟨_, rfl, HV.us 2 _ rfl, fun h0 => MnJ.ext (s0 (mnf h0 rfl)) he, fun h0 => MnE.ext (s1 (more_ne h0 rfl)) he, fun h0 h1 => keepP (f3 (mnf h0 rfl) (more_ne h1 rfl)) he, fun h0 h1 => StV.ext (f4 (mnf h0 rfl) (more_ne h1 rfl)) he⟩)
       clear hK hC hW hL HV s0 s1 f3 f4
       rw [HFR.out]
       go_wp2_with fail
       show K _ _; have := H.out _ (Ext.refl _); rw [HFR.out] at this
       exact this
      ·rintro L A W K hL hC hW ⟨V, rfl, HV, s0, s1, f3, f4⟩ hK
       have e1 := HV 1 _ rfl (hW 1 rfl)
       have e2 := HV 2 _ rfl (hW 2 rfl)
       have hB := s0 (hC.no (hC.no hL 4 _ rfl rfl) 5 _ rfl rfl)
       have H := Lib.hid (show ∀ v W', Ext W W' → (OfP w p v) → K (fr (upd V 3 v)) W' from fun v W' he hp => hK _ _ ⟨_, rfl, HV.un 3 _ rfl, fun h0 => MnJ.ext (s0 (mnf h0 rfl)) he, fun h0 => MnE.ext (s1 (more_ne h0 rfl)) he, fun h0 h1 => hp, fun h0 h1 => StV.ext (f4 (mnf h0 rfl) (more_ne h1 rfl)) he⟩)
       have HU := Lib.hid (show ∀ v, (upd V 3 v) 1 = .agg #[.slice A0 l.length c0] ∧ (upd V 3 v) 2 = .int .u64 (b : Nat) from fun v => ⟨e1, e2⟩)
       clear hK hC hW hL HV s0 s1 f3 f4
       rw [HFR.out, e1, e2]
       clear e1 e2
       have HB := Lib.hid hB
       clear hB
       go_wp2_with fail
       refine (HOFp.out _ HB.out.2.2.2).mono ?_
       rintro e wx ⟨u', v', rfl, hu', hv', he⟩
       have := H.out _ _ he (⟨u', v', rfl, hu', hv'⟩)
       clear H
       go_wp2_with fail
       show K _ _
       rw [HFR.out] at this
       obtain ⟨u1, u2⟩ := HU.out _
       rw [u1, u2] at this
       exact this
      ·rintro L A W K hL hC hW ⟨V, rfl, HV, s0, s1, f3, f4⟩ hK
       have e0 := HV 0 _ rfl (hW 0 rfl)
       have hB := s0 (hC.no hL 5 _ rfl rfl)
       have q3 := f3 (hC.no hL 5 _ rfl rfl) (hW 3 rfl)
       obtain ⟨u3, v3, e3, y3, z3⟩ := q3
       have H := Lib.hid (show ∀ v W', Ext W W' → (StV w.heap.size r W' v) → K (fr (upd V 4 v)) W' from fun v W' he hp => hK _ _ ⟨_, rfl, HV.un 4 _ rfl, fun h0 => MnJ.ext (s0 (mnf h0 rfl)) he, fun h0 => MnE.ext (s1 (more_ne h0 rfl)) he, fun h0 h1 => keepP (f3 (mnf h0 rfl) (more_ne h1 rfl)) he, fun h0 h1 => hp⟩)
       have HU := Lib.hid (show ∀ v, (upd V 4 v) 0 = .agg #[.slice A0 l.length c0] ∧ (upd V 4 v) 3 = .agg (acc p u3 v3) from fun v => ⟨e0, e3⟩)
       clear hK hC hW hL HV s0 s1 f3 f4
       rw [HFR.out, e0, e3]
       clear e0 e3
       have HB := Lib.hid hB
       clear hB
       have Y1 := Lib.hid y3
       have Y2 := Lib.hid z3
       clear y3 z3
       go_wp2_with fail
       refine (HWI.out u3 v3 _ HB.out.2.2.2 Y1.out Y2.out).mono ?_
       rintro e wx ⟨v', rfl, hr, he⟩
       have := H.out _ _ he (WIV.out _ _ (hr.low HB.out.2.2.2.size))
       clear H
       go_wp2_with fail
       show K _ _
       rw [HFR.out] at this
       obtain ⟨u0, u3⟩ := HU.out _
       rw [u0, u3] at this
       exact this
      ·rintro L A W K hL hC hW ⟨V, rfl, HV, s0, s1, f3, f4⟩ hK
       have hB := s0 hL
       have q4 := f4 hL (hW 4 rfl)
       obtain ⟨A4, c4, e4, k4⟩ := q4
       have H := Lib.hid (show ∀ W', (MnE w (w.heap.size + 1 + 1) r W') → K (fr (V)) W' from fun W' hA => hK _ _ ⟨V, rfl, HV.st 5 rfl, fun h0 => msf h0, fun h0 => hA, fun h0 h1 => msf h0, fun h0 h1 => msf h0⟩)
       have HU := Lib.hid (show (V) 4 = .agg #[.slice A4 r.1.length c4] from e4)
       clear hK hC hW hL HV s0 s1 f3 f4
       rw [HFR.out, e4]
       clear e4
       have HB := Lib.hid hB
       have KH := Lib.hid k4
       have hc : W.cell? ⟨(w.heap.size + 1 + 1), 0, none⟩ = some (.slice none 0 0) := hB.2.2.1.cell 0 _ rfl
       have hf : W.frozen? ⟨(w.heap.size + 1 + 1), 0, none⟩ = false := hB.2.2.1.frozen 0
       clear hB k4
       go_wp2_with fail
       have HA := Lib.hid (HB.out.done (r := r) (by omega) KH.out)
       show K _ _; have := H.out _ HA.out; rw [HFR.out] at this
       obtain u4 := HU.out
       rw [u4] at this
       exact this
      ·rintro L A W K hL hC hW ⟨V, rfl, HV, s0, s1, f3, f4⟩ hK
       have H := Lib.hid (show ∀ W', Ext W W' → K (fr (upd V 6 (.int .i64 0))) W' from fun W' he => hK _ _ ⟨_, rfl, HV.us 6 _ rfl, fun h0 => MnJ.ext (s0 (mnf h0 rfl)) he, fun h0 => MnE.ext (s1 (more_ne h0 rfl)) he, fun h0 h1 => keepP (f3 (mnf h0 rfl) (more_ne h1 rfl)) he, fun h0 h1 => StV.ext (f4 (mnf h0 rfl) (more_ne h1 rfl)) he⟩)
       clear hK hC hW hL HV s0 s1 f3 f4
       rw [HFR.out]
       go_wp2_with fail
       show K _ _; have := H.out _ (Ext.refl _); rw [HFR.out] at this
       exact this
      ·rintro L A W hL ⟨V, rfl, HV, s0, s1, f3, f4⟩
       have e0 := HV 0 _ rfl (hL 0 (by simp))
       have e1 := HV 1 _ rfl (hL 1 (by simp))
       have e2 := HV 2 _ rfl (hL 2 (by simp))
       have e6 := HV 6 _ rfl (hL 6 (by simp))
       have hA := s1 (hL 5 (by simp))
       rw [HFR.out, e0, e1, e2, e6]
       clear hL HV HFR e0 e1 e2 e6 s0 s1 f3 f4
       obtain ⟨A9, c9, h1', h2', h3'⟩ := hA
       have H1 := Lib.hid h1'
       have H2 := Lib.hid h2'
       have H3 := Lib.hid h3'
       clear h1' h2' h3'
       go_wp2_with fail
       refine bodyPost_ret (results_st_err Try.results46 _ _ (w.heap.size + 1 + 1) (.slice A9 r.1.length c9) rfl H1.out) rfl ?_
       exact ⟨_, by rw [HF.out, HR0.out]; rfl, by rw [HF.out]; exact H2.out, H3.out⟩
     ·have hz : (n == 0) = false := by rw [beq_eq_false_iff_ne]; exact hn0
      have HNZ := Lib.hid hz
      have HDEF := Lib.hid (show moveR l b a n = if b = a then (wiL l p, 0) else if rm = false then ([], 6) else (wiL (wiL l (setB p m)) (setB q k), 0) by rw [HDEF.out, if_neg hn0])
      clear hn0 hz
      by_cases hba : b = a
      ·have fb : (((b : Nat) : Int) == (a : Int)) = true := by rw [beq_iff_eq]; omega
       have HF := Lib.hid (show moveR l b a n = (wiL l p, 0) by rw [HDEF.out, if_pos hba])
       have HXOp := Lib.hid (And.intro HOPp.out HPZp.out)
       clear hba HDEF
       have HWI := Lib.hid (fun u v W (h : Ext w W) (h1 : Bs w u p.code) (h2 : Pks w v p.store) => refWith_any (.slice A0 l.length c0) l p u v W (HS.out.ext h) HXOp.out.1 (h1.ext h) (h2.ext h) HLE.out HSZ.out HXOp.out.2)
       obtain ⟨r, hr⟩ : ∃ r : List Ac × Int, (wiL l p, (0 : Int)) = r := ⟨_, rfl⟩
       have HR0 := Lib.hid (show r.2 = 0 by rw [← hr])
       rw [hr] at HF
       rw [show wiL l p = r.1 by rw [← hr]] at HWI
       clear hr
       have WIV := Lib.hid (fun (W : World) (v' : Value) (h : RwA w.heap.size W v' (.slice none 0 0) r.1) => show StV w.heap.size r W (.agg #[v']) from by obtain ⟨A, c, rfl⟩ := h.shape; exact ⟨A, c, rfl, h⟩)
       go_upto_region 7 with (first
        | ((with_reducible refine wpList_load_word ?_ 31 28 (.tmp 7) ?_ Try.underlying31 winfo (w.heap.size + 1) (n) ?_ ?_ ?_); (exact rfl); (exact rfl); (exact rfl); (exact HJ.out.2.1))
        | ((with_reducible refine wpList_eql_word ?_ (.tmp 34) (.tmp 35) ?_ n 0 HN.out (by decide) ?_ ?_ ?_); (exact rfl); (exact rfl); (exact rfl); (exact rfl); rw [HNZ.out]))
       refine wp_named fun a0 ha0 => ?_
       obtain ⟨fr, hfr⟩ : ∃ fr : (Nat → Value) → Act, ∀ V, fr V = ((((((a0.put (some 42) (V 0)).put (some 43) (V 1)).put (some 44) (V 2)).put (some 45) (V 3)).put (some 46) (V 4)).put (some 9) (V 6)) := ⟨_, fun _ => rfl⟩
       rw [ha0] at hfr
       simp only [Act.put, List.setIfInBounds_toArray, List.set_cons_zero, List.set_cons_succ] at hfr
       have HFR := Lib.hid hfr
       clear hfr
       refine wp_region_inv (by kernel_rfl) (by kernel_rfl) (fun L A W => ∃ V : Nat → Value, A = fr V ∧ Vals (fun j => ([some (.agg #[.slice A0 l.length c0]), some (.agg #[.slice A0 l.length c0]), some (.int .u64 (b : Nat)), none, none, none, some (.int .i64 0)] : List (Option Value)).getD j none) L V ∧ (L 5 = false → MnJ w (w.heap.size) (w.heap.size + 1) (w.heap.size + 1 + 1) (.slice A0 l.length c0) n W) ∧ (L 5 = true → MnE w (w.heap.size + 1 + 1) r W) ∧ (L 5 = false → L 3 = true → OfP w p (V 3)) ∧ (L 5 = false → L 4 = true → StV w.heap.size r W (V 4))) ?_ ⟨?_, ?_, ?_, ?_, ?_, ?_, ?_, trivial⟩ ?_
       ·refine ⟨fun j => a0.tmps.getD (([42, 43, 44, 45, 46, 0, 9] : List Nat).getD j 0) undef, ?_, Vals.no _ _ _ (far_none _ _ rfl), fun _ => HJ.out.ext (Ext.refl _).drew, fun h0 => absurd h0 (by decide), fun h0 h1 => absurd h1 (by decide), fun h0 h1 => absurd h1 (by decide)⟩
        rw [HFR.out, ha0]
        rfl
       all_goals clear ha0
       ·rintro L A W K hL hC hW ⟨V, rfl, HV, s0, s1, f3, f4⟩ hK
        have hB := s0 (hC.no (hC.no hL 4 _ rfl rfl) 5 _ rfl rfl)
        have H := Lib.hid (show ∀ W', Ext W W' → K (fr (upd V 0 (.agg #[.slice A0 l.length c0]))) W' from fun W' he => hK _ _ ⟨_, rfl, HV.us 0 _ rfl, fun h0 => MnJ.ext (s0 (mnf h0 rfl)) he, fun h0 => MnE.ext (s1 (more_ne h0 rfl)) he, fun h0 h1 => keepP (f3 (mnf h0 rfl) (more_ne h1 rfl)) he, fun h0 h1 => StV.ext (f4 (mnf h0 rfl) (more_ne h1 rfl)) he⟩)
        clear hK hC hW hL HV s0 s1 f3 f4
        rw [HFR.out]
        have hcl : W.cell? ⟨w.heap.size, 0, none⟩ = some (.slice A0 l.length c0) := hB.1.cell 0 _ rfl
        clear hB
        go_wp2_with fail
        show K _ _; have := H.out _ (Ext.refl _); rw [HFR.out] at this
        exact this
       ·rintro L A W K hL hC hW ⟨V, rfl, HV, s0, s1, f3, f4⟩ hK
        have hB := s0 (hC.no (hC.no (hC.no hL 3 _ rfl rfl) 4 _ rfl rfl) 5 _ rfl rfl)
        have H := Lib.hid (show ∀ W', Ext W W' → K (fr (upd V 1 (.agg #[.slice A0 l.length c0]))) W' from fun W' he => hK _ _ ⟨_, rfl, HV.us 1 _ rfl, fun h0 => MnJ.ext (s0 (mnf h0 rfl)) he, fun h0 => MnE.ext (s1 (more_ne h0 rfl)) he, fun h0 h1 => keepP (f3 (mnf h0 rfl) (more_ne h1 rfl)) he, fun h0 h1 => StV.ext (f4 (mnf h0 rfl) (more_ne h1 rfl)) he⟩)
        clear hK hC hW hL HV s0 s1 f3 f4
        rw [HFR.out]
        have hcl : W.cell? ⟨w.heap.size, 0, none⟩ = some (.slice A0 l.length c0) := hB.1.cell 0 _ rfl
        clear hB
        go_wp2_with fail
        show K _ _; have := H.out _ (Ext.refl _); rw [HFR.out] at this
        exact this
       ·rintro L A W K hL hC hW ⟨V, rfl, HV, s0, s1, f3, f4⟩ hK
        have H := Lib.hid (show ∀ W', Ext W W' → K (fr (upd V 2 (.int .u64 (b : Nat)))) W' from fun W' he => hK _ _ ⟨_, rfl, HV.us 2 _ rfl, fun h0 => MnJ.ext (s0 (mnf h0 rfl)) he, fun h0 => MnE.ext (s1 (more_ne h0 rfl)) he, fun h0 h1 => keepP (f3 (mnf h0 rfl) (more_ne h1 rfl)) he, fun h0 h1 => StV.ext (f4 (mnf h0 rfl) (more_ne h1 rfl)) he⟩)
        clear hK hC hW hL HV s0 s1 f3 f4
        rw [HFR.out]
        go_wp2_with fail
        show K _ _; have := H.out _ (Ext.refl _); rw [HFR.out] at this
        exact this
       ·rintro L A W K hL hC hW ⟨V, rfl, HV, s0, s1, f3, f4⟩ hK
        have e1 := HV 1 _ rfl (hW 1 rfl)
        have e2 := HV 2 _ rfl (hW 2 rfl)
        have hB := s0 (hC.no (hC.no hL 4 _ rfl rfl) 5 _ rfl rfl)
        have H := Lib.hid (show ∀ v W', Ext W W' → (OfP w p v) → K (fr (upd V 3 v)) W' from fun v W' he hp => hK _ _ ⟨_, rfl, HV.un 3 _ rfl, fun h0 => MnJ.ext (s0 (mnf h0 rfl)) he, fun h0 => MnE.ext (s1 (more_ne h0 rfl)) he, fun h0 h1 => hp, fun h0 h1 => StV.ext (f4 (mnf h0 rfl) (more_ne h1 rfl)) he⟩)
        have HU := Lib.hid (show ∀ v, (upd V 3 v) 1 = .agg #[.slice A0 l.length c0] ∧ (upd V 3 v) 2 = .int .u64 (b : Nat) from fun v => ⟨e1, e2⟩)
        clear hK hC hW hL HV s0 s1 f3 f4
        rw [HFR.out, e1, e2]
        clear e1 e2
        have HB := Lib.hid hB
        clear hB
        go_wp2_with fail
        refine (HOFp.out _ HB.out.2.2.2).mono ?_
        rintro e wx ⟨u', v', rfl, hu', hv', he⟩
        have := H.out _ _ he (⟨u', v', rfl, hu', hv'⟩)
        clear H
        go_wp2_with fail
        show K _ _
        rw [HFR.out] at this
        obtain ⟨u1, u2⟩ := HU.out _
        rw [u1, u2] at this
        exact this
       ·rintro L A W K hL hC hW ⟨V, rfl, HV, s0, s1, f3, f4⟩ hK
        have e0 := HV 0 _ rfl (hW 0 rfl)
        have hB := s0 (hC.no hL 5 _ rfl rfl)
        have q3 := f3 (hC.no hL 5 _ rfl rfl) (hW 3 rfl)
        obtain ⟨u3, v3, e3, y3, z3⟩ := q3
        have H := Lib.hid (show ∀ v W', Ext W W' → (StV w.heap.size r W' v) → K (fr (upd V 4 v)) W' from fun v W' he hp => hK _ _ ⟨_, rfl, HV.un 4 _ rfl, fun h0 => MnJ.ext (s0 (mnf h0 rfl)) he, fun h0 => MnE.ext (s1 (more_ne h0 rfl)) he, fun h0 h1 => keepP (f3 (mnf h0 rfl) (more_ne h1 rfl)) he, fun h0 h1 => hp⟩)
        have HU := Lib.hid (show ∀ v, (upd V 4 v) 0 = .agg #[.slice A0 l.length c0] ∧ (upd V 4 v) 3 = .agg (acc p u3 v3) from fun v => ⟨e0, e3⟩)
        clear hK hC hW hL HV s0 s1 f3 f4
        rw [HFR.out, e0, e3]
        clear e0 e3
        have HB := Lib.hid hB
        clear hB
        have Y1 := Lib.hid y3
        have Y2 := Lib.hid z3
        clear y3 z3
        go_wp2_with fail
        refine (HWI.out u3 v3 _ HB.out.2.2.2 Y1.out Y2.out).mono ?_
        rintro e wx ⟨v', rfl, hr, he⟩
        have := H.out _ _ he (WIV.out _ _ (hr.low HB.out.2.2.2.size))
        clear H
        go_wp2_with fail
        show K _ _
        rw [HFR.out] at this
        obtain ⟨u0, u3⟩ := HU.out _
        rw [u0, u3] at this
        exact this
       ·rintro L A W K hL hC hW ⟨V, rfl, HV, s0, s1, f3, f4⟩ hK
        have hB := s0 hL
        have q4 := f4 hL (hW 4 rfl)
        obtain ⟨A4, c4, e4, k4⟩ := q4
        have H := Lib.hid (show ∀ W', (MnE w (w.heap.size + 1 + 1) r W') → K (fr (V)) W' from fun W' hA => hK _ _ ⟨V, rfl, HV.st 5 rfl, fun h0 => msf h0, fun h0 => hA, fun h0 h1 => msf h0, fun h0 h1 => msf h0⟩)
        have HU := Lib.hid (show (V) 4 = .agg #[.slice A4 r.1.length c4] from e4)
        clear hK hC hW hL HV s0 s1 f3 f4
        rw [HFR.out, e4]
        clear e4
        have HB := Lib.hid hB
        have KH := Lib.hid k4
        have hc : W.cell? ⟨(w.heap.size + 1 + 1), 0, none⟩ = some (.slice none 0 0) := hB.2.2.1.cell 0 _ rfl
        have hf : W.frozen? ⟨(w.heap.size + 1 + 1), 0, none⟩ = false := hB.2.2.1.frozen 0
        clear hB k4
        go_wp2_with fail
        have HA := Lib.hid (HB.out.done (r := r) (by omega) KH.out)
        show K _ _; have := H.out _ HA.out; rw [HFR.out] at this
        obtain u4 := HU.out
        rw [u4] at this
        exact this
       ·rintro L A W K hL hC hW ⟨V, rfl, HV, s0, s1, f3, f4⟩ hK
        have H := Lib.hid (show ∀ W', Ext W W' → K (fr (upd V 6 (.int .i64 0))) W' from fun W' he => hK _ _ ⟨_, rfl, HV.us 6 _ rfl, fun h0 => MnJ.ext (s0 (mnf h0 rfl)) he, fun h0 => MnE.ext (s1 (more_ne h0 rfl)) he, fun h0 h1 => keepP (f3 (mnf h0 rfl) (more_ne h1 rfl)) he, fun h0 h1 => StV.ext (f4 (mnf h0 rfl) (more_ne h1 rfl)) he⟩)
        clear hK hC hW hL HV s0 s1 f3 f4
        rw [HFR.out]
        go_wp2_with fail
        show K _ _; have := H.out _ (Ext.refl _); rw [HFR.out] at this
        exact this
       ·rintro L A W hL ⟨V, rfl, HV, s0, s1, f3, f4⟩
        have e0 := HV 0 _ rfl (hL 0 (by simp))
        have e1 := HV 1 _ rfl (hL 1 (by simp))
        have e2 := HV 2 _ rfl (hL 2 (by simp))
        have e6 := HV 6 _ rfl (hL 6 (by simp))
        have hA := s1 (hL 5 (by simp))
        rw [HFR.out, e0, e1, e2, e6]
        clear hL HV HFR e0 e1 e2 e6 s0 s1 f3 f4
        obtain ⟨A9, c9, h1', h2', h3'⟩ := hA
        have H1 := Lib.hid h1'
        have H2 := Lib.hid h2'
        have H3 := Lib.hid h3'
        clear h1' h2' h3'
        go_wp2_with fail
        refine bodyPost_ret (results_st_err Try.results46 _ _ (w.heap.size + 1 + 1) (.slice A9 r.1.length c9) rfl H1.out) rfl ?_
        exact ⟨_, by rw [HF.out, HR0.out]; rfl, by rw [HF.out]; exact H2.out, H3.out⟩
      ·have fb : (((b : Nat) : Int) == (a : Int)) = false := by rw [beq_eq_false_iff_ne]; omega
       have HDEF := Lib.hid (show moveR l b a n = if rm = false then ([], 6) else (wiL (wiL l (setB p m)) (setB q k), 0) by rw [HDEF.out, if_neg hba])
       have q4 : W.cell? ⟨w.heap.size, 0, none⟩ = some (.slice A0 l.length c0) := HJ.out.1.cell 0 _ rfl
       clear hba
       go_wp2_with (first
        | ((with_reducible refine wpList_load_word ?_ 31 28 (.tmp 7) ?_ Try.underlying31 winfo (w.heap.size + 1) (n) ?_ ?_ ?_); (exact rfl); (exact rfl); (exact rfl); (exact HJ.out.2.1))
        | ((with_reducible refine wpList_eql_word ?_ (.tmp 34) (.tmp 35) ?_ n 0 HN.out (by decide) ?_ ?_ ?_); (exact rfl); (exact rfl); (exact rfl); (exact rfl); rw [HNZ.out]))
       refine (HRM.out _ HJ.out.2.2.2).mono ?_
       rintro e w5 ⟨rfl, he⟩
       have HJ5 := Lib.hid (HJ4.out.ext he)
       clear he HJ4 HJ q4
       cases rm with
       | false =>
        have HF := Lib.hid (show moveR l b a n = ([], 6) by rw [HDEF.out]; rfl)
        clear HDEF
        have r1 : w5.cell? ⟨(w.heap.size + 1 + 1), 0, none⟩ = some (.slice none 0 0) := HJ5.out.1.2.2.1.cell 0 _ rfl
        have p1 : w5.frozen? ⟨(w.heap.size + 1 + 1), 0, none⟩ = false := HJ5.out.1.2.2.1.frozen 0
        go_wp2_with fail
        refine bodyPost_ret (results_st_err Try.results46 _ _ (w.heap.size + 1 + 1) (.slice none 0 0) rfl (by simpa using Cs.set HJ5.out.1.2.2.1 0 (.slice none 0 0))) rfl ?_
        exact ⟨_, by rw [HF.out]; rfl, by rw [HF.out]; exact RwA.nil _ _ _, HJ5.out.1.2.2.2.grown (grown_set _ _ _ _) (by omega)⟩
       | true =>
        have HF := Lib.hid (show moveR l b a n = (wiL (wiL l (setB p m)) (setB q k), 0) by rw [HDEF.out]; rfl)
        have HGL := Lib.hid (Cs.lt HJ5.out.2)
        clear HDEF
        have HJ := HJ5
        go_upto_region 10 with fail
        refine wp_named fun a0 ha0 => ?_
        obtain ⟨fr, hfr⟩ : ∃ fr : (Nat → Value) → Act, ∀ V, fr V = (((((((((((a0.put (some 54) (V 0)).put (some 55) (V 1)).put (some 56) (V 2)).put (some 57) (V 3)).put (some 58) (V 4)).put (some 59) (V 5)).put (some 53) (V 6)).put (some 60) (V 7)).put (some 61) (V 8)).put (some 12) (V 9)).put (some 13) (V 11)) := ⟨_, fun _ => rfl⟩
        rw [ha0] at hfr
        simp only [Act.put, List.setIfInBounds_toArray, List.set_cons_zero, List.set_cons_succ] at hfr
        have HFR := Lib.hid hfr
        clear hfr
        refine wp_region_inv (by kernel_rfl) (by kernel_rfl) (fun L A W => ∃ V : Nat → Value, A = fr V ∧ Vals (fun j => ([some (.agg #[.slice A0 l.length c0]), some (.int .u64 (a : Nat)), none, some (wv q.bal), some (wv n), some (.tuple #[wv (k), .bool (ob)]), some (.tuple #[wv (k), .bool (ob)]), some (wv (k)), some (.bool (ob)), none, none, some (.bool (ob))] : List (Option Value)).getD j none) L V ∧ (L 10 = false → MnK w (w.heap.size) (w.heap.size + 1) (w.heap.size + 1 + 1) gl (.slice A0 l.length c0) n m W) ∧ (L 10 = true → KbJ w (w.heap.size) (w.heap.size + 1) (w.heap.size + 1 + 1) gl (.slice A0 l.length c0) n m k W (V 9)) ∧ (L 10 = false → L 2 = true → OfP w q (V 2)) ∧ (L 10 = false → L 9 = true → NwX (w.heap.size + 1 + 1) gl W (V 9))) ?_ ⟨?_, ?_, ?_, ?_, ?_, ?_, ?_, ?_, ?_, ?_, ?_, ?_, trivial⟩ ?_
        ·refine ⟨fun j => a0.tmps.getD (([54, 55, 56, 57, 58, 59, 53, 60, 61, 12, 0, 13] : List Nat).getD j 0) undef, ?_, Vals.no _ _ _ (far_none _ _ rfl), fun _ => HJ.out.ext (Ext.refl _).drew, fun h0 => absurd h0 (by decide), fun h0 h1 => absurd h1 (by decide), fun h0 h1 => absurd h1 (by decide)⟩
         rw [HFR.out, ha0]
         rfl
        all_goals clear ha0
        ·rintro L A W K hL hC hW ⟨V, rfl, HV, s0, s1, f2, f9⟩ hK
         have hB := s0 (hC.no (hC.no (hC.no (hC.no (hC.no (hC.no hL 2 _ rfl rfl) 3 _ rfl rfl) 5 _ rfl rfl) 6 _ rfl rfl) 7 _ rfl rfl) 10 _ rfl rfl)
         have H := Lib.hid (show ∀ W', Ext W W' → K (fr (upd V 0 (.agg #[.slice A0 l.length c0]))) W' from fun W' he => hK _ _ ⟨_, rfl, HV.us 0 _ rfl, fun h0 => MnK.ext (s0 (mnf h0 rfl)) he, fun h0 => KbJ.ext (s1 (more_ne h0 rfl)) he, fun h0 h1 => keepP (f2 (mnf h0 rfl) (more_ne h1 rfl)) he, fun h0 h1 => NwX.ext (f9 (mnf h0 rfl) (more_ne h1 rfl)) he⟩)
         clear hK hC hW hL HV s0 s1 f2 f9
         rw [HFR.out]
         have hcl : W.cell? ⟨w.heap.size, 0, none⟩ = some (.slice A0 l.length c0) := hB.1.1.cell 0 _ rfl
         clear hB
         go_wp2_with fail
         show K _ _; have := H.out _ (Ext.refl _); rw [HFR.out] at this
         exact this
        ·rintro L A W K hL hC hW ⟨V, rfl, HV, s0, s1, f2, f9⟩ hK
         have H := Lib.hid (show ∀ W', Ext W W' → K (fr (upd V 1 (.int .u64 (a : Nat)))) W' from fun W' he => hK _ _ ⟨_, rfl, HV.us 1 _ rfl, fun h0 => MnK.ext (s0 (mnf h0 rfl)) he, fun h0 => KbJ.ext (s1 (more_ne h0 rfl)) he, fun h0 h1 => keepP (f2 (mnf h0 rfl) (more_ne h1 rfl)) he, fun h0 h1 => NwX.ext (f9 (mnf h0 rfl) (more_ne h1 rfl)) he⟩)
         clear hK hC hW hL HV s0 s1 f2 f9
         rw [HFR.out]
         go_wp2_with fail
         show K _ _; have := H.out _ (Ext.refl _); rw [HFR.out] at this
         exact this
        ·rintro L A W K hL hC hW ⟨V, rfl, HV, s0, s1, f2, f9⟩ hK
         have e0 := HV 0 _ rfl (hW 0 rfl)
         have e1 := HV 1 _ rfl (hW 1 rfl)
         have hB := s0 (hC.no (hC.no (hC.no (hC.no (hC.no hL 3 _ rfl rfl) 5 _ rfl rfl) 6 _ rfl rfl) 7 _ rfl rfl) 10 _ rfl rfl)
         have H := Lib.hid (show ∀ v W', Ext W W' → (OfP w q v) → K (fr (upd V 2 v)) W' from fun v W' he hp => hK _ _ ⟨_, rfl, HV.un 2 _ rfl, fun h0 => MnK.ext (s0 (mnf h0 rfl)) he, fun h0 => KbJ.ext (s1 (more_ne h0 rfl)) he, fun h0 h1 => hp, fun h0 h1 => NwX.ext (f9 (mnf h0 rfl) (more_ne h1 rfl)) he⟩)
         have HU := Lib.hid (show ∀ v, (upd V 2 v) 0 = .agg #[.slice A0 l.length c0] ∧ (upd V 2 v) 1 = .int .u64 (a : Nat) from fun v => ⟨e0, e1⟩)
         clear hK hC hW hL HV s0 s1 f2 f9
         rw [HFR.out, e0, e1]
         clear e0 e1
         have HB := Lib.hid hB
         clear hB
         go_wp2_with fail
         refine (HOFq.out _ HB.out.1.2.2.2).mono ?_
         rintro e wx ⟨u', v', rfl, hu', hv', he⟩
         have := H.out _ _ he (⟨u', v', rfl, hu', hv'⟩)
         clear H
         go_wp2_with fail
         show K _ _
         rw [HFR.out] at this
         obtain ⟨u0, u1⟩ := HU.out _
         rw [u0, u1] at this
         exact this
        ·rintro L A W K hL hC hW ⟨V, rfl, HV, s0, s1, f2, f9⟩ hK
         have hB := s0 (hC.no (hC.no (hC.no (hC.no hL 5 _ rfl rfl) 6 _ rfl rfl) 7 _ rfl rfl) 10 _ rfl rfl)
         have q2 := f2 (hC.no (hC.no (hC.no (hC.no hL 5 _ rfl rfl) 6 _ rfl rfl) 7 _ rfl rfl) 10 _ rfl rfl) (hW 2 rfl)
         obtain ⟨u2, v2, e2, y2, z2⟩ := q2
         have H := Lib.hid (show ∀ W', Ext W W' → K (fr (upd V 3 (wv q.bal))) W' from fun W' he => hK _ _ ⟨_, rfl, HV.us 3 _ rfl, fun h0 => MnK.ext (s0 (mnf h0 rfl)) he, fun h0 => KbJ.ext (s1 (more_ne h0 rfl)) he, fun h0 h1 => keepP (f2 (mnf h0 rfl) (more_ne h1 rfl)) he, fun h0 h1 => NwX.ext (f9 (mnf h0 rfl) (more_ne h1 rfl)) he⟩)
         have HU := Lib.hid (show (upd V 3 (wv q.bal)) 2 = .agg (acc q u2 v2) from e2)
         clear hK hC hW hL HV s0 s1 f2 f9
         rw [HFR.out, e2]
         clear e2
         clear hB
         refine wpList_field_bal rfl (.tmp 56) rfl q u2 v2 rfl ?_
         show K _ _; have := H.out _ (Ext.refl _); rw [HFR.out] at this
         obtain u2 := HU.out
         rw [u2] at this
         exact this
        ·rintro L A W K hL hC hW ⟨V, rfl, HV, s0, s1, f2, f9⟩ hK
         have hB := s0 (hC.no (hC.no (hC.no (hC.no hL 5 _ rfl rfl) 6 _ rfl rfl) 7 _ rfl rfl) 10 _ rfl rfl)
         have H := Lib.hid (show ∀ W', Ext W W' → K (fr (upd V 4 (wv n))) W' from fun W' he => hK _ _ ⟨_, rfl, HV.us 4 _ rfl, fun h0 => MnK.ext (s0 (mnf h0 rfl)) he, fun h0 => KbJ.ext (s1 (more_ne h0 rfl)) he, fun h0 h1 => keepP (f2 (mnf h0 rfl) (more_ne h1 rfl)) he, fun h0 h1 => NwX.ext (f9 (mnf h0 rfl) (more_ne h1 rfl)) he⟩)
         clear hK hC hW hL HV s0 s1 f2 f9
         rw [HFR.out]
         have HWD := Lib.hid hB.1.2.1
         clear hB
         refine wpList_load_word rfl 31 28 (.tmp 7) rfl Try.underlying31 winfo (w.heap.size + 1) n rfl HWD.out ?_
         show K _ _; have := H.out _ (Ext.refl _); rw [HFR.out] at this
         exact this
        ·rintro L A W K hL hC hW ⟨V, rfl, HV, s0, s1, f2, f9⟩ hK
         have e3 := HV 3 _ rfl (hW 3 rfl)
         have e4 := HV 4 _ rfl (hW 4 rfl)
         have hB := s0 (hC.no (hC.no (hC.no hL 6 _ rfl rfl) 7 _ rfl rfl) 10 _ rfl rfl)
         have H := Lib.hid (show ∀ W', Ext W W' → K (fr (upd V 5 (.tuple #[wv (k), .bool (ob)]))) W' from fun W' he => hK _ _ ⟨_, rfl, HV.us 5 _ rfl, fun h0 => MnK.ext (s0 (mnf h0 rfl)) he, fun h0 => KbJ.ext (s1 (more_ne h0 rfl)) he, fun h0 h1 => keepP (f2 (mnf h0 rfl) (more_ne h1 rfl)) he, fun h0 h1 => NwX.ext (f9 (mnf h0 rfl) (more_ne h1 rfl)) he⟩)
         have HU := Lib.hid (show (upd V 5 (.tuple #[wv (k), .bool (ob)])) 3 = wv q.bal ∧ (upd V 5 (.tuple #[wv (k), .bool (ob)])) 4 = wv n from ⟨e3, e4⟩)
         clear hK hC hW hL HV s0 s1 f2 f9
         rw [HFR.out, e3, e4]
         clear e3 e4
         clear hB
         go_wp2_with fail
         refine (HADD.out _).mono ?_
         rintro e wx ⟨rfl, _, he⟩
         have := H.out _ he
         clear H
         go_wp2_with fail
         show K _ _
         rw [HFR.out] at this
         obtain ⟨u3, u4⟩ := HU.out
         rw [u3, u4] at this
         exact this
        ·rintro L A W K hL hC hW ⟨V, rfl, HV, s0, s1, f2, f9⟩ hK
         have e5 := HV 5 _ rfl (hW 5 rfl)
         have H := Lib.hid (show ∀ W', Ext W W' → K (fr (upd V 6 (.tuple #[wv (k), .bool (ob)]))) W' from fun W' he => hK _ _ ⟨_, rfl, HV.us 6 _ rfl, fun h0 => MnK.ext (s0 (mnf h0 rfl)) he, fun h0 => KbJ.ext (s1 (more_ne h0 rfl)) he, fun h0 h1 => keepP (f2 (mnf h0 rfl) (more_ne h1 rfl)) he, fun h0 h1 => NwX.ext (f9 (mnf h0 rfl) (more_ne h1 rfl)) he⟩)
         have HU := Lib.hid (show (upd V 6 (.tuple #[wv (k), .bool (ob)])) 5 = .tuple #[wv (k), .bool (ob)] from e5)
         clear hK hC hW hL HV s0 s1 f2 f9
         rw [HFR.out, e5]
         clear e5
         go_wp2_with fail
         show K _ _; have := H.out _ (Ext.refl _); rw [HFR.out] at this
         obtain u5 := HU.out
         rw [u5] at this
         exact this
        ·rintro L A W K hL hC hW ⟨V, rfl, HV, s0, s1, f2, f9⟩ hK
         have e6 := HV 6 _ rfl (hW 6 rfl)
         have H := Lib.hid (show ∀ W', Ext W W' → K (fr (upd V 7 (wv (k)))) W' from fun W' he => hK _ _ ⟨_, rfl, HV.us 7 _ rfl, fun h0 => MnK.ext (s0 (mnf h0 rfl)) he, fun h0 => KbJ.ext (s1 (more_ne h0 rfl)) he, fun h0 h1 => keepP (f2 (mnf h0 rfl) (more_ne h1 rfl)) he, fun h0 h1 => NwX.ext (f9 (mnf h0 rfl) (more_ne h1 rfl)) he⟩)
         have HU := Lib.hid (show (upd V 7 (wv (k))) 6 = .tuple #[wv (k), .bool (ob)] from e6)
         clear hK hC hW hL HV s0 s1 f2 f9
         rw [HFR.out, e6]
         clear e6
         go_wp2_with fail
         show K _ _; have := H.out _ (Ext.refl _); rw [HFR.out] at this
         obtain u6 := HU.out
         rw [u6] at this
         exact this
        ·rintro L A W K hL hC hW ⟨V, rfl, HV, s0, s1, f2, f9⟩ hK
         have e6 := HV 6 _ rfl (hW 6 rfl)
         have H := Lib.hid (show ∀ W', Ext W W' → K (fr (upd V 8 (.bool (ob)))) W' from fun W' he => hK _ _ ⟨_, rfl, HV.us 8 _ rfl, fun h0 => MnK.ext (s0 (mnf h0 rfl)) he, fun h0 => KbJ.ext (s1 (more_ne h0 rfl)) he, fun h0 h1 => keepP (f2 (mnf h0 rfl) (more_ne h1 rfl)) he, fun h0 h1 => NwX.ext (f9 (mnf h0 rfl) (more_ne h1 rfl)) he⟩)
         have HU := Lib.hid (show (upd V 8 (.bool (ob))) 6 = .tuple #[wv (k), .bool (ob)] from e6)
         clear hK hC hW hL HV s0 s1 f2 f9
         rw [HFR.out, e6]
         clear e6
         go_wp2_with fail
         show K _ _; have := H.out _ (Ext.refl _); rw [HFR.out] at this
         obtain u6 := HU.out
         rw [u6] at this
         exact this
        ·rintro L A W K hL hC hW ⟨V, rfl, HV, s0, s1, f2, f9⟩ hK
         have hB := s0 (hC.no hL 10 _ rfl rfl)
         have H := Lib.hid (show ∀ v W', Ext W W' → (NwX (w.heap.size + 1 + 1) gl W' v) → K (fr (upd V 9 v)) W' from fun v W' he hp => hK _ _ ⟨_, rfl, HV.un 9 _ rfl, fun h0 => MnK.ext (s0 (mnf h0 rfl)) he, fun h0 => mtf (hC.no hL 10 _ rfl rfl) (more_ne h0 rfl), fun h0 h1 => keepP (f2 (mnf h0 rfl) (more_ne h1 rfl)) he, fun h0 h1 => hp⟩)
         clear hK hC hW hL HV s0 s1 f2 f9
         rw [HFR.out]
         have HB := Lib.hid hB
         clear hB
         go_wp2_with fail
         show K _ _; have := H.out (.pointer (some ⟨W.heap.size, 0, none⟩)) _ ((Ext.refl W).alloc (.cells (wc 0) 31)) (⟨_, rfl, Cs.new _ _ _ _ rfl, Cs.lt HB.out.1.2.2.1, by have := Cs.lt HB.out.2; omega⟩); rw [HFR.out] at this
         exact this
        ·rintro L A W K hL hC hW ⟨V, rfl, HV, s0, s1, f2, f9⟩ hK
         have e7 := HV 7 _ rfl (hW 7 rfl)
         have hB := s0 hL
         have q9 := f9 hL (hW 9 rfl)
         obtain ⟨g9, e9, k9, z9⟩ := q9
         have H := Lib.hid (show ∀ W', (KbJ w (w.heap.size) (w.heap.size + 1) (w.heap.size + 1 + 1) gl (.slice A0 l.length c0) n m k W' (V 9)) → K (fr (V)) W' from fun W' hA => hK _ _ ⟨V, rfl, HV.st 10 rfl, fun h0 => msf h0, fun h0 => hA, fun h0 h1 => msf h0, fun h0 h1 => msf h0⟩)
         have HU := Lib.hid (show (V) 9 = .pointer (some ⟨g9, 0, none⟩) ∧ (V) 7 = wv (k) from ⟨e9, e7⟩)
         clear hK hC hW hL HV s0 s1 f2 f9
         rw [HFR.out, e9, e7]
         clear e9 e7
         have HB := Lib.hid hB
         have K1 := Lib.hid k9
         have Z1 := Lib.hid z9
         clear hB k9 z9
         refine wpList_store_word rfl rfl 31 (.tmp 12) (.tmp 60) rfl winfo g9 (wc 0) (k) rfl rfl K1.out rfl ?_
         intro w6 k6 g6'
         have HA := Lib.hid (show KbJ w (w.heap.size) (w.heap.size + 1) (w.heap.size + 1 + 1) gl (.slice A0 l.length c0) n m k w6 (V 9) from by rw [HU.out.1]; exact KbJ.new HB.out ⟨by omega, by omega, by omega⟩ Z1.out g6' k6)
         clear k6 g6'
         show K _ _; have := H.out _ HA.out; rw [HFR.out] at this
         obtain ⟨u9, u7⟩ := HU.out
         rw [u9, u7] at this
         exact this
        ·rintro L A W K hL hC hW ⟨V, rfl, HV, s0, s1, f2, f9⟩ hK
         have e8 := HV 8 _ rfl (hW 8 rfl)
         have H := Lib.hid (show ∀ W', Ext W W' → K (fr (upd V 11 (.bool (ob)))) W' from fun W' he => hK _ _ ⟨_, rfl, HV.us 11 _ rfl, fun h0 => MnK.ext (s0 (mnf h0 rfl)) he, fun h0 => KbJ.ext (s1 (more_ne h0 rfl)) he, fun h0 h1 => keepP (f2 (mnf h0 rfl) (more_ne h1 rfl)) he, fun h0 h1 => NwX.ext (f9 (mnf h0 rfl) (more_ne h1 rfl)) he⟩)
         have HU := Lib.hid (show (upd V 11 (.bool (ob))) 8 = .bool (ob) from e8)
         clear hK hC hW hL HV s0 s1 f2 f9
         rw [HFR.out, e8]
         clear e8
         go_wp2_with fail
         show K _ _; have := H.out _ (Ext.refl _); rw [HFR.out] at this
         obtain u8 := HU.out
         rw [u8] at this
         exact this
        ·rintro L A W hL ⟨V, rfl, HV, s0, s1, f2, f9⟩
         have e0 := HV 0 _ rfl (hL 0 (by simp))
         have e1 := HV 1 _ rfl (hL 1 (by simp))
         have e3 := HV 3 _ rfl (hL 3 (by simp))
         have e4 := HV 4 _ rfl (hL 4 (by simp))
         have e5 := HV 5 _ rfl (hL 5 (by simp))
         have e6 := HV 6 _ rfl (hL 6 (by simp))
         have e7 := HV 7 _ rfl (hL 7 (by simp))
         have e8 := HV 8 _ rfl (hL 8 (by simp))
         have e11 := HV 11 _ rfl (hL 11 (by simp))
         have hA := s1 (hL 10 (by simp))
         rw [HFR.out, e0, e1, e3, e4, e5, e6, e7, e8, e11]
         clear hL HV HFR e0 e1 e3 e4 e5 e6 e7 e8 e11 s0 s1 f2 f9
         obtain ⟨gm, hv6, hJ6, hg6⟩ := hA
         have HJ6 := Lib.hid hJ6
         rw [hv6]
         clear hv6 hJ6 hg6
         have HXOx := Lib.hid (And.intro (setB_ok HOPp.out HM.out) HPZp.out)
         have HPDx := Lib.hid (fun u v W hu hv => refPaid_any p u v m W hu hv)
         obtain ⟨x, hx⟩ : ∃ x, setB p m = x := ⟨_, rfl⟩
         have HXCx := Lib.hid (show x.code = p.code ∧ x.store = p.store from by rw [← hx]; exact ⟨rfl, rfl⟩)
         have HXOx := Lib.hid (show x.ok ∧ x.code.length ≤ 1000000 ∧ x.store.length ≤ 1000000 from by rw [HXCx.out.1, HXCx.out.2]; rw [hx] at HXOx; exact HXOx.out)
         rw [hx] at HPDx HF
         clear hx
         have HXOy := Lib.hid (And.intro (setB_ok HOPq.out HK.out) HPZq.out)
         have HPDy := Lib.hid (fun u v W hu hv => refPaid_any q u v k W hu hv)
         obtain ⟨y, hy⟩ : ∃ x, setB q k = x := ⟨_, rfl⟩
         have HXCy := Lib.hid (show y.code = q.code ∧ y.store = q.store from by rw [← hy]; exact ⟨rfl, rfl⟩)
         have HXOy := Lib.hid (show y.ok ∧ y.code.length ≤ 1000000 ∧ y.store.length ≤ 1000000 from by rw [HXCy.out.1, HXCy.out.2]; rw [hy] at HXOy; exact HXOy.out)
         rw [hy] at HPDy HF
         clear hy
         have HW1 := Lib.hid (fun u v W (h : Ext w W) (h1 : Bs w u x.code) (h2 : Pks w v x.store) => refWith_any (.slice A0 l.length c0) l x u v W (HS.out.ext h) HXOx.out.1 (h1.ext h) (h2.ext h) HLE.out HSZ.out HXOx.out.2)
         have HLN := Lib.hid (wiL_len l x)
         have HSZ1 := Lib.hid (show ∀ z ∈ wiL l x, z.code.length ≤ 1000000 ∧ z.store.length ≤ 1000000 from fun z hz => by
          rcases wiL_mem hz with h | h
          ·exact HSZ.out z h
          ·rw [h]; exact HXOx.out.2)
         obtain ⟨r1, hr1⟩ : ∃ r : List Ac × Int, (wiL l x, (0 : Int)) = r := ⟨_, rfl⟩
         rw [show wiL l x = r1.1 by rw [← hr1]] at HW1 HLN HSZ1 HF
         clear hr1
         have HWI := Lib.hid (fun A c u v W (h : Ext w W) (ho : RwA w.heap.size W (.slice A r1.1.length c) (.slice none 0 0) r1.1) (h1 : Bs w u y.code) (h2 : Pks w v y.store) => refWith_any (.slice A r1.1.length c) r1.1 y u v W ho.acs HXOy.out.1 (h1.ext h) (h2.ext h) (by have := HLN.out; omega) HSZ1.out HXOy.out.2)
         obtain ⟨r, hr⟩ : ∃ r : List Ac × Int, (wiL r1.1 y, (0 : Int)) = r := ⟨_, rfl⟩
         have HR0 := Lib.hid (show r.2 = 0 by rw [← hr])
         rw [hr] at HF
         rw [show wiL r1.1 y = r.1 by rw [← hr]] at HWI
         clear hr
         have WIV := Lib.hid (fun (W : World) (v' : Value) (h : RwA w.heap.size W v' (.slice none 0 0) r.1) => show StV w.heap.size r W (.agg #[v']) from by obtain ⟨A, c, rfl⟩ := h.shape; exact ⟨A, c, rfl, h⟩)
         have WIV1 := Lib.hid (fun (W : World) (v' : Value) (h : RwA w.heap.size W v' (.slice none 0 0) r1.1) => show StV w.heap.size r1 W (.agg #[v']) from by obtain ⟨A, c, rfl⟩ := h.shape; exact ⟨A, c, rfl, h⟩)
         have HJ := HJ6
         go_upto_region 11 with fail
         refine wp_named fun a0 ha0 => ?_
         obtain ⟨fr, hfr⟩ : ∃ fr : (Nat → Value) → Act, ∀ V, fr V = ((((((((((((((a0.put (some 62) (V 0)).put (some 63) (V 1)).put (some 64) (V 2)).put (some 65) (V 3)).put (some 66) (V 4)).put (some 67) (V 5)).put (some 68) (V 6)).put (some 69) (V 7)).put (some 70) (V 8)).put (some 71) (V 9)).put (some 72) (V 10)).put (some 73) (V 11)).put (some 74) (V 12)).put (some 9) (V 14)) := ⟨_, fun _ => rfl⟩
         rw [ha0] at hfr
         simp only [Act.put, List.setIfInBounds_toArray, List.set_cons_zero, List.set_cons_succ] at hfr
         have HFR := Lib.hid hfr
         clear hfr
         refine wp_region_inv (by kernel_rfl) (by kernel_rfl) (fun L A W => ∃ V : Nat → Value, A = fr V ∧ Vals (fun j => ([some (.agg #[.slice A0 l.length c0]), some (.agg #[.slice A0 l.length c0]), some (.int .u64 (b : Nat)), none, some (wv m), none, none, some (.agg #[.slice A0 l.length c0]), some (.int .u64 (a : Nat)), none, some (wv k), none, none, none, some (.int .i64 0)] : List (Option Value)).getD j none) L V ∧ (L 13 = false → MnL w (w.heap.size) (w.heap.size + 1) (w.heap.size + 1 + 1) gl gm (.slice A0 l.length c0) n m k W) ∧ (L 13 = true → MnE w (w.heap.size + 1 + 1) r W) ∧ (L 13 = false → L 3 = true → OfP w p (V 3)) ∧ (L 13 = false → L 5 = true → OfP w (x) (V 5)) ∧ (L 13 = false → L 6 = true → StV w.heap.size r1 W (V 6)) ∧ (L 13 = false → L 9 = true → OfP w q (V 9)) ∧ (L 13 = false → L 11 = true → OfP w (y) (V 11)) ∧ (L 13 = false → L 12 = true → StV w.heap.size r W (V 12))) ?_ ⟨?_, ?_, ?_, ?_, ?_, ?_, ?_, ?_, ?_, ?_, ?_, ?_, ?_, ?_, ?_, trivial⟩ ?_
         ·refine ⟨fun j => a0.tmps.getD (([62, 63, 64, 65, 66, 67, 68, 69, 70, 71, 72, 73, 74, 0, 9] : List Nat).getD j 0) undef, ?_, Vals.no _ _ _ (far_none _ _ rfl), fun _ => HJ.out.ext (Ext.refl _).drew, fun h0 => absurd h0 (by decide), fun h0 h1 => absurd h1 (by decide), fun h0 h1 => absurd h1 (by decide), fun h0 h1 => absurd h1 (by decide), fun h0 h1 => absurd h1 (by decide), fun h0 h1 => absurd h1 (by decide), fun h0 h1 => absurd h1 (by decide)⟩
          rw [HFR.out, ha0]
          rfl
         all_goals clear ha0
         ·rintro L A W K hL hC hW ⟨V, rfl, HV, s0, s1, f3, f5, f6, f9, f11, f12⟩ hK
          have hB := s0 (hC.no (hC.no (hC.no hL 6 _ rfl rfl) 12 _ rfl rfl) 13 _ rfl rfl)
          have H := Lib.hid (show ∀ W', Ext W W' → K (fr (upd V 0 (.agg #[.slice A0 l.length c0]))) W' from fun W' he => hK _ _ ⟨_, rfl, HV.us 0 _ rfl, fun h0 => MnL.ext (s0 (mnf h0 rfl)) he, fun h0 => MnE.ext (s1 (more_ne h0 rfl)) he, fun h0 h1 => keepP (f3 (mnf h0 rfl) (more_ne h1 rfl)) he, fun h0 h1 => keepP (f5 (mnf h0 rfl) (more_ne h1 rfl)) he, fun h0 h1 => StV.ext (f6 (mnf h0 rfl) (more_ne h1 rfl)) he, fun h0 h1 => keepP (f9 (mnf h0 rfl) (more_ne h1 rfl)) he, fun h0 h1 => keepP (f11 (mnf h0 rfl) (more_ne h1 rfl)) he, fun h0 h1 => StV.ext (f12 (mnf h0 rfl) (more_ne h1 rfl)) he⟩)
          clear hK hC hW hL HV s0 s1 f3 f5 f6 f9 f11 f12
          rw [HFR.out]
          have hcl : W.cell? ⟨w.heap.size, 0, none⟩ = some (.slice A0 l.length c0) := hB.1.1.1.cell 0 _ rfl
          clear hB
          go_wp2_with fail
          show K _ _; have := H.out _ (Ext.refl _); rw [HFR.out] at this
          exact this
         ·rintro L A W K hL hC hW ⟨V, rfl, HV, s0, s1, f3, f5, f6, f9, f11, f12⟩ hK
          have hB := s0 (hC.no (hC.no (hC.no (hC.no (hC.no hL 3 _ rfl rfl) 5 _ rfl rfl) 6 _ rfl rfl) 12 _ rfl rfl) 13 _ rfl rfl)
          have H := Lib.hid (show ∀ W', Ext W W' → K (fr (upd V 1 (.agg #[.slice A0 l.length c0]))) W' from fun W' he => hK _ _ ⟨_, rfl, HV.us 1 _ rfl, fun h0 => MnL.ext (s0 (mnf h0 rfl)) he, fun h0 => MnE.ext (s1 (more_ne h0 rfl)) he, fun h0 h1 => keepP (f3 (mnf h0 rfl) (more_ne h1 rfl)) he, fun h0 h1 => keepP (f5 (mnf h0 rfl) (more_ne h1 rfl)) he, fun h0 h1 => StV.ext (f6 (mnf h0 rfl) (more_ne h1 rfl)) he, fun h0 h1 => keepP (f9 (mnf h0 rfl) (more_ne h1 rfl)) he, fun h0 h1 => keepP (f11 (mnf h0 rfl) (more_ne h1 rfl)) he, fun h0 h1 => mtf (hC.no (hC.no (hC.no (hC.no hL 3 _ rfl rfl) 5 _ rfl rfl) 6 _ rfl rfl) 12 _ rfl rfl) (more_ne h1 rfl)⟩)
          clear hK hC hW hL HV s0 s1 f3 f5 f6 f9 f11 f12
          rw [HFR.out]
          have hcl : W.cell? ⟨w.heap.size, 0, none⟩ = some (.slice A0 l.length c0) := hB.1.1.1.cell 0 _ rfl
          clear hB
          go_wp2_with fail
          show K _ _; have := H.out _ (Ext.refl _); rw [HFR.out] at this
          exact this
         ·rintro L A W K hL hC hW ⟨V, rfl, HV, s0, s1, f3, f5, f6, f9, f11, f12⟩ hK
          have H := Lib.hid (show ∀ W', Ext W W' → K (fr (upd V 2 (.int .u64 (b : Nat)))) W' from fun W' he => hK _ _ ⟨_, rfl, HV.us 2 _ rfl, fun h0 => MnL.ext (s0 (mnf h0 rfl)) he, fun h0 => MnE.ext (s1 (more_ne h0 rfl)) he, fun h0 h1 => keepP (f3 (mnf h0 rfl) (more_ne h1 rfl)) he, fun h0 h1 => keepP (f5 (mnf h0 rfl) (more_ne h1 rfl)) he, fun h0 h1 => StV.ext (f6 (mnf h0 rfl) (more_ne h1 rfl)) he, fun h0 h1 => keepP (f9 (mnf h0 rfl) (more_ne h1 rfl)) he, fun h0 h1 => keepP (f11 (mnf h0 rfl) (more_ne h1 rfl)) he, fun h0 h1 => StV.ext (f12 (mnf h0 rfl) (more_ne h1 rfl)) he⟩)
          clear hK hC hW hL HV s0 s1 f3 f5 f6 f9 f11 f12
          rw [HFR.out]
          go_wp2_with fail
          show K _ _; have := H.out _ (Ext.refl _); rw [HFR.out] at this
          exact this
         ·rintro L A W K hL hC hW ⟨V, rfl, HV, s0, s1, f3, f5, f6, f9, f11, f12⟩ hK
          have e1 := HV 1 _ rfl (hW 1 rfl)
          have e2 := HV 2 _ rfl (hW 2 rfl)
          have hB := s0 (hC.no (hC.no (hC.no (hC.no hL 5 _ rfl rfl) 6 _ rfl rfl) 12 _ rfl rfl) 13 _ rfl rfl)
          have H := Lib.hid (show ∀ v W', Ext W W' → (OfP w p v) → K (fr (upd V 3 v)) W' from fun v W' he hp => hK _ _ ⟨_, rfl, HV.un 3 _ rfl, fun h0 => MnL.ext (s0 (mnf h0 rfl)) he, fun h0 => MnE.ext (s1 (more_ne h0 rfl)) he, fun h0 h1 => hp, fun h0 h1 => keepP (f5 (mnf h0 rfl) (more_ne h1 rfl)) he, fun h0 h1 => StV.ext (f6 (mnf h0 rfl) (more_ne h1 rfl)) he, fun h0 h1 => keepP (f9 (mnf h0 rfl) (more_ne h1 rfl)) he, fun h0 h1 => keepP (f11 (mnf h0 rfl) (more_ne h1 rfl)) he, fun h0 h1 => StV.ext (f12 (mnf h0 rfl) (more_ne h1 rfl)) he⟩)
          have HU := Lib.hid (show ∀ v, (upd V 3 v) 1 = .agg #[.slice A0 l.length c0] ∧ (upd V 3 v) 2 = .int .u64 (b : Nat) from fun v => ⟨e1, e2⟩)
          clear hK hC hW hL HV s0 s1 f3 f5 f6 f9 f11 f12
          rw [HFR.out, e1, e2]
          clear e1 e2
          have HB := Lib.hid hB
          clear hB
          go_wp2_with fail
          refine (HOFp.out _ HB.out.1.1.2.2.2).mono ?_
          rintro e wx ⟨u', v', rfl, hu', hv', he⟩
          have := H.out _ _ he (⟨u', v', rfl, hu', hv'⟩)
          clear H
          go_wp2_with fail
          show K _ _
          rw [HFR.out] at this
          obtain ⟨u1, u2⟩ := HU.out _
          rw [u1, u2] at this
          exact this
         ·rintro L A W K hL hC hW ⟨V, rfl, HV, s0, s1, f3, f5, f6, f9, f11, f12⟩ hK
          have hB := s0 (hC.no (hC.no (hC.no (hC.no hL 5 _ rfl rfl) 6 _ rfl rfl) 12 _ rfl rfl) 13 _ rfl rfl)
          have H := Lib.hid (show ∀ W', Ext W W' → K (fr (upd V 4 (wv m))) W' from fun W' he => hK _ _ ⟨_, rfl, HV.us 4 _ rfl, fun h0 => MnL.ext (s0 (mnf h0 rfl)) he, fun h0 => MnE.ext (s1 (more_ne h0 rfl)) he, fun h0 h1 => keepP (f3 (mnf h0 rfl) (more_ne h1 rfl)) he, fun h0 h1 => keepP (f5 (mnf h0 rfl) (more_ne h1 rfl)) he, fun h0 h1 => StV.ext (f6 (mnf h0 rfl) (more_ne h1 rfl)) he, fun h0 h1 => keepP (f9 (mnf h0 rfl) (more_ne h1 rfl)) he, fun h0 h1 => keepP (f11 (mnf h0 rfl) (more_ne h1 rfl)) he, fun h0 h1 => StV.ext (f12 (mnf h0 rfl) (more_ne h1 rfl)) he⟩)
          clear hK hC hW hL HV s0 s1 f3 f5 f6 f9 f11 f12
          rw [HFR.out]
          have HWD := Lib.hid hB.1.2
          clear hB
          refine wpList_load_word rfl 31 28 (.tmp 10) rfl Try.underlying31 winfo gl m rfl HWD.out ?_
          show K _ _; have := H.out _ (Ext.refl _); rw [HFR.out] at this
          exact this
         ·rintro L A W K hL hC hW ⟨V, rfl, HV, s0, s1, f3, f5, f6, f9, f11, f12⟩ hK
          have e4 := HV 4 _ rfl (hW 4 rfl)
          have hB := s0 (hC.no (hC.no (hC.no hL 6 _ rfl rfl) 12 _ rfl rfl) 13 _ rfl rfl)
          have q3 := f3 (hC.no (hC.no (hC.no hL 6 _ rfl rfl) 12 _ rfl rfl) 13 _ rfl rfl) (hW 3 rfl)
          obtain ⟨u3, v3, e3, y3, z3⟩ := q3
          have H := Lib.hid (show ∀ v W', Ext W W' → (OfP w (x) v) → K (fr (upd V 5 v)) W' from fun v W' he hp => hK _ _ ⟨_, rfl, HV.un 5 _ rfl, fun h0 => MnL.ext (s0 (mnf h0 rfl)) he, fun h0 => MnE.ext (s1 (more_ne h0 rfl)) he, fun h0 h1 => keepP (f3 (mnf h0 rfl) (more_ne h1 rfl)) he, fun h0 h1 => hp, fun h0 h1 => StV.ext (f6 (mnf h0 rfl) (more_ne h1 rfl)) he, fun h0 h1 => keepP (f9 (mnf h0 rfl) (more_ne h1 rfl)) he, fun h0 h1 => keepP (f11 (mnf h0 rfl) (more_ne h1 rfl)) he, fun h0 h1 => StV.ext (f12 (mnf h0 rfl) (more_ne h1 rfl)) he⟩)
          have HU := Lib.hid (show ∀ v, (upd V 5 v) 3 = .agg (acc p u3 v3) ∧ (upd V 5 v) 4 = wv m from fun v => ⟨e3, e4⟩)
          clear hK hC hW hL HV s0 s1 f3 f5 f6 f9 f11 f12
          rw [HFR.out, e3, e4]
          clear e3 e4
          clear hB
          have Y1 := Lib.hid y3
          have Y2 := Lib.hid z3
          clear y3 z3
          go_wp2_with fail
          refine (HPDx.out u3 v3 _ (bs_one Y1.out) (pks_one Y2.out)).mono ?_
          rintro e wx ⟨rfl, he⟩
          have := H.out _ _ he (⟨_, _, rfl, by rw [HXCx.out.1]; exact Y1.out, by rw [HXCx.out.2]; exact Y2.out⟩)
          clear H
          go_wp2_with fail
          show K _ _
          rw [HFR.out] at this
          obtain ⟨u3, u4⟩ := HU.out _
          rw [u3, u4] at this
          exact this
         ·rintro L A W K hL hC hW ⟨V, rfl, HV, s0, s1, f3, f5, f6, f9, f11, f12⟩ hK
          have e0 := HV 0 _ rfl (hW 0 rfl)
          have hB := s0 (hC.no (hC.no hL 12 _ rfl rfl) 13 _ rfl rfl)
          have q5 := f5 (hC.no (hC.no hL 12 _ rfl rfl) 13 _ rfl rfl) (hW 5 rfl)
          obtain ⟨u5, v5, e5, y5, z5⟩ := q5
          have H := Lib.hid (show ∀ v W', Ext W W' → (StV w.heap.size r1 W' v) → K (fr (upd V 6 v)) W' from fun v W' he hp => hK _ _ ⟨_, rfl, HV.un 6 _ rfl, fun h0 => MnL.ext (s0 (mnf h0 rfl)) he, fun h0 => MnE.ext (s1 (more_ne h0 rfl)) he, fun h0 h1 => keepP (f3 (mnf h0 rfl) (more_ne h1 rfl)) he, fun h0 h1 => keepP (f5 (mnf h0 rfl) (more_ne h1 rfl)) he, fun h0 h1 => hp, fun h0 h1 => keepP (f9 (mnf h0 rfl) (more_ne h1 rfl)) he, fun h0 h1 => keepP (f11 (mnf h0 rfl) (more_ne h1 rfl)) he, fun h0 h1 => StV.ext (f12 (mnf h0 rfl) (more_ne h1 rfl)) he⟩)
          have HU := Lib.hid (show ∀ v, (upd V 6 v) 0 = .agg #[.slice A0 l.length c0] ∧ (upd V 6 v) 5 = .agg (acc (x) u5 v5) from fun v => ⟨e0, e5⟩)
          clear hK hC hW hL HV s0 s1 f3 f5 f6 f9 f11 f12
          rw [HFR.out, e0, e5]
          clear e0 e5
          have HB := Lib.hid hB
          clear hB
          have Y1 := Lib.hid y5
          have Y2 := Lib.hid z5
          clear y5 z5
          go_wp2_with fail
          refine (HW1.out u5 v5 _ HB.out.1.1.2.2.2 Y1.out Y2.out).mono ?_
          rintro e wx ⟨v', rfl, hr, he⟩
          have := H.out _ _ he (WIV1.out _ _ (hr.low HB.out.1.1.2.2.2.size))
          clear H
          go_wp2_with fail
          show K _ _
          rw [HFR.out] at this
          obtain ⟨u0, u5⟩ := HU.out _
          rw [u0, u5] at this
          exact this
         ·rintro L A W K hL hC hW ⟨V, rfl, HV, s0, s1, f3, f5, f6, f9, f11, f12⟩ hK
          have hB := s0 (hC.no (hC.no (hC.no (hC.no hL 9 _ rfl rfl) 11 _ rfl rfl) 12 _ rfl rfl) 13 _ rfl rfl)
          have H := Lib.hid (show ∀ W', Ext W W' → K (fr (upd V 7 (.agg #[.slice A0 l.length c0]))) W' from fun W' he => hK _ _ ⟨_, rfl, HV.us 7 _ rfl, fun h0 => MnL.ext (s0 (mnf h0 rfl)) he, fun h0 => MnE.ext (s1 (more_ne h0 rfl)) he, fun h0 h1 => keepP (f3 (mnf h0 rfl) (more_ne h1 rfl)) he, fun h0 h1 => keepP (f5 (mnf h0 rfl) (more_ne h1 rfl)) he, fun h0 h1 => StV.ext (f6 (mnf h0 rfl) (more_ne h1 rfl)) he, fun h0 h1 => keepP (f9 (mnf h0 rfl) (more_ne h1 rfl)) he, fun h0 h1 => keepP (f11 (mnf h0 rfl) (more_ne h1 rfl)) he, fun h0 h1 => StV.ext (f12 (mnf h0 rfl) (more_ne h1 rfl)) he⟩)
          clear hK hC hW hL HV s0 s1 f3 f5 f6 f9 f11 f12
          rw [HFR.out]
          have hcl : W.cell? ⟨w.heap.size, 0, none⟩ = some (.slice A0 l.length c0) := hB.1.1.1.cell 0 _ rfl
          clear hB
          go_wp2_with fail
          show K _ _; have := H.out _ (Ext.refl _); rw [HFR.out] at this
          exact this
         ·rintro L A W K hL hC hW ⟨V, rfl, HV, s0, s1, f3, f5, f6, f9, f11, f12⟩ hK
          have H := Lib.hid (show ∀ W', Ext W W' → K (fr (upd V 8 (.int .u64 (a : Nat)))) W' from fun W' he => hK _ _ ⟨_, rfl, HV.us 8 _ rfl, fun h0 => MnL.ext (s0 (mnf h0 rfl)) he, fun h0 => MnE.ext (s1 (more_ne h0 rfl)) he, fun h0 h1 => keepP (f3 (mnf h0 rfl) (more_ne h1 rfl)) he, fun h0 h1 => keepP (f5 (mnf h0 rfl) (more_ne h1 rfl)) he, fun h0 h1 => StV.ext (f6 (mnf h0 rfl) (more_ne h1 rfl)) he, fun h0 h1 => keepP (f9 (mnf h0 rfl) (more_ne h1 rfl)) he, fun h0 h1 => keepP (f11 (mnf h0 rfl) (more_ne h1 rfl)) he, fun h0 h1 => StV.ext (f12 (mnf h0 rfl) (more_ne h1 rfl)) he⟩)
          clear hK hC hW hL HV s0 s1 f3 f5 f6 f9 f11 f12
          rw [HFR.out]
          go_wp2_with fail
          show K _ _; have := H.out _ (Ext.refl _); rw [HFR.out] at this
          exact this
         ·rintro L A W K hL hC hW ⟨V, rfl, HV, s0, s1, f3, f5, f6, f9, f11, f12⟩ hK
          have e7 := HV 7 _ rfl (hW 7 rfl)
          have e8 := HV 8 _ rfl (hW 8 rfl)
          have hB := s0 (hC.no (hC.no (hC.no hL 11 _ rfl rfl) 12 _ rfl rfl) 13 _ rfl rfl)
          have H := Lib.hid (show ∀ v W', Ext W W' → (OfP w q v) → K (fr (upd V 9 v)) W' from fun v W' he hp => hK _ _ ⟨_, rfl, HV.un 9 _ rfl, fun h0 => MnL.ext (s0 (mnf h0 rfl)) he, fun h0 => MnE.ext (s1 (more_ne h0 rfl)) he, fun h0 h1 => keepP (f3 (mnf h0 rfl) (more_ne h1 rfl)) he, fun h0 h1 => keepP (f5 (mnf h0 rfl) (more_ne h1 rfl)) he, fun h0 h1 => StV.ext (f6 (mnf h0 rfl) (more_ne h1 rfl)) he, fun h0 h1 => hp, fun h0 h1 => keepP (f11 (mnf h0 rfl) (more_ne h1 rfl)) he, fun h0 h1 => StV.ext (f12 (mnf h0 rfl) (more_ne h1 rfl)) he⟩)
          have HU := Lib.hid (show ∀ v, (upd V 9 v) 7 = .agg #[.slice A0 l.length c0] ∧ (upd V 9 v) 8 = .int .u64 (a : Nat) from fun v => ⟨e7, e8⟩)
          clear hK hC hW hL HV s0 s1 f3 f5 f6 f9 f11 f12
          rw [HFR.out, e7, e8]
          clear e7 e8
          have HB := Lib.hid hB
          clear hB
          go_wp2_with fail
          refine (HOFq.out _ HB.out.1.1.2.2.2).mono ?_
          rintro e wx ⟨u', v', rfl, hu', hv', he⟩
          have := H.out _ _ he (⟨u', v', rfl, hu', hv'⟩)
          clear H
          go_wp2_with fail
          show K _ _
          rw [HFR.out] at this
          obtain ⟨u7, u8⟩ := HU.out _
          rw [u7, u8] at this
          exact this
         ·rintro L A W K hL hC hW ⟨V, rfl, HV, s0, s1, f3, f5, f6, f9, f11, f12⟩ hK
          have hB := s0 (hC.no (hC.no (hC.no hL 11 _ rfl rfl) 12 _ rfl rfl) 13 _ rfl rfl)
          have H := Lib.hid (show ∀ W', Ext W W' → K (fr (upd V 10 (wv k))) W' from fun W' he => hK _ _ ⟨_, rfl, HV.us 10 _ rfl, fun h0 => MnL.ext (s0 (mnf h0 rfl)) he, fun h0 => MnE.ext (s1 (more_ne h0 rfl)) he, fun h0 h1 => keepP (f3 (mnf h0 rfl) (more_ne h1 rfl)) he, fun h0 h1 => keepP (f5 (mnf h0 rfl) (more_ne h1 rfl)) he, fun h0 h1 => StV.ext (f6 (mnf h0 rfl) (more_ne h1 rfl)) he, fun h0 h1 => keepP (f9 (mnf h0 rfl) (more_ne h1 rfl)) he, fun h0 h1 => keepP (f11 (mnf h0 rfl) (more_ne h1 rfl)) he, fun h0 h1 => StV.ext (f12 (mnf h0 rfl) (more_ne h1 rfl)) he⟩)
          clear hK hC hW hL HV s0 s1 f3 f5 f6 f9 f11 f12
          rw [HFR.out]
          have HWD := Lib.hid hB.2
          clear hB
          refine wpList_load_word rfl 31 28 (.tmp 12) rfl Try.underlying31 winfo gm k rfl HWD.out ?_
          show K _ _; have := H.out _ (Ext.refl _); rw [HFR.out] at this
          exact this
         ·rintro L A W K hL hC hW ⟨V, rfl, HV, s0, s1, f3, f5, f6, f9, f11, f12⟩ hK
          have e10 := HV 10 _ rfl (hW 10 rfl)
          have hB := s0 (hC.no (hC.no hL 12 _ rfl rfl) 13 _ rfl rfl)
          have q9 := f9 (hC.no (hC.no hL 12 _ rfl rfl) 13 _ rfl rfl) (hW 9 rfl)
          obtain ⟨u9, v9, e9, y9, z9⟩ := q9
          have H := Lib.hid (show ∀ v W', Ext W W' → (OfP w (y) v) → K (fr (upd V 11 v)) W' from fun v W' he hp => hK _ _ ⟨_, rfl, HV.un 11 _ rfl, fun h0 => MnL.ext (s0 (mnf h0 rfl)) he, fun h0 => MnE.ext (s1 (more_ne h0 rfl)) he, fun h0 h1 => keepP (f3 (mnf h0 rfl) (more_ne h1 rfl)) he, fun h0 h1 => keepP (f5 (mnf h0 rfl) (more_ne h1 rfl)) he, fun h0 h1 => StV.ext (f6 (mnf h0 rfl) (more_ne h1 rfl)) he, fun h0 h1 => keepP (f9 (mnf h0 rfl) (more_ne h1 rfl)) he, fun h0 h1 => hp, fun h0 h1 => StV.ext (f12 (mnf h0 rfl) (more_ne h1 rfl)) he⟩)
          have HU := Lib.hid (show ∀ v, (upd V 11 v) 9 = .agg (acc q u9 v9) ∧ (upd V 11 v) 10 = wv k from fun v => ⟨e9, e10⟩)
          clear hK hC hW hL HV s0 s1 f3 f5 f6 f9 f11 f12
          rw [HFR.out, e9, e10]
          clear e9 e10
          clear hB
          have Y1 := Lib.hid y9
          have Y2 := Lib.hid z9
          clear y9 z9
          go_wp2_with fail
          refine (HPDy.out u9 v9 _ (bs_one Y1.out) (pks_one Y2.out)).mono ?_
          rintro e wx ⟨rfl, he⟩
          have := H.out _ _ he (⟨_, _, rfl, by rw [HXCy.out.1]; exact Y1.out, by rw [HXCy.out.2]; exact Y2.out⟩)
          clear H
          go_wp2_with fail
          show K _ _
          rw [HFR.out] at this
          obtain ⟨u9, u10⟩ := HU.out _
          rw [u9, u10] at this
          exact this
         ·rintro L A W K hL hC hW ⟨V, rfl, HV, s0, s1, f3, f5, f6, f9, f11, f12⟩ hK
          have hB := s0 (hC.no hL 13 _ rfl rfl)
          have q6 := f6 (hC.no hL 13 _ rfl rfl) (hW 6 rfl)
          obtain ⟨A6, c6, e6, k6⟩ := q6
          have q11 := f11 (hC.no hL 13 _ rfl rfl) (hW 11 rfl)
          obtain ⟨u11, v11, e11, y11, z11⟩ := q11
          have H := Lib.hid (show ∀ v W', Ext W W' → (StV w.heap.size r W' v) → K (fr (upd V 12 v)) W' from fun v W' he hp => hK _ _ ⟨_, rfl, HV.un 12 _ rfl, fun h0 => MnL.ext (s0 (mnf h0 rfl)) he, fun h0 => MnE.ext (s1 (more_ne h0 rfl)) he, fun h0 h1 => keepP (f3 (mnf h0 rfl) (more_ne h1 rfl)) he, fun h0 h1 => keepP (f5 (mnf h0 rfl) (more_ne h1 rfl)) he, fun h0 h1 => StV.ext (f6 (mnf h0 rfl) (more_ne h1 rfl)) he, fun h0 h1 => keepP (f9 (mnf h0 rfl) (more_ne h1 rfl)) he, fun h0 h1 => keepP (f11 (mnf h0 rfl) (more_ne h1 rfl)) he, fun h0 h1 => hp⟩)
          have HU := Lib.hid (show ∀ v, (upd V 12 v) 6 = .agg #[.slice A6 r1.1.length c6] ∧ (upd V 12 v) 11 = .agg (acc (y) u11 v11) from fun v => ⟨e6, e11⟩)
          clear hK hC hW hL HV s0 s1 f3 f5 f6 f9 f11 f12
          rw [HFR.out, e6, e11]
          clear e6 e11
          have HB := Lib.hid hB
          clear hB
          have Y1 := Lib.hid y11
          have Y2 := Lib.hid z11
          have Y3 := Lib.hid k6
          clear y11 z11 k6
          go_wp2_with fail
          refine (HWI.out A6 c6 u11 v11 _ HB.out.1.1.2.2.2 Y3.out Y1.out Y2.out).mono ?_
          rintro e wx ⟨v', rfl, hr, he⟩
          have := H.out _ _ he (WIV.out _ _ (hr.low HB.out.1.1.2.2.2.size))
          clear H
          go_wp2_with fail
          show K _ _
          rw [HFR.out] at this
          obtain ⟨u6, u11⟩ := HU.out _
          rw [u6, u11] at this
          exact this
         ·rintro L A W K hL hC hW ⟨V, rfl, HV, s0, s1, f3, f5, f6, f9, f11, f12⟩ hK
          have hB := s0 hL
          have q12 := f12 hL (hW 12 rfl)
          obtain ⟨A12, c12, e12, k12⟩ := q12
          have H := Lib.hid (show ∀ W', (MnE w (w.heap.size + 1 + 1) r W') → K (fr (V)) W' from fun W' hA => hK _ _ ⟨V, rfl, HV.st 13 rfl, fun h0 => msf h0, fun h0 => hA, fun h0 h1 => msf h0, fun h0 h1 => msf h0, fun h0 h1 => msf h0, fun h0 h1 => msf h0, fun h0 h1 => msf h0, fun h0 h1 => msf h0⟩)
          have HU := Lib.hid (show (V) 12 = .agg #[.slice A12 r.1.length c12] from e12)
          clear hK hC hW hL HV s0 s1 f3 f5 f6 f9 f11 f12
          rw [HFR.out, e12]
          clear e12
          have HB := Lib.hid hB
          have KH := Lib.hid k12
          have hc : W.cell? ⟨(w.heap.size + 1 + 1), 0, none⟩ = some (.slice none 0 0) := hB.1.1.2.2.1.cell 0 _ rfl
          have hf : W.frozen? ⟨(w.heap.size + 1 + 1), 0, none⟩ = false := hB.1.1.2.2.1.frozen 0
          clear hB k12
          go_wp2_with fail
          have HA := Lib.hid (HB.out.1.1.done (r := r) (by omega) KH.out)
          show K _ _; have := H.out _ HA.out; rw [HFR.out] at this
          obtain u12 := HU.out
          rw [u12] at this
          exact this
         ·rintro L A W K hL hC hW ⟨V, rfl, HV, s0, s1, f3, f5, f6, f9, f11, f12⟩ hK
          have H := Lib.hid (show ∀ W', Ext W W' → K (fr (upd V 14 (.int .i64 0))) W' from fun W' he => hK _ _ ⟨_, rfl, HV.us 14 _ rfl, fun h0 => MnL.ext (s0 (mnf h0 rfl)) he, fun h0 => MnE.ext (s1 (more_ne h0 rfl)) he, fun h0 h1 => keepP (f3 (mnf h0 rfl) (more_ne h1 rfl)) he, fun h0 h1 => keepP (f5 (mnf h0 rfl) (more_ne h1 rfl)) he, fun h0 h1 => StV.ext (f6 (mnf h0 rfl) (more_ne h1 rfl)) he, fun h0 h1 => keepP (f9 (mnf h0 rfl) (more_ne h1 rfl)) he, fun h0 h1 => keepP (f11 (mnf h0 rfl) (more_ne h1 rfl)) he, fun h0 h1 => StV.ext (f12 (mnf h0 rfl) (more_ne h1 rfl)) he⟩)
          clear hK hC hW hL HV s0 s1 f3 f5 f6 f9 f11 f12
          rw [HFR.out]
          go_wp2_with fail
          show K _ _; have := H.out _ (Ext.refl _); rw [HFR.out] at this
          exact this
         ·rintro L A W hL ⟨V, rfl, HV, s0, s1, f3, f5, f6, f9, f11, f12⟩
          have e0 := HV 0 _ rfl (hL 0 (by simp))
          have e1 := HV 1 _ rfl (hL 1 (by simp))
          have e2 := HV 2 _ rfl (hL 2 (by simp))
          have e4 := HV 4 _ rfl (hL 4 (by simp))
          have e7 := HV 7 _ rfl (hL 7 (by simp))
          have e8 := HV 8 _ rfl (hL 8 (by simp))
          have e10 := HV 10 _ rfl (hL 10 (by simp))
          have e14 := HV 14 _ rfl (hL 14 (by simp))
          have hA := s1 (hL 13 (by simp))
          rw [HFR.out, e0, e1, e2, e4, e7, e8, e10, e14]
          clear hL HV HFR e0 e1 e2 e4 e7 e8 e10 e14 s0 s1 f3 f5 f6 f9 f11 f12
          obtain ⟨A9, c9, h1', h2', h3'⟩ := hA
          have H1 := Lib.hid h1'
          have H2 := Lib.hid h2'
          have H3 := Lib.hid h3'
          clear h1' h2' h3'
          go_wp2_with fail
          refine bodyPost_ret (results_st_err Try.results46 _ _ (w.heap.size + 1 + 1) (.slice A9 r.1.length c9) rfl H1.out) rfl ?_
          exact ⟨_, by rw [HF.out, HR0.out]; rfl, by rw [HF.out]; exact H2.out, H3.out⟩
end Go.Proofs.Ytiojfpdjnblkhaa
namespace Go.Proofs.Ytiojfpdjnblkhaa
open Go.ChangeShapes Go.WideShapes Go.ChangeAt Go.RowKit Go.Shelf

def AcS (w : World) (lo : Nat) (x : Ac) (W : World) (val : Value) : Prop := ∃ u v, val = .agg (acc x u v) ∧ Bs w u x.code ∧ OwnK W lo v x.store
theorem AcS.ext {w : World} {lo : Nat} {x : Ac} {W W' : World} {val : Value} (h : AcS w lo x W val) (he : Ext W W') : AcS w lo x W' val := by
 obtain ⟨u, v, h1, h2, h3⟩ := h
 exact ⟨u, v, h1, h2, h3.ext he⟩
def NwA (g6 : Nat) (W : World) (val : Value) : Prop := ∃ g, val = .pointer (some ⟨g, 0, none⟩) ∧ Cs W g 37 az0 ∧ g6 < g
theorem NwA.ext {g6 : Nat} {W W' : World} {val : Value} (h : NwA g6 W val) (he : Ext W W') : NwA g6 W' val := by
 obtain ⟨g, h1, h2, h3⟩ := h
 exact ⟨g, h1, Cs.ext h2 he, h3⟩
def SaJ (w : World) (g3 g5 g6 : Nat) (sv : Value) (q : Nat × Nat) (x : Ac) (W : World) (val : Value) : Prop :=
 ∃ g u v, val = .pointer (some ⟨g, 0, none⟩) ∧ SvJ w g3 g5 g6 sv q W ∧ Ab W g x u v ∧ Bs w u x.code ∧ OwnK W w.heap.size v x.store
theorem SaJ.ext {w : World} {g3 g5 g6 : Nat} {sv : Value} {q : Nat × Nat} {x : Ac} {W W' : World} {val : Value} (h : SaJ w g3 g5 g6 sv q x W val) (he : Ext W W') : SaJ w g3 g5 g6 sv q x W' val := by
 obtain ⟨g, u, v, h1, h2, h3, h4, h5⟩ := h
 exact ⟨g, u, v, h1, h2.ext he, h3.ext he, h4, h5.ext he⟩
theorem SaJ.new {w : World} {g3 g5 g6 g : Nat} {sv : Value} {q : Nat × Nat} {x : Ac} {u v : Value} {W W' : World} (h : SvJ w g3 g5 g6 sv q W) (hl : g3 < g6 ∧ g5 < g6 ∧ w.heap.size ≤ g6) (hz : Cs W g 37 az0) (h6 : g6 < g) (hg : W.grownBy W' (some g)) (hx : Ab W' g x u v) (hu : Bs w u x.code) (hv : OwnK W w.heap.size v x.store) :
  SaJ w g3 g5 g6 sv q x W' (.pointer (some ⟨g, 0, none⟩)) :=
 ⟨g, u, v, rfl, ⟨Cs.kept h.1 hg (some_ne (by omega)), Cs.kept h.2.1 hg (some_ne (by omega)), Cs.kept h.2.2.1 hg (some_ne (by omega)), h.2.2.2.grown hg (by omega)⟩, hx, hu, own_keptT hv.1 hg hz (by decide), hv.2⟩
set_option maxRecDepth 100000 in
set_option maxHeartbeats 8000000 in
theorem refSave_any (sv : Value) (l : List Ac) (a : Nat) (q : Nat × Nat) (w : World) (hs : Acs w sv l) (hl : l.length ≤ 1000) (hsz : ∀ q ∈ l, q.code.length ≤ 1000000 ∧ q.store.length ≤ 1000000) (ha : a < 18446744073709551616) (hq : q.1 < M256 ∧ q.2 < M256) :
  Calls Try.prog 45 #[.agg #[sv], .int .u64 (a : Nat), .agg (pkc q)] w (RetS w (saveR l a q)) := by
 have HS := Lib.hid hs
 have HSZ := Lib.hid hsz
 have HLE := Lib.hid (show l.length ≤ 10000 by omega)
 have HQ := Lib.hid hq
 have HA0 := Lib.hid ha
 have HDEF : Hid (saveR l a q = if a = 0 then ([], 2) else if 24 < (svL (accF l a).1.store q).length then ([], 6) else putR l { (accF l a).1 with store := svL (accF l a).1.store q }) := Lib.hid rfl
 obtain ⟨A0, c0, rfl, h1, h2⟩ := hs.len
 obtain ⟨w0, hw0⟩ : ∃ w0, (((w.alloc (.cells #[.slice A0 l.length c0] 24)).alloc (.cells (pkc q) 33)).alloc (.cells #[.slice none 0 0] 24)) = w0 := ⟨_, rfl⟩
 have HJ0 : Hid (SvJ w w.heap.size (w.heap.size + 1) (w.heap.size + 1 + 1) (.slice A0 l.length c0) q w0) := by
  rw [← hw0]
  exact Lib.hid ⟨Cs.alloc (Cs.alloc (Cs.new _ _ _ _ rfl) _) _, Cs.alloc (Cs.new _ _ _ _ (by simp)) _, Cs.new _ _ _ _ (by simp), (((Ext.refl w).alloc _).alloc _).alloc _⟩
 have HW0 := Lib.hid hw0
 clear hs hsz hw0
 go_enter Try.func45, Try.ntmps45
 go_upto_region 1 with fail
 rw [HW0.out]
 clear HW0
 obtain ⟨p, hp⟩ : ∃ p, (accF l a).1 = p := ⟨_, rfl⟩
 have HOPp := Lib.hid (accF_ok HS.out a ha)
 have HPZp := Lib.hid (accF_sz6 HSZ.out a)
 have HOFp := Lib.hid (fun W (h : Ext w W) => refOf_any (.slice A0 l.length c0) l a w W h HS.out ha)
 rw [hp] at HOPp HPZp HOFp HDEF
 clear hp
 have HSV := Lib.hid (fun u v W hu hv => refSaved_any p u v q W hu hv HQ.out HPZp.out.2)
 obtain ⟨x, hx⟩ : ∃ x : Ac, { p with store := svL p.store q } = x := ⟨_, rfl⟩
 have HXS := Lib.hid (show svL p.store q = x.store by rw [← hx])
 have HXC := Lib.hid (show x.code = p.code by rw [← hx])
 have HXO := Lib.hid (show x.ok by rw [← hx]; exact HOPp.out)
 rw [hx] at HSV HDEF
 rw [HXS.out] at HSV HDEF
 clear hx HXS
 by_cases h0 : a = 0
 ·have f0 : (((a : Nat) : Int) == 0) = true := by rw [beq_iff_eq]; omega
  have HF := Lib.hid (show saveR l a q = ([], 2) by rw [HDEF.out, if_pos h0])
  clear h0 HDEF
  have r1 : w0.cell? ⟨(w.heap.size + 1 + 1), 0, none⟩ = some (.slice none 0 0) := HJ0.out.2.2.1.cell 0 _ rfl
  have p1 : w0.frozen? ⟨(w.heap.size + 1 + 1), 0, none⟩ = false := HJ0.out.2.2.1.frozen 0
  go_wp2_with fail
  refine bodyPost_ret (results_st_err Try.results45 _ _ (w.heap.size + 1 + 1) (.slice none 0 0) rfl (by simpa using Cs.set HJ0.out.2.2.1 0 (.slice none 0 0))) rfl ?_
  exact ⟨_, by rw [HF.out]; rfl, by rw [HF.out]; exact RwA.nil _ _ _, HJ0.out.2.2.2.grown (grown_set _ _ _ _) (by omega)⟩
 ·have f0 : (((a : Nat) : Int) == 0) = false := by rw [beq_eq_false_iff_ne]; omega
  have HDEF := Lib.hid (show saveR l a q = if 24 < x.store.length then ([], 6) else putR l x by rw [HDEF.out, if_neg h0])
  clear h0
  have HJ := HJ0
  go_upto_region 3 with fail
  refine wp_named fun a0 ha0 => ?_
  obtain ⟨fr, hfr⟩ : ∃ fr : (Nat → Value) → Act, ∀ V, fr V = ((((((a0.put (some 12) (V 0)).put (some 13) (V 1)).put (some 14) (V 2)).put (some 15) (V 3)).put (some 16) (V 4)).put (some 8) (V 5)) := ⟨_, fun _ => rfl⟩
  rw [ha0] at hfr
  simp only [Act.put, List.setIfInBounds_toArray, List.set_cons_zero, List.set_cons_succ] at hfr
  have HFR := Lib.hid hfr
  clear hfr
  refine wp_region_inv (by kernel_rfl) (by kernel_rfl) (fun L A W => ∃ V : Nat → Value, A = fr V ∧ Vals (fun j => ([some (.agg #[.slice A0 l.length c0]), some (.int .u64 (a : Nat)), none, some (.agg (pkc q)), none, none, none] : List (Option Value)).getD j none) L V ∧ (L 6 = false → SvJ w (w.heap.size) (w.heap.size + 1) (w.heap.size + 1 + 1) (.slice A0 l.length c0) q W) ∧ (L 6 = true → SaJ w (w.heap.size) (w.heap.size + 1) (w.heap.size + 1 + 1) (.slice A0 l.length c0) q x W (V 5)) ∧ (L 6 = false → L 2 = true → OfP w p (V 2)) ∧ (L 6 = false → L 4 = true → AcS w w.heap.size x W (V 4)) ∧ (L 6 = false → L 5 = true → NwA (w.heap.size + 1 + 1) W (V 5))) ?_ ⟨?_, ?_, ?_, ?_, ?_, ?_, ?_, trivial⟩ ?_
  ·refine ⟨fun j => a0.tmps.getD (([12, 13, 14, 15, 16, 8, 0] : List Nat).getD j 0) undef, ?_, Vals.no _ _ _ (far_none _ _ rfl), fun _ => HJ.out.ext (Ext.refl _).drew, fun h0 => absurd h0 (by decide), fun h0 h1 => absurd h1 (by decide), fun h0 h1 => absurd h1 (by decide), fun h0 h1 => absurd h1 (by decide)⟩
   rw [HFR.out, ha0]
   rfl
  all_goals clear ha0
  ·rintro L A W K hL hC hW ⟨V, rfl, HV, s0, s1, f2, f4, f5⟩ hK
   have hB := s0 (hC.no (hC.no (hC.no hL 2 _ rfl rfl) 4 _ rfl rfl) 6 _ rfl rfl)
   have H := Lib.hid (show ∀ W', Ext W W' → K (fr (upd V 0 (.agg #[.slice A0 l.length c0]))) W' from fun W' he => hK _ _ ⟨_, rfl, HV.us 0 _ rfl, fun h0 => SvJ.ext (s0 (mnf h0 rfl)) he, fun h0 => SaJ.ext (s1 (more_ne h0 rfl)) he, fun h0 h1 => keepP (f2 (mnf h0 rfl) (more_ne h1 rfl)) he, fun h0 h1 => AcS.ext (f4 (mnf h0 rfl) (more_ne h1 rfl)) he, fun h0 h1 => NwA.ext (f5 (mnf h0 rfl) (more_ne h1 rfl)) he⟩)
   clear hK hC hW hL HV s0 s1 f2 f4 f5
   rw [HFR.out]
   have hcl : W.cell? ⟨w.heap.size, 0, none⟩ = some (.slice A0 l.length c0) := hB.1.cell 0 _ rfl
   clear hB
   go_wp2_with fail
   show K _ _; have := H.out _ (Ext.refl _); rw [HFR.out] at this
   exact this
  ·rintro L A W K hL hC hW ⟨V, rfl, HV, s0, s1, f2, f4, f5⟩ hK
   have H := Lib.hid (show ∀ W', Ext W W' → K (fr (upd V 1 (.int .u64 (a : Nat)))) W' from fun W' he => hK _ _ ⟨_, rfl, HV.us 1 _ rfl, fun h0 => SvJ.ext (s0 (mnf h0 rfl)) he, fun h0 => SaJ.ext (s1 (more_ne h0 rfl)) he, fun h0 h1 => keepP (f2 (mnf h0 rfl) (more_ne h1 rfl)) he, fun h0 h1 => AcS.ext (f4 (mnf h0 rfl) (more_ne h1 rfl)) he, fun h0 h1 => NwA.ext (f5 (mnf h0 rfl) (more_ne h1 rfl)) he⟩)
   clear hK hC hW hL HV s0 s1 f2 f4 f5
   rw [HFR.out]
   go_wp2_with fail
   show K _ _; have := H.out _ (Ext.refl _); rw [HFR.out] at this
   exact this
  ·rintro L A W K hL hC hW ⟨V, rfl, HV, s0, s1, f2, f4, f5⟩ hK
   have e0 := HV 0 _ rfl (hW 0 rfl)
   have e1 := HV 1 _ rfl (hW 1 rfl)
   have hB := s0 (hC.no (hC.no hL 4 _ rfl rfl) 6 _ rfl rfl)
   have H := Lib.hid (show ∀ v W', Ext W W' → (OfP w p v) → K (fr (upd V 2 v)) W' from fun v W' he hp => hK _ _ ⟨_, rfl, HV.un 2 _ rfl, fun h0 => SvJ.ext (s0 (mnf h0 rfl)) he, fun h0 => SaJ.ext (s1 (more_ne h0 rfl)) he, fun h0 h1 => hp, fun h0 h1 => AcS.ext (f4 (mnf h0 rfl) (more_ne h1 rfl)) he, fun h0 h1 => NwA.ext (f5 (mnf h0 rfl) (more_ne h1 rfl)) he⟩)
   have HU := Lib.hid (show ∀ v, (upd V 2 v) 0 = .agg #[.slice A0 l.length c0] ∧ (upd V 2 v) 1 = .int .u64 (a : Nat) from fun v => ⟨e0, e1⟩)
   clear hK hC hW hL HV s0 s1 f2 f4 f5
   rw [HFR.out, e0, e1]
   clear e0 e1
   have HB := Lib.hid hB
   clear hB
   go_wp2_with fail
   refine (HOFp.out _ HB.out.2.2.2).mono ?_
   rintro e wx ⟨u', v', rfl, hu', hv', he⟩
   have := H.out _ _ he (⟨u', v', rfl, hu', hv'⟩)
   clear H
   go_wp2_with fail
   show K _ _
   rw [HFR.out] at this
   obtain ⟨u0, u1⟩ := HU.out _
   rw [u0, u1] at this
   exact this
  ·rintro L A W K hL hC hW ⟨V, rfl, HV, s0, s1, f2, f4, f5⟩ hK
   have hB := s0 (hC.no (hC.no hL 4 _ rfl rfl) 6 _ rfl rfl)
   have H := Lib.hid (show ∀ W', Ext W W' → K (fr (upd V 3 (.agg (pkc q)))) W' from fun W' he => hK _ _ ⟨_, rfl, HV.us 3 _ rfl, fun h0 => SvJ.ext (s0 (mnf h0 rfl)) he, fun h0 => SaJ.ext (s1 (more_ne h0 rfl)) he, fun h0 h1 => keepP (f2 (mnf h0 rfl) (more_ne h1 rfl)) he, fun h0 h1 => AcS.ext (f4 (mnf h0 rfl) (more_ne h1 rfl)) he, fun h0 h1 => NwA.ext (f5 (mnf h0 rfl) (more_ne h1 rfl)) he⟩)
   clear hK hC hW hL HV s0 s1 f2 f4 f5
   rw [HFR.out]
   have HWD := Lib.hid (Cs.range0' hB.2.1)
   clear hB
   refine wpList_load_pair rfl (.tmp 5) rfl (w.heap.size + 1) 0 q rfl HWD.out ?_
   show K _ _; have := H.out _ (Ext.refl _); rw [HFR.out] at this
   exact this
  ·rintro L A W K hL hC hW ⟨V, rfl, HV, s0, s1, f2, f4, f5⟩ hK
   have e3 := HV 3 _ rfl (hW 3 rfl)
   have hB := s0 (hC.no hL 6 _ rfl rfl)
   have q2 := f2 (hC.no hL 6 _ rfl rfl) (hW 2 rfl)
   obtain ⟨u2, v2, e2, y2, z2⟩ := q2
   have H := Lib.hid (show ∀ v W', Ext W W' → (AcS w w.heap.size x W' v) → K (fr (upd V 4 v)) W' from fun v W' he hp => hK _ _ ⟨_, rfl, HV.un 4 _ rfl, fun h0 => SvJ.ext (s0 (mnf h0 rfl)) he, fun h0 => SaJ.ext (s1 (more_ne h0 rfl)) he, fun h0 h1 => keepP (f2 (mnf h0 rfl) (more_ne h1 rfl)) he, fun h0 h1 => hp, fun h0 h1 => NwA.ext (f5 (mnf h0 rfl) (more_ne h1 rfl)) he⟩)
   have HU := Lib.hid (show ∀ v, (upd V 4 v) 2 = .agg (acc p u2 v2) ∧ (upd V 4 v) 3 = .agg (pkc q) from fun v => ⟨e2, e3⟩)
   clear hK hC hW hL HV s0 s1 f2 f4 f5
   rw [HFR.out, e2, e3]
   clear e2 e3
   have HB := Lib.hid hB
   clear hB
   have Y1 := Lib.hid y2
   have Y2 := Lib.hid z2
   clear y2 z2
   go_wp2_with fail
   refine (HSV.out u2 v2 _ (Y1.out.ext HB.out.2.2.2) (Y2.out.ext HB.out.2.2.2)).mono ?_
   rintro e wx ⟨v', rfl, ho, he⟩
   have := H.out _ _ he (⟨_, _, rfl, by rw [HXC.out]; exact Y1.out, ho.mono HB.out.2.2.2.size⟩)
   clear H
   go_wp2_with fail
   show K _ _
   rw [HFR.out] at this
   obtain ⟨u2, u3⟩ := HU.out _
   rw [u2, u3] at this
   exact this
  ·rintro L A W K hL hC hW ⟨V, rfl, HV, s0, s1, f2, f4, f5⟩ hK
   have hB := s0 (hC.no hL 6 _ rfl rfl)
   have H := Lib.hid (show ∀ v W', Ext W W' → (NwA (w.heap.size + 1 + 1) W' v) → K (fr (upd V 5 v)) W' from fun v W' he hp => hK _ _ ⟨_, rfl, HV.un 5 _ rfl, fun h0 => SvJ.ext (s0 (mnf h0 rfl)) he, fun h0 => mtf (hC.no hL 6 _ rfl rfl) (more_ne h0 rfl), fun h0 h1 => keepP (f2 (mnf h0 rfl) (more_ne h1 rfl)) he, fun h0 h1 => AcS.ext (f4 (mnf h0 rfl) (more_ne h1 rfl)) he, fun h0 h1 => hp⟩)
   clear hK hC hW hL HV s0 s1 f2 f4 f5
   rw [HFR.out]
   have HB := Lib.hid hB
   clear hB
   go_wp2_with fail
   show K _ _; have := H.out (.pointer (some ⟨W.heap.size, 0, none⟩)) _ ((Ext.refl W).alloc (.cells az0 37)) (⟨_, rfl, Cs.new _ _ _ _ rfl, Cs.lt HB.out.2.2.1⟩); rw [HFR.out] at this
   exact this
  ·rintro L A W K hL hC hW ⟨V, rfl, HV, s0, s1, f2, f4, f5⟩ hK
   have hB := s0 hL
   have q4 := f4 hL (hW 4 rfl)
   obtain ⟨u4, v4, e4, y4, z4⟩ := q4
   have q5 := f5 hL (hW 5 rfl)
   obtain ⟨g5, e5, k5, z5⟩ := q5
   have H := Lib.hid (show ∀ W', (SaJ w (w.heap.size) (w.heap.size + 1) (w.heap.size + 1 + 1) (.slice A0 l.length c0) q x W' (V 5)) → K (fr (V)) W' from fun W' hA => hK _ _ ⟨V, rfl, HV.st 6 rfl, fun h0 => msf h0, fun h0 => hA, fun h0 h1 => msf h0, fun h0 h1 => msf h0, fun h0 h1 => msf h0⟩)
   have HU := Lib.hid (show (V) 5 = .pointer (some ⟨g5, 0, none⟩) ∧ (V) 4 = .agg (acc x u4 v4) from ⟨e5, e4⟩)
   clear hK hC hW hL HV s0 s1 f2 f4 f5
   rw [HFR.out, e5, e4]
   clear e5 e4
   have HB := Lib.hid hB
   have K1 := Lib.hid k5
   have Z1 := Lib.hid z5
   have Y1 := Lib.hid y4
   have Y2 := Lib.hid z4
   clear hB k5 z5 y4 z4
   refine wpList_store_ac rfl rfl (.tmp 8) (.tmp 16) rfl g5 az0 x u4 v4 (bs_one Y1.out) (pks_one Y2.out.pks) rfl rfl K1.out rfl ?_
   intro w6 k6 g6'
   have HA := Lib.hid (show SaJ w (w.heap.size) (w.heap.size + 1) (w.heap.size + 1 + 1) (.slice A0 l.length c0) q x w6 (V 5) from by rw [HU.out.1]; exact SaJ.new HB.out ⟨by omega, by omega, by omega⟩ K1.out Z1.out g6' k6 Y1.out Y2.out)
   clear k6 g6'
   show K _ _; have := H.out _ HA.out; rw [HFR.out] at this
   obtain ⟨u5, u4⟩ := HU.out
   rw [u5, u4] at this
   exact this
  ·rintro L A W hL ⟨V, rfl, HV, s0, s1, f2, f4, f5⟩
   have e0 := HV 0 _ rfl (hL 0 (by simp))
   have e1 := HV 1 _ rfl (hL 1 (by simp))
   have e3 := HV 3 _ rfl (hL 3 (by simp))
   have hA := s1 (hL 6 (by simp))
   rw [HFR.out, e0, e1, e3]
   clear hL HV HFR e0 e1 e3 s0 s1 f2 f4 f5
   obtain ⟨g8, u8, v8, hv8, hJ8, hx8, hu8, ho8⟩ := hA
   have HJ8 := Lib.hid hJ8
   have HX8 := Lib.hid hx8
   have HU8 := Lib.hid hu8
   have HO8 := Lib.hid ho8
   obtain ⟨A8, c8, rfl, l8, m8⟩ := ho8.pks.len
   unfold maxLen at m8
   rw [hv8]
   have q7 : W.cell? ⟨g8, 7, none⟩ = some (.slice A8 x.store.length c8) := hx8.store
   clear hv8 hJ8 hx8 hu8 ho8
   by_cases h24 : 24 < x.store.length
   ·have f1 : decide ((24 : Int) < (x.store.length : Int)) = true := decide_eq_true (by omega)
    have f2 : decide (24 < x.store.length) = true := decide_eq_true h24
    have HF := Lib.hid (show saveR l a q = ([], 6) by rw [HDEF.out, if_pos h24])
    clear h24 HDEF
    have r1 : W.cell? ⟨(w.heap.size + 1 + 1), 0, none⟩ = some (.slice none 0 0) := HJ8.out.2.2.1.cell 0 _ rfl
    have p1 : W.frozen? ⟨(w.heap.size + 1 + 1), 0, none⟩ = false := HJ8.out.2.2.1.frozen 0
    go_wp2_with fail
    refine bodyPost_ret (results_st_err Try.results45 _ _ (w.heap.size + 1 + 1) (.slice none 0 0) rfl (by simpa using Cs.set HJ8.out.2.2.1 0 (.slice none 0 0))) rfl ?_
    exact ⟨_, by rw [HF.out]; rfl, by rw [HF.out]; exact RwA.nil _ _ _, HJ8.out.2.2.2.grown (grown_set _ _ _ _) (by omega)⟩
   ·have f1 : decide ((24 : Int) < (x.store.length : Int)) = false := decide_eq_false (by omega)
    have f2 : decide (24 < x.store.length) = false := decide_eq_false h24
    have HF := Lib.hid (show saveR l a q = putR l x by rw [HDEF.out, if_neg h24])
    have HL24 := Lib.hid (show x.store.length ≤ 1000000 by omega)
    clear h24 HDEF
    have q8 : W.cell? ⟨w.heap.size, 0, none⟩ = some (.slice A0 l.length c0) := HJ8.out.1.cell 0 _ rfl
    have HXR := Lib.hid HX8.out.range
    have HPT := Lib.hid (refPut_any (.slice A0 l.length c0) l x u8 (.slice A8 x.store.length c8) W (HS.out.ext HJ8.out.2.2.2) HXO.out (HU8.out.ext HJ8.out.2.2.2) HO8.out.pks (by omega) HSZ.out ⟨by rw [HXC.out]; exact HPZp.out.1, HL24.out⟩)
    obtain ⟨r, hr⟩ : ∃ r, putR l x = r := ⟨_, rfl⟩
    rw [hr] at HF HPT
    clear hr
    go_wp2_with ((with_reducible refine wpList_load_ac ?_ (.tmp 8) ?_ g8 0 x u8 (.slice A8 x.store.length c8) ?_ ?_ ?_); (exact rfl); (exact rfl); (exact rfl); (exact HXR.out))
    refine HPT.out.mono ?_
    rintro e w9 ⟨v9, rfl, hr9, he⟩
    have HJ9 := Lib.hid (HJ8.out.ext he)
    have HR9 := Lib.hid (hr9.low HJ8.out.2.2.2.size)
    obtain ⟨A9, c9, rfl⟩ := hr9.shape
    have r1 : w9.cell? ⟨(w.heap.size + 1 + 1), 0, none⟩ = some (.slice none 0 0) := HJ9.out.2.2.1.cell 0 _ rfl
    have p1 : w9.frozen? ⟨(w.heap.size + 1 + 1), 0, none⟩ = false := HJ9.out.2.2.1.frozen 0
    clear he hr9 HPT
    go_wp2_with fail
    refine bodyPost_ret (results_st_err Try.results45 _ _ (w.heap.size + 1 + 1) (.slice A9 r.1.length c9) rfl (by simpa using Cs.set HJ9.out.2.2.1 0 (.slice A9 r.1.length c9))) rfl ?_
    exact ⟨_, by rw [HF.out]; rfl, by rw [HF.out]; exact HR9.out.keptS (grown_set _ _ _ _) HJ9.out.2.2.1, HJ9.out.2.2.2.grown (grown_set _ _ _ _) (by omega)⟩
end Go.Proofs.Ytiojfpdjnblkhaa
