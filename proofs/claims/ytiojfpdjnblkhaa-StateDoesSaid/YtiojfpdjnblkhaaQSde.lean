/- The document's Burn, Mint, Move, Save. -/
import Derived.Test.YtiojfpdjnblkhaaQSdd
namespace Go.Proofs.Ytiojfpdjnblkhaa
open Go.ChangeShapes Go.WideShapes Go.ChangeAt Go.RowKit Go.Shelf

set_option maxRecDepth 100000 in
theorem run_field_bal (p : Ac) (u v : Value) (w : World) : (Instr.field 37 (.agg (acc p u v)) 1).run Try.prog w = .ok (wv p.bal) w := by
 have hi : ∃ i, Try.prog.info? 31 = some i ∧ i.size = 4 := ⟨_, rfl, rfl⟩
 obtain ⟨i, h1, h2⟩ := hi
 simp [Instr.field, run_underlying Try.underlying37, part, isAgg, run_underlying Try.underlying31, sizeOf, typeInfo, h1, h2, acc, wv, wc, asAgg]
set_option maxRecDepth 100000 in
theorem wpList_field_bal {ops : Array Oper} {rest : List Oper} {o : Oper} {a : Act} {w : World} {Q : Exit → Act → World → Prop} (hgd : Region.wanted o (yielded ops a.tmps) = true) (x : Operand) (ho : o.op = .field 37 x 1)
  (p : Ac) (u v : Value) (hx : a.eval x = .agg (acc p u v)) (h : wpList Try.prog ops Q rest (a.put o.dst (wv p.bal)) w) : wpList Try.prog ops Q (o :: rest) a w := by
 refine wpList_step fun K hK => ?_
 rw [if_pos hgd]
 have hr := run_field_bal p u v w
 generalize wv p.bal = y at h hr
 unfold Oper.wp
 simp [execOp, ho, hx, hr, Result.andThen]
 exact hK _ _ h
def OfP (w : World) (p : Ac) (val : Value) : Prop := ∃ u v, val = .agg (acc p u v) ∧ Bs w u p.code ∧ Pks w v p.store
def MnK (w : World) (g3 g5 g6 gl : Nat) (sv : Value) (n m : Nat) (W : World) : Prop := MnJ w g3 g5 g6 sv n W ∧ Wd W gl 31 m
theorem MnK.ext {w : World} {g3 g5 g6 gl : Nat} {sv : Value} {n m : Nat} {W W' : World} (h : MnK w g3 g5 g6 gl sv n m W) (he : Ext W W') : MnK w g3 g5 g6 gl sv n m W' := ⟨h.1.ext he, Cs.ext h.2 he⟩
def MnL (w : World) (g3 g5 g6 gl gm : Nat) (sv : Value) (n m k : Nat) (W : World) : Prop := MnK w g3 g5 g6 gl sv n m W ∧ Wd W gm 31 k
theorem MnL.ext {w : World} {g3 g5 g6 gl gm : Nat} {sv : Value} {n m k : Nat} {W W' : World} (h : MnL w g3 g5 g6 gl gm sv n m k W) (he : Ext W W') : MnL w g3 g5 g6 gl gm sv n m k W' := ⟨h.1.ext he, Cs.ext h.2 he⟩
def NwW (g6 : Nat) (W : World) (val : Value) : Prop := ∃ g, val = .pointer (some ⟨g, 0, none⟩) ∧ Wd W g 31 0 ∧ g6 < g
theorem NwW.ext {g6 : Nat} {W W' : World} {val : Value} (h : NwW g6 W val) (he : Ext W W') : NwW g6 W' val := by
 obtain ⟨g, h1, h2, h3⟩ := h
 exact ⟨g, h1, Cs.ext h2 he, h3⟩
def KaJ (w : World) (g3 g5 g6 : Nat) (sv : Value) (n m : Nat) (W : World) (val : Value) : Prop := ∃ g, val = .pointer (some ⟨g, 0, none⟩) ∧ MnK w g3 g5 g6 g sv n m W ∧ g6 < g
theorem KaJ.ext {w : World} {g3 g5 g6 : Nat} {sv : Value} {n m : Nat} {W W' : World} {val : Value} (h : KaJ w g3 g5 g6 sv n m W val) (he : Ext W W') : KaJ w g3 g5 g6 sv n m W' val := by
 obtain ⟨g, h1, h2, h3⟩ := h
 exact ⟨g, h1, h2.ext he, h3⟩
theorem KaJ.new {w : World} {g3 g5 g6 g : Nat} {sv : Value} {n m : Nat} {W W' : World} (h : MnJ w g3 g5 g6 sv n W) (hl : g3 < g6 ∧ g5 < g6 ∧ w.heap.size ≤ g6) (h6 : g6 < g) (hg : W.grownBy W' (some g)) (hw : Wd W' g 31 m) : KaJ w g3 g5 g6 sv n m W' (.pointer (some ⟨g, 0, none⟩)) :=
 ⟨g, rfl, ⟨⟨Cs.kept h.1 hg (some_ne (by omega)), Cs.kept h.2.1 hg (some_ne (by omega)), Cs.kept h.2.2.1 hg (some_ne (by omega)), h.2.2.2.grown hg (by omega)⟩, hw⟩, h6⟩
def KbJ (w : World) (g3 g5 g6 gl : Nat) (sv : Value) (n m k : Nat) (W : World) (val : Value) : Prop := ∃ g, val = .pointer (some ⟨g, 0, none⟩) ∧ MnL w g3 g5 g6 gl g sv n m k W ∧ g6 < g
theorem KbJ.ext {w : World} {g3 g5 g6 gl : Nat} {sv : Value} {n m k : Nat} {W W' : World} {val : Value} (h : KbJ w g3 g5 g6 gl sv n m k W val) (he : Ext W W') : KbJ w g3 g5 g6 gl sv n m k W' val := by
 obtain ⟨g, h1, h2, h3⟩ := h
 exact ⟨g, h1, h2.ext he, h3⟩
def NwX (g6 gl : Nat) (W : World) (val : Value) : Prop := ∃ g, val = .pointer (some ⟨g, 0, none⟩) ∧ Wd W g 31 0 ∧ g6 < g ∧ g ≠ gl
theorem NwX.ext {g6 gl : Nat} {W W' : World} {val : Value} (h : NwX g6 gl W val) (he : Ext W W') : NwX g6 gl W' val := by
 obtain ⟨g, h1, h2, h3⟩ := h
 exact ⟨g, h1, Cs.ext h2 he, h3⟩
theorem KbJ.new {w : World} {g3 g5 g6 gl g : Nat} {sv : Value} {n m k : Nat} {W W' : World} (h : MnK w g3 g5 g6 gl sv n m W) (hl : g3 < g6 ∧ g5 < g6 ∧ w.heap.size ≤ g6) (h6 : g6 < g ∧ g ≠ gl) (hg : W.grownBy W' (some g)) (hw : Wd W' g 31 k) : KbJ w g3 g5 g6 gl sv n m k W' (.pointer (some ⟨g, 0, none⟩)) :=
 ⟨g, rfl, ⟨⟨⟨Cs.kept h.1.1 hg (some_ne (by omega)), Cs.kept h.1.2.1 hg (some_ne (by omega)), Cs.kept h.1.2.2.1 hg (some_ne (by omega)), h.1.2.2.2.grown hg (by omega)⟩, Cs.kept h.2 hg (some_ne (by omega))⟩, hw⟩, h6.1⟩
theorem wiL_mem {l : List Ac} {x q : Ac} (h : q ∈ wiL l x) : q ∈ l ∨ q = x := by
 have hF : ∀ (m : List Ac) (t : List Ac × Bool), (∀ q ∈ t.1, q ∈ l ∨ q = x) → (∀ q ∈ m, q ∈ l) → ∀ q ∈ (m.foldl (wiS x) t).1, q ∈ l ∨ q = x := by
  intro m
  induction m with
  | nil => intro t ht _; exact ht
  | cons y m ih =>
   intro t ht hm
   rw [List.foldl_cons]
   refine ih _ (fun q hq => ?_) (fun q hq => hm q (List.mem_cons_of_mem _ hq))
   have hy := hm y List.mem_cons_self
   unfold wiS at hq
   split at hq
   ·exact ht q hq
   ·split at hq
    ·rcases List.mem_append.1 hq with hq | hq
     ·rcases List.mem_append.1 hq with hq | hq
      ·exact ht q hq
      ·exact .inr (List.mem_singleton.1 hq)
     ·rw [List.mem_singleton.1 hq]; exact .inl hy
    ·rcases List.mem_append.1 hq with hq | hq
     ·exact ht q hq
     ·rw [List.mem_singleton.1 hq]; exact .inl hy
 have := hF l ([], x.emptyB) (fun q hq => nomatch hq) (fun q hq => hq)
 unfold wiL wiF at h
 split at h
 ·exact this q h
 ·rcases List.mem_append.1 h with h | h
  ·exact this q h
  ·exact .inr (List.mem_singleton.1 h)
theorem accF_sz6 {l : List Ac} (hsz : ∀ q ∈ l, q.code.length ≤ 1000000 ∧ q.store.length ≤ 1000000) (a : Nat) : (accF l a).1.code.length ≤ 1000000 ∧ (accF l a).1.store.length ≤ 1000000 := by
 unfold accF
 cases hf : l.find? (fun p => p.addr == a) with
 | some p => exact hsz p (List.mem_of_find?_eq_some hf)
 | none => exact ⟨by simp, by simp⟩
theorem setB_ok {p : Ac} (h : p.ok) {n : Nat} (hn : n < M256) : (setB p n).ok := ⟨h.1, hn, h.2.2⟩
def burnR (l : List Ac) (a n : Nat) : List Ac × Int := if a = 0 then ([], 2) else if und (accF l a).1.bal n then ([], 162) else (wiL l (setB (accF l a).1 (subN (accF l a).1.bal n)), 0)
def mintR (l : List Ac) (a n : Nat) : List Ac × Int := if ovr (sumW (bals l)).1 n then ([], 2) else if a = 0 then ([], 2) else if n = 0 then (wiL l (accF l a).1, 0) else if roomR l a = false then ([], 6) else (wiL l (setB (accF l a).1 (addN (accF l a).1.bal n)), 0)
def moveR (l : List Ac) (f a n : Nat) : List Ac × Int := if f = 0 then ([], 2) else if a = 0 then ([], 2) else if und (accF l f).1.bal n then ([], 162) else if n = 0 then (wiL l (accF l f).1, 0) else if f = a then (wiL l (accF l f).1, 0) else if roomR l a = false then ([], 6) else
 (wiL (wiL l (setB (accF l f).1 (subN (accF l f).1.bal n))) (setB (accF l a).1 (addN (accF l a).1.bal n)), 0)
def saveR (l : List Ac) (a : Nat) (q : Nat × Nat) : List Ac × Int := if a = 0 then ([], 2) else if 24 < (svL (accF l a).1.store q).length then ([], 6) else putR l { (accF l a).1 with store := svL (accF l a).1.store q }
set_option maxRecDepth 100000 in
set_option maxHeartbeats 8000000 in
theorem refBurn_any (sv : Value) (l : List Ac) (a n : Nat) (w : World) (hs : Acs w sv l) (hl : l.length ≤ 1000) (hsz : ∀ q ∈ l, q.code.length ≤ 1000000 ∧ q.store.length ≤ 1000000) (ha : a < 18446744073709551616) (hn : n < M256) :
  Calls Try.prog 48 #[.agg #[sv], .int .u64 (a : Nat), wv n] w (RetS w (burnR l a n)) := by
 have HS := Lib.hid hs
 have HSZ := Lib.hid hsz
 have HLE := Lib.hid (show l.length ≤ 10000 by omega)
 have HN := Lib.hid hn
 have HA0 := Lib.hid ha
 have HDEF : Hid (burnR l a n = if a = 0 then ([], 2) else if und (accF l a).1.bal n then ([], 162) else (wiL l (setB (accF l a).1 (subN (accF l a).1.bal n)), 0)) := Lib.hid rfl
 obtain ⟨A0, c0, rfl, h1, h2⟩ := hs.len
 obtain ⟨w0, hw0⟩ : ∃ w0, (((w.alloc (.cells #[.slice A0 l.length c0] 24)).alloc (.cells (wc n) 31)).alloc (.cells #[.slice none 0 0] 24)) = w0 := ⟨_, rfl⟩
 have HJ0 : Hid (MnJ w w.heap.size (w.heap.size + 1) (w.heap.size + 1 + 1) (.slice A0 l.length c0) n w0) := by
  rw [← hw0]
  exact Lib.hid ⟨Cs.alloc (Cs.alloc (Cs.new _ _ _ _ rfl) _) _, Cs.alloc (Cs.new _ _ _ _ (by simp)) _, Cs.new _ _ _ _ (by simp), (((Ext.refl w).alloc _).alloc _).alloc _⟩
 have HW0 := Lib.hid hw0
 clear hs hsz hw0
 unfold wv
 go_enter Try.func48, Try.ntmps48
 go_upto_region 1 with fail
 rw [HW0.out]
 clear HW0
 obtain ⟨p, hp⟩ : ∃ p, (accF l a).1 = p := ⟨_, rfl⟩
 have HOPp := Lib.hid (accF_ok HS.out a ha)
 have HPZp := Lib.hid (accF_sz6 HSZ.out a)
 have HOFp := Lib.hid (fun W (h : Ext w W) => refOf_any (.slice A0 l.length c0) l a w W h HS.out ha)
 rw [hp] at HOPp HPZp HOFp HDEF
 clear hp
 obtain ⟨m, hm⟩ : ∃ m, subN p.bal n = m := ⟨_, rfl⟩
 obtain ⟨ub, hub⟩ : ∃ b, und p.bal n = b := ⟨_, rfl⟩
 have HSUB := Lib.hid (fun W => refSub_any p.bal n W HOPp.out.2.1 HN.out)
 have HM := Lib.hid (show m < M256 by rw [← hm]; exact Nat.mod_lt _ (by decide))
 rw [hm, hub] at HSUB HDEF
 clear hm hub
 by_cases h0 : a = 0
 ·have f0 : (((a : Nat) : Int) == 0) = true := by rw [beq_iff_eq]; omega
  have HF := Lib.hid (show burnR l a n = ([], 2) by rw [HDEF.out, if_pos h0])
  clear h0 HDEF
  have r1 : w0.cell? ⟨(w.heap.size + 1 + 1), 0, none⟩ = some (.slice none 0 0) := HJ0.out.2.2.1.cell 0 _ rfl
  have p1 : w0.frozen? ⟨(w.heap.size + 1 + 1), 0, none⟩ = false := HJ0.out.2.2.1.frozen 0
  go_wp2_with fail
  refine bodyPost_ret (results_st_err Try.results48 _ _ (w.heap.size + 1 + 1) (.slice none 0 0) rfl (by simpa using Cs.set HJ0.out.2.2.1 0 (.slice none 0 0))) rfl ?_
  exact ⟨_, by rw [HF.out]; rfl, by rw [HF.out]; exact RwA.nil _ _ _, HJ0.out.2.2.2.grown (grown_set _ _ _ _) (by omega)⟩
 ·have f0 : (((a : Nat) : Int) == 0) = false := by rw [beq_eq_false_iff_ne]; omega
  have HDEF := Lib.hid (show burnR l a n = if ub then ([], 162) else (wiL l (setB p m), 0) by rw [HDEF.out, if_neg h0])
  clear h0
  have HJ := HJ0
  go_upto_region 3 with fail
  refine wp_named fun a0 ha0 => ?_
  obtain ⟨fr, hfr⟩ : ∃ fr : (Nat → Value) → Act, ∀ V, fr V = (((((((((((a0.put (some 14) (V 0)).put (some 15) (V 1)).put (some 16) (V 2)).put (some 17) (V 3)).put (some 18) (V 4)).put (some 19) (V 5)).put (some 13) (V 6)).put (some 20) (V 7)).put (some 21) (V 8)).put (some 8) (V 9)).put (some 9) (V 11)) := ⟨_, fun _ => rfl⟩
  rw [ha0] at hfr
  simp only [Act.put, List.setIfInBounds_toArray, List.set_cons_zero, List.set_cons_succ] at hfr
  have HFR := Lib.hid hfr
  clear hfr
  refine wp_region_inv (by kernel_rfl) (by kernel_rfl) (fun L A W => ∃ V : Nat → Value, A = fr V ∧ Vals (fun j => ([some (.agg #[.slice A0 l.length c0]), some (.int .u64 (a : Nat)), none, some (wv p.bal), some (wv n), some (.tuple #[wv (m), .bool (ub)]), some (.tuple #[wv (m), .bool (ub)]), some (wv (m)), some (.bool (ub)), none, none, some (.bool (ub))] : List (Option Value)).getD j none) L V ∧ (L 10 = false → MnJ w (w.heap.size) (w.heap.size + 1) (w.heap.size + 1 + 1) (.slice A0 l.length c0) n W) ∧ (L 10 = true → KaJ w (w.heap.size) (w.heap.size + 1) (w.heap.size + 1 + 1) (.slice A0 l.length c0) n m W (V 9)) ∧ (L 10 = false → L 2 = true → OfP w p (V 2)) ∧ (L 10 = false → L 9 = true → NwW (w.heap.size + 1 + 1) W (V 9))) ?_ ⟨?_, ?_, ?_, ?_, ?_, ?_, ?_, ?_, ?_, ?_, ?_, ?_, trivial⟩ ?_
  ·refine ⟨fun j => a0.tmps.getD (([14, 15, 16, 17, 18, 19, 13, 20, 21, 8, 0, 9] : List Nat).getD j 0) undef, ?_, Vals.no _ _ _ (far_none _ _ rfl), fun _ => HJ.out.ext (Ext.refl _).drew, fun h0 => absurd h0 (by decide), fun h0 h1 => absurd h1 (by decide), fun h0 h1 => absurd h1 (by decide)⟩
   rw [HFR.out, ha0]
   rfl
  all_goals clear ha0
  ·rintro L A W K hL hC hW ⟨V, rfl, HV, s0, s1, f2, f9⟩ hK
   have hB := s0 (hC.no (hC.no (hC.no (hC.no (hC.no (hC.no hL 2 _ rfl rfl) 3 _ rfl rfl) 5 _ rfl rfl) 6 _ rfl rfl) 7 _ rfl rfl) 10 _ rfl rfl)
   have H := Lib.hid (show ∀ W', Ext W W' → K (fr (upd V 0 (.agg #[.slice A0 l.length c0]))) W' from fun W' he => hK _ _ ⟨_, rfl, HV.us 0 _ rfl, fun h0 => MnJ.ext (s0 (mnf h0 rfl)) he, fun h0 => KaJ.ext (s1 (more_ne h0 rfl)) he, fun h0 h1 => keepP (f2 (mnf h0 rfl) (more_ne h1 rfl)) he, fun h0 h1 => NwW.ext (f9 (mnf h0 rfl) (more_ne h1 rfl)) he⟩)
   clear hK hC hW hL HV s0 s1 f2 f9
   rw [HFR.out]
   have hcl : W.cell? ⟨w.heap.size, 0, none⟩ = some (.slice A0 l.length c0) := hB.1.cell 0 _ rfl
   clear hB
   go_wp2_with fail
   show K _ _; have := H.out _ (Ext.refl _); rw [HFR.out] at this
   exact this
  ·rintro L A W K hL hC hW ⟨V, rfl, HV, s0, s1, f2, f9⟩ hK
   have H := Lib.hid (show ∀ W', Ext W W' → K (fr (upd V 1 (.int .u64 (a : Nat)))) W' from fun W' he => hK _ _ ⟨_, rfl, HV.us 1 _ rfl, fun h0 => MnJ.ext (s0 (mnf h0 rfl)) he, fun h0 => KaJ.ext (s1 (more_ne h0 rfl)) he, fun h0 h1 => keepP (f2 (mnf h0 rfl) (more_ne h1 rfl)) he, fun h0 h1 => NwW.ext (f9 (mnf h0 rfl) (more_ne h1 rfl)) he⟩)
   clear hK hC hW hL HV s0 s1 f2 f9
   rw [HFR.out]
   go_wp2_with fail
   show K _ _; have := H.out _ (Ext.refl _); rw [HFR.out] at this
   exact this
  ·rintro L A W K hL hC hW ⟨V, rfl, HV, s0, s1, f2, f9⟩ hK
   have e0 := HV 0 _ rfl (hW 0 rfl)
   have e1 := HV 1 _ rfl (hW 1 rfl)
   have hB := s0 (hC.no (hC.no (hC.no (hC.no (hC.no hL 3 _ rfl rfl) 5 _ rfl rfl) 6 _ rfl rfl) 7 _ rfl rfl) 10 _ rfl rfl)
   have H := Lib.hid (show ∀ v W', Ext W W' → (OfP w p v) → K (fr (upd V 2 v)) W' from fun v W' he hp => hK _ _ ⟨_, rfl, HV.un 2 _ rfl, fun h0 => MnJ.ext (s0 (mnf h0 rfl)) he, fun h0 => KaJ.ext (s1 (more_ne h0 rfl)) he, fun h0 h1 => hp, fun h0 h1 => NwW.ext (f9 (mnf h0 rfl) (more_ne h1 rfl)) he⟩)
   have HU := Lib.hid (show ∀ v, (upd V 2 v) 0 = .agg #[.slice A0 l.length c0] ∧ (upd V 2 v) 1 = .int .u64 (a : Nat) from fun v => ⟨e0, e1⟩)
   clear hK hC hW hL HV s0 s1 f2 f9
   rw [HFR.out, e0, e1]
   clear e0 e1
   have HB := Lib.hid hB
   clear hB
   go_wp2_with fail
   refine (HOFp.out _ HB.out.2.2.2).mono ?_
   rintro e wx ⟨u', v', rfl, hu', hv', he⟩
   have := H.out _ _ he (⟨u', v', rfl, hu', hv'⟩)
   clear H
   go_wp2_with fail
   show K _ _
   rw [HFR.out] at this
   obtain ⟨u0, u1⟩ := HU.out _
   rw [u0, u1] at this
   exact this
  ·rintro L A W K hL hC hW ⟨V, rfl, HV, s0, s1, f2, f9⟩ hK
   have hB := s0 (hC.no (hC.no (hC.no (hC.no hL 5 _ rfl rfl) 6 _ rfl rfl) 7 _ rfl rfl) 10 _ rfl rfl)
   have q2 := f2 (hC.no (hC.no (hC.no (hC.no hL 5 _ rfl rfl) 6 _ rfl rfl) 7 _ rfl rfl) 10 _ rfl rfl) (hW 2 rfl)
   obtain ⟨u2, v2, e2, y2, z2⟩ := q2
   have H := Lib.hid (show ∀ W', Ext W W' → K (fr (upd V 3 (wv p.bal))) W' from fun W' he => hK _ _ ⟨_, rfl, HV.us 3 _ rfl, fun h0 => MnJ.ext (s0 (mnf h0 rfl)) he, fun h0 => KaJ.ext (s1 (more_ne h0 rfl)) he, fun h0 h1 => keepP (f2 (mnf h0 rfl) (more_ne h1 rfl)) he, fun h0 h1 => NwW.ext (f9 (mnf h0 rfl) (more_ne h1 rfl)) he⟩)
   have HU := Lib.hid (show (upd V 3 (wv p.bal)) 2 = .agg (acc p u2 v2) from e2)
   clear hK hC hW hL HV s0 s1 f2 f9
   rw [HFR.out, e2]
   clear e2
   clear hB
   refine wpList_field_bal rfl (.tmp 16) rfl p u2 v2 rfl ?_
   show K _ _; have := H.out _ (Ext.refl _); rw [HFR.out] at this
   obtain u2 := HU.out
   rw [u2] at this
   exact this
  ·rintro L A W K hL hC hW ⟨V, rfl, HV, s0, s1, f2, f9⟩ hK
   have hB := s0 (hC.no (hC.no (hC.no (hC.no hL 5 _ rfl rfl) 6 _ rfl rfl) 7 _ rfl rfl) 10 _ rfl rfl)
   have H := Lib.hid (show ∀ W', Ext W W' → K (fr (upd V 4 (wv n))) W' from fun W' he => hK _ _ ⟨_, rfl, HV.us 4 _ rfl, fun h0 => MnJ.ext (s0 (mnf h0 rfl)) he, fun h0 => KaJ.ext (s1 (more_ne h0 rfl)) he, fun h0 h1 => keepP (f2 (mnf h0 rfl) (more_ne h1 rfl)) he, fun h0 h1 => NwW.ext (f9 (mnf h0 rfl) (more_ne h1 rfl)) he⟩)
   clear hK hC hW hL HV s0 s1 f2 f9
   rw [HFR.out]
   have HWD := Lib.hid hB.2.1
   clear hB
   refine wpList_load_word rfl 31 28 (.tmp 5) rfl Try.underlying31 winfo (w.heap.size + 1) n rfl HWD.out ?_
   show K _ _; have := H.out _ (Ext.refl _); rw [HFR.out] at this
   exact this
  ·rintro L A W K hL hC hW ⟨V, rfl, HV, s0, s1, f2, f9⟩ hK
   have e3 := HV 3 _ rfl (hW 3 rfl)
   have e4 := HV 4 _ rfl (hW 4 rfl)
   have hB := s0 (hC.no (hC.no (hC.no hL 6 _ rfl rfl) 7 _ rfl rfl) 10 _ rfl rfl)
   have H := Lib.hid (show ∀ W', Ext W W' → K (fr (upd V 5 (.tuple #[wv (m), .bool (ub)]))) W' from fun W' he => hK _ _ ⟨_, rfl, HV.us 5 _ rfl, fun h0 => MnJ.ext (s0 (mnf h0 rfl)) he, fun h0 => KaJ.ext (s1 (more_ne h0 rfl)) he, fun h0 h1 => keepP (f2 (mnf h0 rfl) (more_ne h1 rfl)) he, fun h0 h1 => NwW.ext (f9 (mnf h0 rfl) (more_ne h1 rfl)) he⟩)
   have HU := Lib.hid (show (upd V 5 (.tuple #[wv (m), .bool (ub)])) 3 = wv p.bal ∧ (upd V 5 (.tuple #[wv (m), .bool (ub)])) 4 = wv n from ⟨e3, e4⟩)
   clear hK hC hW hL HV s0 s1 f2 f9
   rw [HFR.out, e3, e4]
   clear e3 e4
   clear hB
   go_wp2_with fail
   refine (HSUB.out _).mono ?_
   rintro e wx ⟨rfl, _, he⟩
   have := H.out _ he
   clear H
   go_wp2_with fail
   show K _ _
   rw [HFR.out] at this
   obtain ⟨u3, u4⟩ := HU.out
   rw [u3, u4] at this
   exact this
  ·rintro L A W K hL hC hW ⟨V, rfl, HV, s0, s1, f2, f9⟩ hK
   have e5 := HV 5 _ rfl (hW 5 rfl)
   have H := Lib.hid (show ∀ W', Ext W W' → K (fr (upd V 6 (.tuple #[wv (m), .bool (ub)]))) W' from fun W' he => hK _ _ ⟨_, rfl, HV.us 6 _ rfl, fun h0 => MnJ.ext (s0 (mnf h0 rfl)) he, fun h0 => KaJ.ext (s1 (more_ne h0 rfl)) he, fun h0 h1 => keepP (f2 (mnf h0 rfl) (more_ne h1 rfl)) he, fun h0 h1 => NwW.ext (f9 (mnf h0 rfl) (more_ne h1 rfl)) he⟩)
   have HU := Lib.hid (show (upd V 6 (.tuple #[wv (m), .bool (ub)])) 5 = .tuple #[wv (m), .bool (ub)] from e5)
   clear hK hC hW hL HV s0 s1 f2 f9
   rw [HFR.out, e5]
   clear e5
   go_wp2_with fail
   show K _ _; have := H.out _ (Ext.refl _); rw [HFR.out] at this
   obtain u5 := HU.out
   rw [u5] at this
   exact this
  ·rintro L A W K hL hC hW ⟨V, rfl, HV, s0, s1, f2, f9⟩ hK
   have e6 := HV 6 _ rfl (hW 6 rfl)
   have H := Lib.hid (show ∀ W', Ext W W' → K (fr (upd V 7 (wv (m)))) W' from fun W' he => hK _ _ ⟨_, rfl, HV.us 7 _ rfl, fun h0 => MnJ.ext (s0 (mnf h0 rfl)) he, fun h0 => KaJ.ext (s1 (more_ne h0 rfl)) he, fun h0 h1 => keepP (f2 (mnf h0 rfl) (more_ne h1 rfl)) he, fun h0 h1 => NwW.ext (f9 (mnf h0 rfl) (more_ne h1 rfl)) he⟩)
   have HU := Lib.hid (show (upd V 7 (wv (m))) 6 = .tuple #[wv (m), .bool (ub)] from e6)
   clear hK hC hW hL HV s0 s1 f2 f9
   rw [HFR.out, e6]
   clear e6
   go_wp2_with fail
   show K _ _; have := H.out _ (Ext.refl _); rw [HFR.out] at this
   obtain u6 := HU.out
   rw [u6] at this
   exact this
  ·rintro L A W K hL hC hW ⟨V, rfl, HV, s0, s1, f2, f9⟩ hK
   have e6 := HV 6 _ rfl (hW 6 rfl)
   have H := Lib.hid (show ∀ W', Ext W W' → K (fr (upd V 8 (.bool (ub)))) W' from fun W' he => hK _ _ ⟨_, rfl, HV.us 8 _ rfl, fun h0 => MnJ.ext (s0 (mnf h0 rfl)) he, fun h0 => KaJ.ext (s1 (more_ne h0 rfl)) he, fun h0 h1 => keepP (f2 (mnf h0 rfl) (more_ne h1 rfl)) he, fun h0 h1 => NwW.ext (f9 (mnf h0 rfl) (more_ne h1 rfl)) he⟩)
   have HU := Lib.hid (show (upd V 8 (.bool (ub))) 6 = .tuple #[wv (m), .bool (ub)] from e6)
   clear hK hC hW hL HV s0 s1 f2 f9
   rw [HFR.out, e6]
   clear e6
   go_wp2_with fail
   show K _ _; have := H.out _ (Ext.refl _); rw [HFR.out] at this
   obtain u6 := HU.out
   rw [u6] at this
   exact this
  ·rintro L A W K hL hC hW ⟨V, rfl, HV, s0, s1, f2, f9⟩ hK
   have hB := s0 (hC.no hL 10 _ rfl rfl)
   have H := Lib.hid (show ∀ v W', Ext W W' → (NwW (w.heap.size + 1 + 1) W' v) → K (fr (upd V 9 v)) W' from fun v W' he hp => hK _ _ ⟨_, rfl, HV.un 9 _ rfl, fun h0 => MnJ.ext (s0 (mnf h0 rfl)) he, fun h0 => mtf (hC.no hL 10 _ rfl rfl) (more_ne h0 rfl), fun h0 h1 => keepP (f2 (mnf h0 rfl) (more_ne h1 rfl)) he, fun h0 h1 => hp⟩)
   clear hK hC hW hL HV s0 s1 f2 f9
   rw [HFR.out]
   have HB := Lib.hid hB
   clear hB
   go_wp2_with fail
   show K _ _; have := H.out (.pointer (some ⟨W.heap.size, 0, none⟩)) _ ((Ext.refl W).alloc (.cells (wc 0) 31)) (⟨_, rfl, Cs.new _ _ _ _ rfl, Cs.lt HB.out.2.2.1⟩); rw [HFR.out] at this
   exact this
  ·rintro L A W K hL hC hW ⟨V, rfl, HV, s0, s1, f2, f9⟩ hK
   have e7 := HV 7 _ rfl (hW 7 rfl)
   have hB := s0 hL
   have q9 := f9 hL (hW 9 rfl)
   obtain ⟨g9, e9, k9, z9⟩ := q9
   have H := Lib.hid (show ∀ W', (KaJ w (w.heap.size) (w.heap.size + 1) (w.heap.size + 1 + 1) (.slice A0 l.length c0) n m W' (V 9)) → K (fr (V)) W' from fun W' hA => hK _ _ ⟨V, rfl, HV.st 10 rfl, fun h0 => msf h0, fun h0 => hA, fun h0 h1 => msf h0, fun h0 h1 => msf h0⟩)
   have HU := Lib.hid (show (V) 9 = .pointer (some ⟨g9, 0, none⟩) ∧ (V) 7 = wv (m) from ⟨e9, e7⟩)
   clear hK hC hW hL HV s0 s1 f2 f9
   rw [HFR.out, e9, e7]
   clear e9 e7
   have HB := Lib.hid hB
   have K1 := Lib.hid k9
   have Z1 := Lib.hid z9
   clear hB k9 z9
   refine wpList_store_word rfl rfl 31 (.tmp 8) (.tmp 20) rfl winfo g9 (wc 0) (m) rfl rfl K1.out rfl ?_
   intro w6 k6 g6'
   have HA := Lib.hid (show KaJ w (w.heap.size) (w.heap.size + 1) (w.heap.size + 1 + 1) (.slice A0 l.length c0) n m w6 (V 9) from by rw [HU.out.1]; exact KaJ.new HB.out ⟨by omega, by omega, by omega⟩ Z1.out g6' k6)
   clear k6 g6'
   show K _ _; have := H.out _ HA.out; rw [HFR.out] at this
   obtain ⟨u9, u7⟩ := HU.out
   rw [u9, u7] at this
   exact this
  ·rintro L A W K hL hC hW ⟨V, rfl, HV, s0, s1, f2, f9⟩ hK
   have e8 := HV 8 _ rfl (hW 8 rfl)
   have H := Lib.hid (show ∀ W', Ext W W' → K (fr (upd V 11 (.bool (ub)))) W' from fun W' he => hK _ _ ⟨_, rfl, HV.us 11 _ rfl, fun h0 => MnJ.ext (s0 (mnf h0 rfl)) he, fun h0 => KaJ.ext (s1 (more_ne h0 rfl)) he, fun h0 h1 => keepP (f2 (mnf h0 rfl) (more_ne h1 rfl)) he, fun h0 h1 => NwW.ext (f9 (mnf h0 rfl) (more_ne h1 rfl)) he⟩)
   have HU := Lib.hid (show (upd V 11 (.bool (ub))) 8 = .bool (ub) from e8)
   clear hK hC hW hL HV s0 s1 f2 f9
   rw [HFR.out, e8]
   clear e8
   go_wp2_with fail
   show K _ _; have := H.out _ (Ext.refl _); rw [HFR.out] at this
   obtain u8 := HU.out
   rw [u8] at this
   exact this
  ·rintro L A W hL ⟨V, rfl, HV, s0, s1, f2, f9⟩
   have e0 := HV 0 _ rfl (hL 0 (by simp))
   have e1 := HV 1 _ rfl (hL 1 (by simp))
   have e3 := HV 3 _ rfl (hL 3 (by simp))
   have e4 := HV 4 _ rfl (hL 4 (by simp))
   have e5 := HV 5 _ rfl (hL 5 (by simp))
   have e6 := HV 6 _ rfl (hL 6 (by simp))
   have e7 := HV 7 _ rfl (hL 7 (by simp))
   have e8 := HV 8 _ rfl (hL 8 (by simp))
   have e11 := HV 11 _ rfl (hL 11 (by simp))
   have hA := s1 (hL 10 (by simp))
   rw [HFR.out, e0, e1, e3, e4, e5, e6, e7, e8, e11]
   clear hL HV HFR e0 e1 e3 e4 e5 e6 e7 e8 e11 s0 s1 f2 f9
   obtain ⟨gl, hv4, hJ4, hg4⟩ := hA
   have HJ4 := Lib.hid hJ4
   have HG4 := Lib.hid hg4
   rw [hv4]
   clear hv4 hJ4 hg4
   cases ub with
   | true =>
    have HF := Lib.hid (show burnR l a n = ([], 162) by rw [HDEF.out]; rfl)
    clear HDEF
    have r1 : W.cell? ⟨(w.heap.size + 1 + 1), 0, none⟩ = some (.slice none 0 0) := HJ4.out.1.2.2.1.cell 0 _ rfl
    have p1 : W.frozen? ⟨(w.heap.size + 1 + 1), 0, none⟩ = false := HJ4.out.1.2.2.1.frozen 0
    go_wp2_with fail
    refine bodyPost_ret (results_st_err Try.results48 _ _ (w.heap.size + 1 + 1) (.slice none 0 0) rfl (by simpa using Cs.set HJ4.out.1.2.2.1 0 (.slice none 0 0))) rfl ?_
    exact ⟨_, by rw [HF.out]; rfl, by rw [HF.out]; exact RwA.nil _ _ _, HJ4.out.1.2.2.2.grown (grown_set _ _ _ _) (by omega)⟩
   | false =>
    have HF := Lib.hid (show burnR l a n = (wiL l (setB p m), 0) by rw [HDEF.out]; rfl)
    clear HDEF
    have HXOx := Lib.hid (And.intro (setB_ok HOPp.out HM.out) HPZp.out)
    have HPDx := Lib.hid (fun u v W hu hv => refPaid_any p u v m W hu hv)
    obtain ⟨x, hx⟩ : ∃ x, setB p m = x := ⟨_, rfl⟩
    have HXCx := Lib.hid (show x.code = p.code ∧ x.store = p.store from by rw [← hx]; exact ⟨rfl, rfl⟩)
    have HXOx := Lib.hid (show x.ok ∧ x.code.length ≤ 1000000 ∧ x.store.length ≤ 1000000 from by rw [HXCx.out.1, HXCx.out.2]; rw [hx] at HXOx; exact HXOx.out)
    rw [hx] at HPDx HF
    clear hx
    have HWI := Lib.hid (fun u v W (h : Ext w W) (h1 : Bs w u x.code) (h2 : Pks w v x.store) => refWith_any (.slice A0 l.length c0) l x u v W (HS.out.ext h) HXOx.out.1 (h1.ext h) (h2.ext h) HLE.out HSZ.out HXOx.out.2)
    obtain ⟨r, hr⟩ : ∃ r : List Ac × Int, (wiL l x, (0 : Int)) = r := ⟨_, rfl⟩
    have HR0 := Lib.hid (show r.2 = 0 by rw [← hr])
    rw [hr] at HF
    rw [show wiL l x = r.1 by rw [← hr]] at HWI
    clear hr
    have WIV := Lib.hid (fun (W : World) (v' : Value) (h : RwA w.heap.size W v' (.slice none 0 0) r.1) => show StV w.heap.size r W (.agg #[v']) from by obtain ⟨A, c, rfl⟩ := h.shape; exact ⟨A, c, rfl, h⟩)
    have HJ := HJ4
    go_upto_region 6 with fail
    refine wp_named fun a0 ha0 => ?_
    obtain ⟨fr, hfr⟩ : ∃ fr : (Nat → Value) → Act, ∀ V, fr V = ((((((((a0.put (some 24) (V 0)).put (some 25) (V 1)).put (some 26) (V 2)).put (some 27) (V 3)).put (some 28) (V 4)).put (some 29) (V 5)).put (some 30) (V 6)).put (some 7) (V 8)) := ⟨_, fun _ => rfl⟩
    rw [ha0] at hfr
    simp only [Act.put, List.setIfInBounds_toArray, List.set_cons_zero, List.set_cons_succ] at hfr
    have HFR := Lib.hid hfr
    clear hfr
    refine wp_region_inv (by kernel_rfl) (by kernel_rfl) (fun L A W => ∃ V : Nat → Value, A = fr V ∧ Vals (fun j => ([some (.agg #[.slice A0 l.length c0]), some (.agg #[.slice A0 l.length c0]), some (.int .u64 (a : Nat)), none, some (wv m), none, none, none, some (.int .i64 0)] : List (Option Value)).getD j none) L V ∧ (L 7 = false → MnK w (w.heap.size) (w.heap.size + 1) (w.heap.size + 1 + 1) gl (.slice A0 l.length c0) n m W) ∧ (L 7 = true → MnE w (w.heap.size + 1 + 1) r W) ∧ (L 7 = false → L 3 = true → OfP w p (V 3)) ∧ (L 7 = false → L 5 = true → OfP w (x) (V 5)) ∧ (L 7 = false → L 6 = true → StV w.heap.size r W (V 6))) ?_ ⟨?_, ?_, ?_, ?_, ?_, ?_, ?_, ?_, ?_, trivial⟩ ?_
    ·refine ⟨fun j => a0.tmps.getD (([24, 25, 26, 27, 28, 29, 30, 0, 7] : List Nat).getD j 0) undef, ?_, Vals.no _ _ _ (far_none _ _ rfl), fun _ => HJ.out.ext (Ext.refl _).drew, fun h0 => absurd h0 (by decide), fun h0 h1 => absurd h1 (by decide), fun h0 h1 => absurd h1 (by decide), fun h0 h1 => absurd h1 (by decide)⟩
     rw [HFR.out, ha0]
     rfl
    all_goals clear ha0
    ·rintro L A W K hL hC hW ⟨V, rfl, HV, s0, s1, f3, f5, f6⟩ hK
     have hB := s0 (hC.no (hC.no hL 6 _ rfl rfl) 7 _ rfl rfl)
     have H := Lib.hid (show ∀ W', Ext W W' → K (fr (upd V 0 (.agg #[.slice A0 l.length c0]))) W' from fun W' he => hK _ _ ⟨_, rfl, HV.us 0 _ rfl, fun h0 => MnK.ext (s0 (mnf h0 rfl)) he, fun h0 => MnE.ext (s1 (more_ne h0 rfl)) he, fun h0 h1 => keepP (f3 (mnf h0 rfl) (more_ne h1 rfl)) he, fun h0 h1 => keepP (f5 (mnf h0 rfl) (more_ne h1 rfl)) he, fun h0 h1 => StV.ext (f6 (mnf h0 rfl) (more_ne h1 rfl)) he⟩)
     clear hK hC hW hL HV s0 s1 f3 f5 f6
     rw [HFR.out]
     have hcl : W.cell? ⟨w.heap.size, 0, none⟩ = some (.slice A0 l.length c0) := hB.1.1.cell 0 _ rfl
     clear hB
     go_wp2_with fail
     show K _ _; have := H.out _ (Ext.refl _); rw [HFR.out] at this
     exact this
    ·rintro L A W K hL hC hW ⟨V, rfl, HV, s0, s1, f3, f5, f6⟩ hK
     have hB := s0 (hC.no (hC.no (hC.no (hC.no hL 3 _ rfl rfl) 5 _ rfl rfl) 6 _ rfl rfl) 7 _ rfl rfl)
     have H := Lib.hid (show ∀ W', Ext W W' → K (fr (upd V 1 (.agg #[.slice A0 l.length c0]))) W' from fun W' he => hK _ _ ⟨_, rfl, HV.us 1 _ rfl, fun h0 => MnK.ext (s0 (mnf h0 rfl)) he, fun h0 => MnE.ext (s1 (more_ne h0 rfl)) he, fun h0 h1 => keepP (f3 (mnf h0 rfl) (more_ne h1 rfl)) he, fun h0 h1 => keepP (f5 (mnf h0 rfl) (more_ne h1 rfl)) he, fun h0 h1 => StV.ext (f6 (mnf h0 rfl) (more_ne h1 rfl)) he⟩)
     clear hK hC hW hL HV s0 s1 f3 f5 f6
     rw [HFR.out]
     have hcl : W.cell? ⟨w.heap.size, 0, none⟩ = some (.slice A0 l.length c0) := hB.1.1.cell 0 _ rfl
     clear hB
     go_wp2_with fail
     show K _ _; have := H.out _ (Ext.refl _); rw [HFR.out] at this
     exact this
    ·rintro L A W K hL hC hW ⟨V, rfl, HV, s0, s1, f3, f5, f6⟩ hK
     have H := Lib.hid (show ∀ W', Ext W W' → K (fr (upd V 2 (.int .u64 (a : Nat)))) W' from fun W' he => hK _ _ ⟨_, rfl, HV.us 2 _ rfl, fun h0 => MnK.ext (s0 (mnf h0 rfl)) he, fun h0 => MnE.ext (s1 (more_ne h0 rfl)) he, fun h0 h1 => keepP (f3 (mnf h0 rfl) (more_ne h1 rfl)) he, fun h0 h1 => keepP (f5 (mnf h0 rfl) (more_ne h1 rfl)) he, fun h0 h1 => StV.ext (f6 (mnf h0 rfl) (more_ne h1 rfl)) he⟩)
     clear hK hC hW hL HV s0 s1 f3 f5 f6
     rw [HFR.out]
     go_wp2_with fail
     show K _ _; have := H.out _ (Ext.refl _); rw [HFR.out] at this
     exact this
    ·rintro L A W K hL hC hW ⟨V, rfl, HV, s0, s1, f3, f5, f6⟩ hK
     have e1 := HV 1 _ rfl (hW 1 rfl)
     have e2 := HV 2 _ rfl (hW 2 rfl)
     have hB := s0 (hC.no (hC.no (hC.no hL 5 _ rfl rfl) 6 _ rfl rfl) 7 _ rfl rfl)
     have H := Lib.hid (show ∀ v W', Ext W W' → (OfP w p v) → K (fr (upd V 3 v)) W' from fun v W' he hp => hK _ _ ⟨_, rfl, HV.un 3 _ rfl, fun h0 => MnK.ext (s0 (mnf h0 rfl)) he, fun h0 => MnE.ext (s1 (more_ne h0 rfl)) he, fun h0 h1 => hp, fun h0 h1 => keepP (f5 (mnf h0 rfl) (more_ne h1 rfl)) he, fun h0 h1 => StV.ext (f6 (mnf h0 rfl) (more_ne h1 rfl)) he⟩)
     have HU := Lib.hid (show ∀ v, (upd V 3 v) 1 = .agg #[.slice A0 l.length c0] ∧ (upd V 3 v) 2 = .int .u64 (a : Nat) from fun v => ⟨e1, e2⟩)
     clear hK hC hW hL HV s0 s1 f3 f5 f6
     rw [HFR.out, e1, e2]
     clear e1 e2
     have HB := Lib.hid hB
     clear hB
     go_wp2_with fail
     refine (HOFp.out _ HB.out.1.2.2.2).mono ?_
     rintro e wx ⟨u', v', rfl, hu', hv', he⟩
     have := H.out _ _ he (⟨u', v', rfl, hu', hv'⟩)
     clear H
     go_wp2_with fail
     show K _ _
     rw [HFR.out] at this
     obtain ⟨u1, u2⟩ := HU.out _
     rw [u1, u2] at this
     exact this
    ·rintro L A W K hL hC hW ⟨V, rfl, HV, s0, s1, f3, f5, f6⟩ hK
     have hB := s0 (hC.no (hC.no (hC.no hL 5 _ rfl rfl) 6 _ rfl rfl) 7 _ rfl rfl)
     have H := Lib.hid (show ∀ W', Ext W W' → K (fr (upd V 4 (wv m))) W' from fun W' he => hK _ _ ⟨_, rfl, HV.us 4 _ rfl, fun h0 => MnK.ext (s0 (mnf h0 rfl)) he, fun h0 => MnE.ext (s1 (more_ne h0 rfl)) he, fun h0 h1 => keepP (f3 (mnf h0 rfl) (more_ne h1 rfl)) he, fun h0 h1 => keepP (f5 (mnf h0 rfl) (more_ne h1 rfl)) he, fun h0 h1 => StV.ext (f6 (mnf h0 rfl) (more_ne h1 rfl)) he⟩)
     clear hK hC hW hL HV s0 s1 f3 f5 f6
     rw [HFR.out]
     have HWD := Lib.hid hB.2
     clear hB
     refine wpList_load_word rfl 31 28 (.tmp 8) rfl Try.underlying31 winfo gl m rfl HWD.out ?_
     show K _ _; have := H.out _ (Ext.refl _); rw [HFR.out] at this
     exact this
    ·rintro L A W K hL hC hW ⟨V, rfl, HV, s0, s1, f3, f5, f6⟩ hK
     have e4 := HV 4 _ rfl (hW 4 rfl)
     have hB := s0 (hC.no (hC.no hL 6 _ rfl rfl) 7 _ rfl rfl)
     have q3 := f3 (hC.no (hC.no hL 6 _ rfl rfl) 7 _ rfl rfl) (hW 3 rfl)
     obtain ⟨u3, v3, e3, y3, z3⟩ := q3
     have H := Lib.hid (show ∀ v W', Ext W W' → (OfP w (x) v) → K (fr (upd V 5 v)) W' from fun v W' he hp => hK _ _ ⟨_, rfl, HV.un 5 _ rfl, fun h0 => MnK.ext (s0 (mnf h0 rfl)) he, fun h0 => MnE.ext (s1 (more_ne h0 rfl)) he, fun h0 h1 => keepP (f3 (mnf h0 rfl) (more_ne h1 rfl)) he, fun h0 h1 => hp, fun h0 h1 => StV.ext (f6 (mnf h0 rfl) (more_ne h1 rfl)) he⟩)
     have HU := Lib.hid (show ∀ v, (upd V 5 v) 3 = .agg (acc p u3 v3) ∧ (upd V 5 v) 4 = wv m from fun v => ⟨e3, e4⟩)
     clear hK hC hW hL HV s0 s1 f3 f5 f6
     rw [HFR.out, e3, e4]
     clear e3 e4
     clear hB
     have Y1 := Lib.hid y3
     have Y2 := Lib.hid z3
     clear y3 z3
     go_wp2_with fail
     refine (HPDx.out u3 v3 _ (bs_one Y1.out) (pks_one Y2.out)).mono ?_
     rintro e wx ⟨rfl, he⟩
     have := H.out _ _ he (⟨_, _, rfl, by rw [HXCx.out.1]; exact Y1.out, by rw [HXCx.out.2]; exact Y2.out⟩)
     clear H
     go_wp2_with fail
     show K _ _
     rw [HFR.out] at this
     obtain ⟨u3, u4⟩ := HU.out _
     rw [u3, u4] at this
     exact this
    ·rintro L A W K hL hC hW ⟨V, rfl, HV, s0, s1, f3, f5, f6⟩ hK
     have e0 := HV 0 _ rfl (hW 0 rfl)
     have hB := s0 (hC.no hL 7 _ rfl rfl)
     have q5 := f5 (hC.no hL 7 _ rfl rfl) (hW 5 rfl)
     obtain ⟨u5, v5, e5, y5, z5⟩ := q5
     have H := Lib.hid (show ∀ v W', Ext W W' → (StV w.heap.size r W' v) → K (fr (upd V 6 v)) W' from fun v W' he hp => hK _ _ ⟨_, rfl, HV.un 6 _ rfl, fun h0 => MnK.ext (s0 (mnf h0 rfl)) he, fun h0 => MnE.ext (s1 (more_ne h0 rfl)) he, fun h0 h1 => keepP (f3 (mnf h0 rfl) (more_ne h1 rfl)) he, fun h0 h1 => keepP (f5 (mnf h0 rfl) (more_ne h1 rfl)) he, fun h0 h1 => hp⟩)
     have HU := Lib.hid (show ∀ v, (upd V 6 v) 0 = .agg #[.slice A0 l.length c0] ∧ (upd V 6 v) 5 = .agg (acc (x) u5 v5) from fun v => ⟨e0, e5⟩)
     clear hK hC hW hL HV s0 s1 f3 f5 f6
     rw [HFR.out, e0, e5]
     clear e0 e5
     have HB := Lib.hid hB
     clear hB
     have Y1 := Lib.hid y5
     have Y2 := Lib.hid z5
     clear y5 z5
     go_wp2_with fail
     refine (HWI.out u5 v5 _ HB.out.1.2.2.2 Y1.out Y2.out).mono ?_
     rintro e wx ⟨v', rfl, hr, he⟩
     have := H.out _ _ he (WIV.out _ _ (hr.low HB.out.1.2.2.2.size))
     clear H
     go_wp2_with fail
     show K _ _
     rw [HFR.out] at this
     obtain ⟨u0, u5⟩ := HU.out _
     rw [u0, u5] at this
     exact this
    ·rintro L A W K hL hC hW ⟨V, rfl, HV, s0, s1, f3, f5, f6⟩ hK
     have hB := s0 hL
     have q6 := f6 hL (hW 6 rfl)
     obtain ⟨A6, c6, e6, k6⟩ := q6
     have H := Lib.hid (show ∀ W', (MnE w (w.heap.size + 1 + 1) r W') → K (fr (V)) W' from fun W' hA => hK _ _ ⟨V, rfl, HV.st 7 rfl, fun h0 => msf h0, fun h0 => hA, fun h0 h1 => msf h0, fun h0 h1 => msf h0, fun h0 h1 => msf h0⟩)
     have HU := Lib.hid (show (V) 6 = .agg #[.slice A6 r.1.length c6] from e6)
     clear hK hC hW hL HV s0 s1 f3 f5 f6
     rw [HFR.out, e6]
     clear e6
     have HB := Lib.hid hB
     have KH := Lib.hid k6
     have hc : W.cell? ⟨(w.heap.size + 1 + 1), 0, none⟩ = some (.slice none 0 0) := hB.1.2.2.1.cell 0 _ rfl
     have hf : W.frozen? ⟨(w.heap.size + 1 + 1), 0, none⟩ = false := hB.1.2.2.1.frozen 0
     clear hB k6
     go_wp2_with fail
     have HA := Lib.hid (HB.out.1.done (r := r) (by omega) KH.out)
     show K _ _; have := H.out _ HA.out; rw [HFR.out] at this
     obtain u6 := HU.out
     rw [u6] at this
     exact this
    ·rintro L A W K hL hC hW ⟨V, rfl, HV, s0, s1, f3, f5, f6⟩ hK
     have H := Lib.hid (show ∀ W', Ext W W' → K (fr (upd V 8 (.int .i64 0))) W' from fun W' he => hK _ _ ⟨_, rfl, HV.us 8 _ rfl, fun h0 => MnK.ext (s0 (mnf h0 rfl)) he, fun h0 => MnE.ext (s1 (more_ne h0 rfl)) he, fun h0 h1 => keepP (f3 (mnf h0 rfl) (more_ne h1 rfl)) he, fun h0 h1 => keepP (f5 (mnf h0 rfl) (more_ne h1 rfl)) he, fun h0 h1 => StV.ext (f6 (mnf h0 rfl) (more_ne h1 rfl)) he⟩)
     clear hK hC hW hL HV s0 s1 f3 f5 f6
     rw [HFR.out]
     go_wp2_with fail
     show K _ _; have := H.out _ (Ext.refl _); rw [HFR.out] at this
     exact this
    ·rintro L A W hL ⟨V, rfl, HV, s0, s1, f3, f5, f6⟩
     have e0 := HV 0 _ rfl (hL 0 (by simp))
     have e1 := HV 1 _ rfl (hL 1 (by simp))
     have e2 := HV 2 _ rfl (hL 2 (by simp))
     have e4 := HV 4 _ rfl (hL 4 (by simp))
     have e8 := HV 8 _ rfl (hL 8 (by simp))
     have hA := s1 (hL 7 (by simp))
     rw [HFR.out, e0, e1, e2, e4, e8]
     clear hL HV HFR e0 e1 e2 e4 e8 s0 s1 f3 f5 f6
     obtain ⟨A9, c9, h1', h2', h3'⟩ := hA
     have H1 := Lib.hid h1'
     have H2 := Lib.hid h2'
     have H3 := Lib.hid h3'
     clear h1' h2' h3'
     go_wp2_with fail
     refine bodyPost_ret (results_st_err Try.results48 _ _ (w.heap.size + 1 + 1) (.slice A9 r.1.length c9) rfl H1.out) rfl ?_
     exact ⟨_, by rw [HF.out, HR0.out]; rfl, by rw [HF.out]; exact H2.out, H3.out⟩
set_option maxRecDepth 100000 in
set_option maxHeartbeats 8000000 in
theorem refMint_any (sv : Value) (l : List Ac) (a n : Nat) (w : World) (hs : Acs w sv l) (hl : l.length ≤ 1000) (hsz : ∀ q ∈ l, q.code.length ≤ 1000000 ∧ q.store.length ≤ 1000000) (ha : a < 18446744073709551616) (hn : n < M256) :
  Calls Try.prog 47 #[.agg #[sv], .int .u64 (a : Nat), wv n] w (RetS w (mintR l a n)) := by
 have HS := Lib.hid hs
 have HSZ := Lib.hid hsz
 have HLE := Lib.hid (show l.length ≤ 10000 by omega)
 have HN := Lib.hid hn
 have HA0 := Lib.hid ha
 have HDEF : Hid (mintR l a n = if ovr (sumW (bals l)).1 n then ([], 2) else if a = 0 then ([], 2) else if n = 0 then (wiL l (accF l a).1, 0) else if roomR l a = false then ([], 6) else (wiL l (setB (accF l a).1 (addN (accF l a).1.bal n)), 0)) := Lib.hid rfl
 obtain ⟨A0, c0, rfl, h1, h2⟩ := hs.len
 obtain ⟨w0, hw0⟩ : ∃ w0, (((w.alloc (.cells #[.slice A0 l.length c0] 24)).alloc (.cells (wc n) 31)).alloc (.cells #[.slice none 0 0] 24)) = w0 := ⟨_, rfl⟩
 have HJ0 : Hid (MnJ w w.heap.size (w.heap.size + 1) (w.heap.size + 1 + 1) (.slice A0 l.length c0) n w0) := by
  rw [← hw0]
  exact Lib.hid ⟨Cs.alloc (Cs.alloc (Cs.new _ _ _ _ rfl) _) _, Cs.alloc (Cs.new _ _ _ _ (by simp)) _, Cs.new _ _ _ _ (by simp), (((Ext.refl w).alloc _).alloc _).alloc _⟩
 have HW0 := Lib.hid hw0
 clear hs hsz hw0
 unfold wv
 go_enter Try.func47, Try.ntmps47
 go_upto_region 1 with fail
 rw [HW0.out]
 clear HW0
 obtain ⟨p, hp⟩ : ∃ p, (accF l a).1 = p := ⟨_, rfl⟩
 have HOPp := Lib.hid (accF_ok HS.out a ha)
 have HPZp := Lib.hid (accF_sz6 HSZ.out a)
 have HOFp := Lib.hid (fun W (h : Ext w W) => refOf_any (.slice A0 l.length c0) l a w W h HS.out ha)
 rw [hp] at HOPp HPZp HOFp HDEF
 clear hp
 obtain ⟨m, hm⟩ : ∃ m, addN p.bal n = m := ⟨_, rfl⟩
 obtain ⟨ub, hub⟩ : ∃ b, ovr p.bal n = b := ⟨_, rfl⟩
 have HADD := Lib.hid (fun W => refAdd_any p.bal n W HOPp.out.2.1 HN.out)
 have HM := Lib.hid (show m < M256 by rw [← hm]; exact Nat.mod_lt _ (by decide))
 rw [hm, hub] at HADD
 rw [hm] at HDEF
 clear hm hub
 obtain ⟨tot, htot⟩ : ∃ t, (sumW (bals l)).1 = t := ⟨_, rfl⟩
 obtain ⟨tov, htov⟩ : ∃ t, (sumW (bals l)).2 = t := ⟨_, rfl⟩
 have HTT := Lib.hid (fun W (h : Ext w W) => refTotal_any (.slice A0 l.length c0) l W (HS.out.ext h) HLE.out)
 rw [htot, htov] at HTT
 rw [htot] at HDEF
 clear htot htov
 obtain ⟨rm, hrm⟩ : ∃ b, roomR l a = b := ⟨_, rfl⟩
 have HRM := Lib.hid (fun W (h : Ext w W) => refRoom_any (.slice A0 l.length c0) l a W (HS.out.ext h) ha HLE.out)
 rw [hrm] at HRM HDEF
 clear hrm
 have q0 : w0.cell? ⟨w.heap.size, 0, none⟩ = some (.slice A0 l.length c0) := HJ0.out.1.cell 0 _ rfl
 go_wp2_with fail
 refine (HTT.out _ HJ0.out.2.2.2).mono ?_
 rintro e w1 ⟨rfl, htl, he⟩
 have HJ1 := Lib.hid (HJ0.out.ext he)
 have HTL := Lib.hid htl
 clear he htl HJ0 q0
 go_upto_region 2 with (first
  | ((with_reducible refine wpList_store_word ?_ ?_ 31 (.tmp 8) (.tmp 18) ?_ winfo w1.heap.size (wc 0) (tot) ?_ ?_ ?_ ?_ ?_); (exact rfl); (exact rfl); (exact rfl); (exact rfl); (exact rfl); (exact Cs.new _ _ _ _ rfl); (exact rfl); intro w9 k9 g9; have K9 := Lib.hid k9; have HX9 := Lib.hid (((Ext.refl _).alloc _).grown g9 (Nat.le_refl _)); clear k9 g9))
 have HJ2 := Lib.hid (HJ1.out.ext HX9.out)
 have HT2 := Lib.hid K9.out
 clear HJ1 K9 HX9
 obtain ⟨w2, hw2⟩ : ∃ w', w9 = w' := ⟨_, rfl⟩
 rw [hw2] at HJ2 HT2 ⊢
 clear hw2
 generalize w1.heap.size = gt at *
 obtain ⟨so, hso⟩ : ∃ b, ovr tot n = b := ⟨_, rfl⟩
 obtain ⟨sn, hsn⟩ : ∃ b, addN tot n = b := ⟨_, rfl⟩
 have HAD2 := Lib.hid (fun W => refAdd_any tot n W HTL.out HN.out)
 rw [hso, hsn] at HAD2
 rw [hso] at HDEF
 clear hso hsn
 go_wp2_with (first
  | ((with_reducible refine wpList_load_word ?_ 31 28 (.tmp 8) ?_ Try.underlying31 winfo gt (tot) ?_ ?_ ?_); (exact rfl); (exact rfl); (exact rfl); (exact HT2.out))
  | ((with_reducible refine wpList_load_word ?_ 31 28 (.tmp 5) ?_ Try.underlying31 winfo (w.heap.size + 1) (n) ?_ ?_ ?_); (exact rfl); (exact rfl); (exact rfl); (exact HJ2.out.2.1)))
 refine (HAD2.out _).mono ?_
 rintro e w3 ⟨rfl, _, he⟩
 have HJ3 := Lib.hid (HJ2.out.ext he)
 clear he HJ2 HT2
 go_upto_region 3 with (first
  | ((with_reducible refine wpList_store_word ?_ ?_ 31 (.tmp 10) (.tmp 24) ?_ winfo w3.heap.size (wc 0) (sn) ?_ ?_ ?_ ?_ ?_); (exact rfl); (exact rfl); (exact rfl); (exact rfl); (exact rfl); (exact Cs.new _ _ _ _ rfl); (exact rfl); intro w9 k9 g9; have K9 := Lib.hid k9; have HX9 := Lib.hid (((Ext.refl _).alloc _).grown g9 (Nat.le_refl _)); clear k9 g9))
 have HJ4 := Lib.hid (HJ3.out.ext HX9.out)
 clear HJ3 K9 HX9
 obtain ⟨w4, hw4⟩ : ∃ w', w9 = w' := ⟨_, rfl⟩
 rw [hw4] at HJ4 ⊢
 clear hw4
 cases so with
 | true =>
  have HF := Lib.hid (show mintR l a n = ([], 2) by rw [HDEF.out]; rfl)
  clear HDEF
  have r1 : w4.cell? ⟨(w.heap.size + 1 + 1), 0, none⟩ = some (.slice none 0 0) := HJ4.out.2.2.1.cell 0 _ rfl
  have p1 : w4.frozen? ⟨(w.heap.size + 1 + 1), 0, none⟩ = false := HJ4.out.2.2.1.frozen 0
  go_wp2_with fail
  refine bodyPost_ret (results_st_err Try.results47 _ _ (w.heap.size + 1 + 1) (.slice none 0 0) rfl (by simpa using Cs.set HJ4.out.2.2.1 0 (.slice none 0 0))) rfl ?_
  exact ⟨_, by rw [HF.out]; rfl, by rw [HF.out]; exact RwA.nil _ _ _, HJ4.out.2.2.2.grown (grown_set _ _ _ _) (by omega)⟩
 | false =>
  have HDEF := Lib.hid (show mintR l a n = if a = 0 then ([], 2) else if n = 0 then (wiL l p, 0) else if rm = false then ([], 6) else (wiL l (setB p m), 0) by rw [HDEF.out]; rfl)
  by_cases h0 : a = 0
  ·have f0 : (((a : Nat) : Int) == 0) = true := by rw [beq_iff_eq]; omega
   have HF := Lib.hid (show mintR l a n = ([], 2) by rw [HDEF.out, if_pos h0])
   clear h0 HDEF
   have r1 : w4.cell? ⟨(w.heap.size + 1 + 1), 0, none⟩ = some (.slice none 0 0) := HJ4.out.2.2.1.cell 0 _ rfl
   have p1 : w4.frozen? ⟨(w.heap.size + 1 + 1), 0, none⟩ = false := HJ4.out.2.2.1.frozen 0
   go_wp2_with fail
   refine bodyPost_ret (results_st_err Try.results47 _ _ (w.heap.size + 1 + 1) (.slice none 0 0) rfl (by simpa using Cs.set HJ4.out.2.2.1 0 (.slice none 0 0))) rfl ?_
   exact ⟨_, by rw [HF.out]; rfl, by rw [HF.out]; exact RwA.nil _ _ _, HJ4.out.2.2.2.grown (grown_set _ _ _ _) (by omega)⟩
  ·have f0 : (((a : Nat) : Int) == 0) = false := by rw [beq_eq_false_iff_ne]; omega
   have HDEF := Lib.hid (show mintR l a n = if n = 0 then (wiL l p, 0) else if rm = false then ([], 6) else (wiL l (setB p m), 0) by rw [HDEF.out, if_neg h0])
   clear h0
   have HJ := HJ4
   by_cases hn0 : n = 0
   ·have hz : (n == 0) = true := by rw [beq_iff_eq]; exact hn0
    have HNZ := Lib.hid hz
    have HF := Lib.hid (show mintR l a n = (wiL l p, 0) by rw [HDEF.out, if_pos hn0])
    have HXOp := Lib.hid (And.intro HOPp.out HPZp.out)
    clear hn0 HDEF hz
    have HWI := Lib.hid (fun u v W (h : Ext w W) (h1 : Bs w u p.code) (h2 : Pks w v p.store) => refWith_any (.slice A0 l.length c0) l p u v W (HS.out.ext h) HXOp.out.1 (h1.ext h) (h2.ext h) HLE.out HSZ.out HXOp.out.2)
    obtain ⟨r, hr⟩ : ∃ r : List Ac × Int, (wiL l p, (0 : Int)) = r := ⟨_, rfl⟩
    have HR0 := Lib.hid (show r.2 = 0 by rw [← hr])
    rw [hr] at HF
    rw [show wiL l p = r.1 by rw [← hr]] at HWI
    clear hr
    have WIV := Lib.hid (fun (W : World) (v' : Value) (h : RwA w.heap.size W v' (.slice none 0 0) r.1) => show StV w.heap.size r W (.agg #[v']) from by obtain ⟨A, c, rfl⟩ := h.shape; exact ⟨A, c, rfl, h⟩)
    go_upto_region 6 with (first
     | ((with_reducible refine wpList_load_word ?_ 31 28 (.tmp 5) ?_ Try.underlying31 winfo (w.heap.size + 1) (n) ?_ ?_ ?_); (exact rfl); (exact rfl); (exact rfl); (exact HJ4.out.2.1))
     | ((with_reducible refine wpList_eql_word ?_ (.tmp 32) (.tmp 33) ?_ n 0 HN.out (by decide) ?_ ?_ ?_); (exact rfl); (exact rfl); (exact rfl); (exact rfl); rw [HNZ.out]))
    refine wp_named fun a0 ha0 => ?_
    obtain ⟨fr, hfr⟩ : ∃ fr : (Nat → Value) → Act, ∀ V, fr V = ((((((a0.put (some 35) (V 0)).put (some 36) (V 1)).put (some 37) (V 2)).put (some 38) (V 3)).put (some 39) (V 4)).put (some 7) (V 6)) := ⟨_, fun _ => rfl⟩
    rw [ha0] at hfr
    simp only [Act.put, List.setIfInBounds_toArray, List.set_cons_zero, List.set_cons_succ] at hfr
    have HFR := Lib.hid hfr
    clear hfr
    refine wp_region_inv (by kernel_rfl) (by kernel_rfl) (fun L A W => ∃ V : Nat → Value, A = fr V ∧ Vals (fun j => ([some (.agg #[.slice A0 l.length c0]), some (.agg #[.slice A0 l.length c0]), some (.int .u64 (a : Nat)), none, none, none, some (.int .i64 0)] : List (Option Value)).getD j none) L V ∧ (L 5 = false → MnJ w (w.heap.size) (w.heap.size + 1) (w.heap.size + 1 + 1) (.slice A0 l.length c0) n W) ∧ (L 5 = true → MnE w (w.heap.size + 1 + 1) r W) ∧ (L 5 = false → L 3 = true → OfP w p (V 3)) ∧ (L 5 = false → L 4 = true → StV w.heap.size r W (V 4))) ?_ ⟨?_, ?_, ?_, ?_, ?_, ?_, ?_, trivial⟩ ?_
    ·refine ⟨fun j => a0.tmps.getD (([35, 36, 37, 38, 39, 0, 7] : List Nat).getD j 0) undef, ?_, Vals.no _ _ _ (far_none _ _ rfl), fun _ => HJ.out.ext (Ext.refl _).drew, fun h0 => absurd h0 (by decide), fun h0 h1 => absurd h1 (by decide), fun h0 h1 => absurd h1 (by decide)⟩
     rw [HFR.out, ha0]
     rfl
    all_goals clear ha0
    ·rintro L A W K hL hC hW ⟨V, rfl, HV, s0, s1, f3, f4⟩ hK
     have hB := s0 (hC.no (hC.no hL 4 _ rfl rfl) 5 _ rfl rfl)
     have H := Lib.hid (show ∀ W', Ext W W' → K (fr (upd V 0 (.agg #[.slice A0 l.length c0]))) W' from fun W' he => hK _ _ ⟨_, rfl, HV.us 0 _ rfl, fun h0 => MnJ.ext (s0 (mnf h0 rfl)) he, fun h0 => MnE.ext (s1 (more_ne h0 rfl)) he, fun h0 h1 => keepP (f3 (mnf h0 rfl) (more_ne h1 rfl)) he, fun h0 h1 => StV.ext (f4 (mnf h0 rfl) (more_ne h1 rfl)) he⟩)
     clear hK hC hW hL HV s0 s1 f3 f4
     rw [HFR.out]
     have hcl : W.cell? ⟨w.heap.size, 0, none⟩ = some (.slice A0 l.length c0) := hB.1.cell 0 _ rfl
     clear hB
     go_wp2_with fail
     show K _ _; have := H.out _ (Ext.refl _); rw [HFR.out] at this
     exact this
    ·rintro L A W K hL hC hW ⟨V, rfl, HV, s0, s1, f3, f4⟩ hK
     have hB := s0 (hC.no (hC.no (hC.no hL 3 _ rfl rfl) 4 _ rfl rfl) 5 _ rfl rfl)
     have H := Lib.hid (show ∀ W', Ext W W' → K (fr (upd V 1 (.agg #[.slice A0 l.length c0]))) W' from fun W' he => hK _ _ ⟨_, rfl, HV.us 1 _ rfl, fun h0 => MnJ.ext (s0 (mnf h0 rfl)) he, fun h0 => MnE.ext (s1 (more_ne h0 rfl)) he, fun h0 h1 => keepP (f3 (mnf h0 rfl) (more_ne h1 rfl)) he, fun h0 h1 => StV.ext (f4 (mnf h0 rfl) (more_ne h1 rfl)) he⟩)
     clear hK hC hW hL HV s0 s1 f3 f4
     rw [HFR.out]
     have hcl : W.cell? ⟨w.heap.size, 0, none⟩ = some (.slice A0 l.length c0) := hB.1.cell 0 _ rfl
     clear hB
     go_wp2_with fail
     show K _ _; have := H.out _ (Ext.refl _); rw [HFR.out] at this
     exact this
    ·rintro L A W K hL hC hW ⟨V, rfl, HV, s0, s1, f3, f4⟩ hK
     have H := Lib.hid (show ∀ W', Ext W W' → K (fr (upd V 2 (.int .u64 (a : Nat)))) W' from fun W' he => hK _ _ ⟨_, rfl, HV.us 2 _ rfl, fun h0 => MnJ.ext (s0 (mnf h0 rfl)) he, fun h0 => MnE.ext (s1 (more_ne h0 rfl)) he, fun h0 h1 => keepP (f3 (mnf h0 rfl) (more_ne h1 rfl)) he, fun h0 h1 => StV.ext (f4 (mnf h0 rfl) (more_ne h1 rfl)) he⟩)
     clear hK hC hW hL HV s0 s1 f3 f4
     rw [HFR.out]
     go_wp2_with fail
     show K _ _; have := H.out _ (Ext.refl _); rw [HFR.out] at this
     exact this
    ·rintro L A W K hL hC hW ⟨V, rfl, HV, s0, s1, f3, f4⟩ hK
     have e1 := HV 1 _ rfl (hW 1 rfl)
     have e2 := HV 2 _ rfl (hW 2 rfl)
     have hB := s0 (hC.no (hC.no hL 4 _ rfl rfl) 5 _ rfl rfl)
     have H := Lib.hid (show ∀ v W', Ext W W' → (OfP w p v) → K (fr (upd V 3 v)) W' from fun v W' he hp => hK _ _ ⟨_, rfl, HV.un 3 _ rfl, fun h0 => MnJ.ext (s0 (mnf h0 rfl)) he, fun h0 => MnE.ext (s1 (more_ne h0 rfl)) he, fun h0 h1 => hp, fun h0 h1 => StV.ext (f4 (mnf h0 rfl) (more_ne h1 rfl)) he⟩)
     have HU := Lib.hid (show ∀ v, (upd V 3 v) 1 = .agg #[.slice A0 l.length c0] ∧ (upd V 3 v) 2 = .int .u64 (a : Nat) from fun v => ⟨e1, e2⟩)
     clear hK hC hW hL HV s0 s1 f3 f4
     rw [HFR.out, e1, e2]
     clear e1 e2
     have HB := Lib.hid hB
     clear hB
     go_wp2_with fail
     refine (HOFp.out _ HB.out.2.2.2).mono ?_
     rintro e wx ⟨u', v', rfl, hu', hv', he⟩
     have := H.out _ _ he (⟨u', v', rfl, hu', hv'⟩)
     clear H
     go_wp2_with fail
     show K _ _
     rw [HFR.out] at this
     obtain ⟨u1, u2⟩ := HU.out _
     rw [u1, u2] at this
     exact this
    ·rintro L A W K hL hC hW ⟨V, rfl, HV, s0, s1, f3, f4⟩ hK
     have e0 := HV 0 _ rfl (hW 0 rfl)
     have hB := s0 (hC.no hL 5 _ rfl rfl)
     have q3 := f3 (hC.no hL 5 _ rfl rfl) (hW 3 rfl)
     obtain ⟨u3, v3, e3, y3, z3⟩ := q3
     have H := Lib.hid (show ∀ v W', Ext W W' → (StV w.heap.size r W' v) → K (fr (upd V 4 v)) W' from fun v W' he hp => hK _ _ ⟨_, rfl, HV.un 4 _ rfl, fun h0 => MnJ.ext (s0 (mnf h0 rfl)) he, fun h0 => MnE.ext (s1 (more_ne h0 rfl)) he, fun h0 h1 => keepP (f3 (mnf h0 rfl) (more_ne h1 rfl)) he, fun h0 h1 => hp⟩)
     have HU := Lib.hid (show ∀ v, (upd V 4 v) 0 = .agg #[.slice A0 l.length c0] ∧ (upd V 4 v) 3 = .agg (acc p u3 v3) from fun v => ⟨e0, e3⟩)
     clear hK hC hW hL HV s0 s1 f3 f4
     rw [HFR.out, e0, e3]
     clear e0 e3
     have HB := Lib.hid hB
     clear hB
     have Y1 := Lib.hid y3
     have Y2 := Lib.hid z3
     clear y3 z3
     go_wp2_with fail
     refine (HWI.out u3 v3 _ HB.out.2.2.2 Y1.out Y2.out).mono ?_
     rintro e wx ⟨v', rfl, hr, he⟩
     have := H.out _ _ he (WIV.out _ _ (hr.low HB.out.2.2.2.size))
     clear H
     go_wp2_with fail
     show K _ _
     rw [HFR.out] at this
     obtain ⟨u0, u3⟩ := HU.out _
     rw [u0, u3] at this
     exact this
    ·rintro L A W K hL hC hW ⟨V, rfl, HV, s0, s1, f3, f4⟩ hK
     have hB := s0 hL
     have q4 := f4 hL (hW 4 rfl)
     obtain ⟨A4, c4, e4, k4⟩ := q4
     have H := Lib.hid (show ∀ W', (MnE w (w.heap.size + 1 + 1) r W') → K (fr (V)) W' from fun W' hA => hK _ _ ⟨V, rfl, HV.st 5 rfl, fun h0 => msf h0, fun h0 => hA, fun h0 h1 => msf h0, fun h0 h1 => msf h0⟩)
     have HU := Lib.hid (show (V) 4 = .agg #[.slice A4 r.1.length c4] from e4)
     clear hK hC hW hL HV s0 s1 f3 f4
     rw [HFR.out, e4]
     clear e4
     have HB := Lib.hid hB
     have KH := Lib.hid k4
     have hc : W.cell? ⟨(w.heap.size + 1 + 1), 0, none⟩ = some (.slice none 0 0) := hB.2.2.1.cell 0 _ rfl
     have hf : W.frozen? ⟨(w.heap.size + 1 + 1), 0, none⟩ = false := hB.2.2.1.frozen 0
     clear hB k4
     go_wp2_with fail
     have HA := Lib.hid (HB.out.done (r := r) (by omega) KH.out)
     show K _ _; have := H.out _ HA.out; rw [HFR.out] at this
     obtain u4 := HU.out
     rw [u4] at this
     exact this
    ·rintro L A W K hL hC hW ⟨V, rfl, HV, s0, s1, f3, f4⟩ hK
     have H := Lib.hid (show ∀ W', Ext W W' → K (fr (upd V 6 (.int .i64 0))) W' from fun W' he => hK _ _ ⟨_, rfl, HV.us 6 _ rfl, fun h0 => MnJ.ext (s0 (mnf h0 rfl)) he, fun h0 => MnE.ext (s1 (more_ne h0 rfl)) he, fun h0 h1 => keepP (f3 (mnf h0 rfl) (more_ne h1 rfl)) he, fun h0 h1 => StV.ext (f4 (mnf h0 rfl) (more_ne h1 rfl)) he⟩)
     clear hK hC hW hL HV s0 s1 f3 f4
     rw [HFR.out]
     go_wp2_with fail
     show K _ _; have := H.out _ (Ext.refl _); rw [HFR.out] at this
     exact this
    ·rintro L A W hL ⟨V, rfl, HV, s0, s1, f3, f4⟩
     have e0 := HV 0 _ rfl (hL 0 (by simp))
     have e1 := HV 1 _ rfl (hL 1 (by simp))
     have e2 := HV 2 _ rfl (hL 2 (by simp))
     have e6 := HV 6 _ rfl (hL 6 (by simp))
     have hA := s1 (hL 5 (by simp))
     rw [HFR.out, e0, e1, e2, e6]
     clear hL HV HFR e0 e1 e2 e6 s0 s1 f3 f4
     obtain ⟨A9, c9, h1', h2', h3'⟩ := hA
     have H1 := Lib.hid h1'
     have H2 := Lib.hid h2'
     have H3 := Lib.hid h3'
     clear h1' h2' h3'
     go_wp2_with fail
     refine bodyPost_ret (results_st_err Try.results47 _ _ (w.heap.size + 1 + 1) (.slice A9 r.1.length c9) rfl H1.out) rfl ?_
     exact ⟨_, by rw [HF.out, HR0.out]; rfl, by rw [HF.out]; exact H2.out, H3.out⟩
   ·have hz : (n == 0) = false := by rw [beq_eq_false_iff_ne]; exact hn0
    have HNZ := Lib.hid hz
    have HDEF := Lib.hid (show mintR l a n = if rm = false then ([], 6) else (wiL l (setB p m), 0) by rw [HDEF.out, if_neg hn0])
    have q4 : w4.cell? ⟨w.heap.size, 0, none⟩ = some (.slice A0 l.length c0) := HJ4.out.1.cell 0 _ rfl
    clear hn0 hz
    go_wp2_with (first
     | ((with_reducible refine wpList_load_word ?_ 31 28 (.tmp 5) ?_ Try.underlying31 winfo (w.heap.size + 1) (n) ?_ ?_ ?_); (exact rfl); (exact rfl); (exact rfl); (exact HJ4.out.2.1))
     | ((with_reducible refine wpList_eql_word ?_ (.tmp 32) (.tmp 33) ?_ n 0 HN.out (by decide) ?_ ?_ ?_); (exact rfl); (exact rfl); (exact rfl); (exact rfl); rw [HNZ.out]))
    refine (HRM.out _ HJ4.out.2.2.2).mono ?_
    rintro e w5 ⟨rfl, he⟩
    have HJ5 := Lib.hid (HJ4.out.ext he)
    clear he HJ4 HJ q4
    cases rm with
    | false =>
     have HF := Lib.hid (show mintR l a n = ([], 6) by rw [HDEF.out]; rfl)
     clear HDEF
     have r1 : w5.cell? ⟨(w.heap.size + 1 + 1), 0, none⟩ = some (.slice none 0 0) := HJ5.out.2.2.1.cell 0 _ rfl
     have p1 : w5.frozen? ⟨(w.heap.size + 1 + 1), 0, none⟩ = false := HJ5.out.2.2.1.frozen 0
     go_wp2_with fail
     refine bodyPost_ret (results_st_err Try.results47 _ _ (w.heap.size + 1 + 1) (.slice none 0 0) rfl (by simpa using Cs.set HJ5.out.2.2.1 0 (.slice none 0 0))) rfl ?_
     exact ⟨_, by rw [HF.out]; rfl, by rw [HF.out]; exact RwA.nil _ _ _, HJ5.out.2.2.2.grown (grown_set _ _ _ _) (by omega)⟩
    | true =>
     have HF := Lib.hid (show mintR l a n = (wiL l (setB p m), 0) by rw [HDEF.out]; rfl)
     clear HDEF
     have HJ := HJ5
     go_upto_region 9 with fail
     refine wp_named fun a0 ha0 => ?_
     obtain ⟨fr, hfr⟩ : ∃ fr : (Nat → Value) → Act, ∀ V, fr V = (((((((((((a0.put (some 46) (V 0)).put (some 47) (V 1)).put (some 48) (V 2)).put (some 49) (V 3)).put (some 50) (V 4)).put (some 51) (V 5)).put (some 45) (V 6)).put (some 52) (V 7)).put (some 53) (V 8)).put (some 12) (V 9)).put (some 13) (V 11)) := ⟨_, fun _ => rfl⟩
     rw [ha0] at hfr
     simp only [Act.put, List.setIfInBounds_toArray, List.set_cons_zero, List.set_cons_succ] at hfr
     have HFR := Lib.hid hfr
     clear hfr
     refine wp_region_inv (by kernel_rfl) (by kernel_rfl) (fun L A W => ∃ V : Nat → Value, A = fr V ∧ Vals (fun j => ([some (.agg #[.slice A0 l.length c0]), some (.int .u64 (a : Nat)), none, some (wv p.bal), some (wv n), some (.tuple #[wv (m), .bool (ub)]), some (.tuple #[wv (m), .bool (ub)]), some (wv (m)), some (.bool (ub)), none, none, some (.bool (ub))] : List (Option Value)).getD j none) L V ∧ (L 10 = false → MnJ w (w.heap.size) (w.heap.size + 1) (w.heap.size + 1 + 1) (.slice A0 l.length c0) n W) ∧ (L 10 = true → KaJ w (w.heap.size) (w.heap.size + 1) (w.heap.size + 1 + 1) (.slice A0 l.length c0) n m W (V 9)) ∧ (L 10 = false → L 2 = true → OfP w p (V 2)) ∧ (L 10 = false → L 9 = true → NwW (w.heap.size + 1 + 1) W (V 9))) ?_ ⟨?_, ?_, ?_, ?_, ?_, ?_, ?_, ?_, ?_, ?_, ?_, ?_, trivial⟩ ?_
     ·refine ⟨fun j => a0.tmps.getD (([46, 47, 48, 49, 50, 51, 45, 52, 53, 12, 0, 13] : List Nat).getD j 0) undef, ?_, Vals.no _ _ _ (far_none _ _ rfl), fun _ => HJ.out.ext (Ext.refl _).drew, fun h0 => absurd h0 (by decide), fun h0 h1 => absurd h1 (by decide), fun h0 h1 => absurd h1 (by decide)⟩
      rw [HFR.out, ha0]
      rfl
     all_goals clear ha0
     ·rintro L A W K hL hC hW ⟨V, rfl, HV, s0, s1, f2, f9⟩ hK
      have hB := s0 (hC.no (hC.no (hC.no (hC.no (hC.no (hC.no hL 2 _ rfl rfl) 3 _ rfl rfl) 5 _ rfl rfl) 6 _ rfl rfl) 7 _ rfl rfl) 10 _ rfl rfl)
      have H := Lib.hid (show ∀ W', Ext W W' → K (fr (upd V 0 (.agg #[.slice A0 l.length c0]))) W' from fun W' he => hK _ _ ⟨_, rfl, HV.us 0 _ rfl, fun h0 => MnJ.ext (s0 (mnf h0 rfl)) he, fun h0 => KaJ.ext (s1 (more_ne h0 rfl)) he, fun h0 h1 => keepP (f2 (mnf h0 rfl) (more_ne h1 rfl)) he, fun h0 h1 => NwW.ext (f9 (mnf h0 rfl) (more_ne h1 rfl)) he⟩)
      clear hK hC hW hL HV s0 s1 f2 f9
      rw [HFR.out]
      have hcl : W.cell? ⟨w.heap.size, 0, none⟩ = some (.slice A0 l.length c0) := hB.1.cell 0 _ rfl
      clear hB
      go_wp2_with fail
      show K _ _; have := H.out _ (Ext.refl _); rw [HFR.out] at this
      exact this
     ·rintro L A W K hL hC hW ⟨V, rfl, HV, s0, s1, f2, f9⟩ hK
      have H := Lib.hid (show ∀ W', Ext W W' → K (fr (upd V 1 (.int .u64 (a : Nat)))) W' from fun W' he => hK _ _ ⟨_, rfl, HV.us 1 _ rfl, fun h0 => MnJ.ext (s0 (mnf h0 rfl)) he, fun h0 => KaJ.ext (s1 (more_ne h0 rfl)) he, fun h0 h1 => keepP (f2 (mnf h0 rfl) (more_ne h1 rfl)) he, fun h0 h1 => NwW.ext (f9 (mnf h0 rfl) (more_ne h1 rfl)) he⟩)
      clear hK hC hW hL HV s0 s1 f2 f9
      rw [HFR.out]
      go_wp2_with fail
      show K _ _; have := H.out _ (Ext.refl _); rw [HFR.out] at this
      exact this
     ·rintro L A W K hL hC hW ⟨V, rfl, HV, s0, s1, f2, f9⟩ hK
      have e0 := HV 0 _ rfl (hW 0 rfl)
      have e1 := HV 1 _ rfl (hW 1 rfl)
      have hB := s0 (hC.no (hC.no (hC.no (hC.no (hC.no hL 3 _ rfl rfl) 5 _ rfl rfl) 6 _ rfl rfl) 7 _ rfl rfl) 10 _ rfl rfl)
      have H := Lib.hid (show ∀ v W', Ext W W' → (OfP w p v) → K (fr (upd V 2 v)) W' from fun v W' he hp => hK _ _ ⟨_, rfl, HV.un 2 _ rfl, fun h0 => MnJ.ext (s0 (mnf h0 rfl)) he, fun h0 => KaJ.ext (s1 (more_ne h0 rfl)) he, fun h0 h1 => hp, fun h0 h1 => NwW.ext (f9 (mnf h0 rfl) (more_ne h1 rfl)) he⟩)
      have HU := Lib.hid (show ∀ v, (upd V 2 v) 0 = .agg #[.slice A0 l.length c0] ∧ (upd V 2 v) 1 = .int .u64 (a : Nat) from fun v => ⟨e0, e1⟩)
      clear hK hC hW hL HV s0 s1 f2 f9
      rw [HFR.out, e0, e1]
      clear e0 e1
      have HB := Lib.hid hB
      clear hB
      go_wp2_with fail
      refine (HOFp.out _ HB.out.2.2.2).mono ?_
      rintro e wx ⟨u', v', rfl, hu', hv', he⟩
      have := H.out _ _ he (⟨u', v', rfl, hu', hv'⟩)
      clear H
      go_wp2_with fail
      show K _ _
      rw [HFR.out] at this
      obtain ⟨u0, u1⟩ := HU.out _
      rw [u0, u1] at this
      exact this
     ·rintro L A W K hL hC hW ⟨V, rfl, HV, s0, s1, f2, f9⟩ hK
      have hB := s0 (hC.no (hC.no (hC.no (hC.no hL 5 _ rfl rfl) 6 _ rfl rfl) 7 _ rfl rfl) 10 _ rfl rfl)
      have q2 := f2 (hC.no (hC.no (hC.no (hC.no hL 5 _ rfl rfl) 6 _ rfl rfl) 7 _ rfl rfl) 10 _ rfl rfl) (hW 2 rfl)
      obtain ⟨u2, v2, e2, y2, z2⟩ := q2
      have H := Lib.hid (show ∀ W', Ext W W' → K (fr (upd V 3 (wv p.bal))) W' from fun W' he => hK _ _ ⟨_, rfl, HV.us 3 _ rfl, fun h0 => MnJ.ext (s0 (mnf h0 rfl)) he, fun h0 => KaJ.ext (s1 (more_ne h0 rfl)) he, fun h0 h1 => keepP (f2 (mnf h0 rfl) (more_ne h1 rfl)) he, fun h0 h1 => NwW.ext (f9 (mnf h0 rfl) (more_ne h1 rfl)) he⟩)
      have HU := Lib.hid (show (upd V 3 (wv p.bal)) 2 = .agg (acc p u2 v2) from e2)
      clear hK hC hW hL HV s0 s1 f2 f9
      rw [HFR.out, e2]
      clear e2
      clear hB
      refine wpList_field_bal rfl (.tmp 48) rfl p u2 v2 rfl ?_
      show K _ _; have := H.out _ (Ext.refl _); rw [HFR.out] at this
      obtain u2 := HU.out
      rw [u2] at this
      exact this
     ·rintro L A W K hL hC hW ⟨V, rfl, HV, s0, s1, f2, f9⟩ hK
      have hB := s0 (hC.no (hC.no (hC.no (hC.no hL 5 _ rfl rfl) 6 _ rfl rfl) 7 _ rfl rfl) 10 _ rfl rfl)
      have H := Lib.hid (show ∀ W', Ext W W' → K (fr (upd V 4 (wv n))) W' from fun W' he => hK _ _ ⟨_, rfl, HV.us 4 _ rfl, fun h0 => MnJ.ext (s0 (mnf h0 rfl)) he, fun h0 => KaJ.ext (s1 (more_ne h0 rfl)) he, fun h0 h1 => keepP (f2 (mnf h0 rfl) (more_ne h1 rfl)) he, fun h0 h1 => NwW.ext (f9 (mnf h0 rfl) (more_ne h1 rfl)) he⟩)
      clear hK hC hW hL HV s0 s1 f2 f9
      rw [HFR.out]
      have HWD := Lib.hid hB.2.1
      clear hB
      refine wpList_load_word rfl 31 28 (.tmp 5) rfl Try.underlying31 winfo (w.heap.size + 1) n rfl HWD.out ?_
      show K _ _; have := H.out _ (Ext.refl _); rw [HFR.out] at this
      exact this
     ·rintro L A W K hL hC hW ⟨V, rfl, HV, s0, s1, f2, f9⟩ hK
      have e3 := HV 3 _ rfl (hW 3 rfl)
      have e4 := HV 4 _ rfl (hW 4 rfl)
      have hB := s0 (hC.no (hC.no (hC.no hL 6 _ rfl rfl) 7 _ rfl rfl) 10 _ rfl rfl)
      have H := Lib.hid (show ∀ W', Ext W W' → K (fr (upd V 5 (.tuple #[wv (m), .bool (ub)]))) W' from fun W' he => hK _ _ ⟨_, rfl, HV.us 5 _ rfl, fun h0 => MnJ.ext (s0 (mnf h0 rfl)) he, fun h0 => KaJ.ext (s1 (more_ne h0 rfl)) he, fun h0 h1 => keepP (f2 (mnf h0 rfl) (more_ne h1 rfl)) he, fun h0 h1 => NwW.ext (f9 (mnf h0 rfl) (more_ne h1 rfl)) he⟩)
      have HU := Lib.hid (show (upd V 5 (.tuple #[wv (m), .bool (ub)])) 3 = wv p.bal ∧ (upd V 5 (.tuple #[wv (m), .bool (ub)])) 4 = wv n from ⟨e3, e4⟩)
      clear hK hC hW hL HV s0 s1 f2 f9
      rw [HFR.out, e3, e4]
      clear e3 e4
      clear hB
      go_wp2_with fail
      refine (HADD.out _).mono ?_
      rintro e wx ⟨rfl, _, he⟩
      have := H.out _ he
      clear H
      go_wp2_with fail
      show K _ _
      rw [HFR.out] at this
      obtain ⟨u3, u4⟩ := HU.out
      rw [u3, u4] at this
      exact this
     ·rintro L A W K hL hC hW ⟨V, rfl, HV, s0, s1, f2, f9⟩ hK
      have e5 := HV 5 _ rfl (hW 5 rfl)
      have H := Lib.hid (show ∀ W', Ext W W' → K (fr (upd V 6 (.tuple #[wv (m), .bool (ub)]))) W' from fun W' he => hK _ _ ⟨_, rfl, HV.us 6 _ rfl, fun h0 => MnJ.ext (s0 (mnf h0 rfl)) he, fun h0 => KaJ.ext (s1 (more_ne h0 rfl)) he, fun h0 h1 => keepP (f2 (mnf h0 rfl) (more_ne h1 rfl)) he, fun h0 h1 => NwW.ext (f9 (mnf h0 rfl) (more_ne h1 rfl)) he⟩)
      have HU := Lib.hid (show (upd V 6 (.tuple #[wv (m), .bool (ub)])) 5 = .tuple #[wv (m), .bool (ub)] from e5)
      clear hK hC hW hL HV s0 s1 f2 f9
      rw [HFR.out, e5]
      clear e5
      go_wp2_with fail
      show K _ _; have := H.out _ (Ext.refl _); rw [HFR.out] at this
      obtain u5 := HU.out
      rw [u5] at this
      exact this
     ·rintro L A W K hL hC hW ⟨V, rfl, HV, s0, s1, f2, f9⟩ hK
      have e6 := HV 6 _ rfl (hW 6 rfl)
      have H := Lib.hid (show ∀ W', Ext W W' → K (fr (upd V 7 (wv (m)))) W' from fun W' he => hK _ _ ⟨_, rfl, HV.us 7 _ rfl, fun h0 => MnJ.ext (s0 (mnf h0 rfl)) he, fun h0 => KaJ.ext (s1 (more_ne h0 rfl)) he, fun h0 h1 => keepP (f2 (mnf h0 rfl) (more_ne h1 rfl)) he, fun h0 h1 => NwW.ext (f9 (mnf h0 rfl) (more_ne h1 rfl)) he⟩)
      have HU := Lib.hid (show (upd V 7 (wv (m))) 6 = .tuple #[wv (m), .bool (ub)] from e6)
      clear hK hC hW hL HV s0 s1 f2 f9
      rw [HFR.out, e6]
      clear e6
      go_wp2_with fail
      show K _ _; have := H.out _ (Ext.refl _); rw [HFR.out] at this
      obtain u6 := HU.out
      rw [u6] at this
      exact this
     ·rintro L A W K hL hC hW ⟨V, rfl, HV, s0, s1, f2, f9⟩ hK
      have e6 := HV 6 _ rfl (hW 6 rfl)
      have H := Lib.hid (show ∀ W', Ext W W' → K (fr (upd V 8 (.bool (ub)))) W' from fun W' he => hK _ _ ⟨_, rfl, HV.us 8 _ rfl, fun h0 => MnJ.ext (s0 (mnf h0 rfl)) he, fun h0 => KaJ.ext (s1 (more_ne h0 rfl)) he, fun h0 h1 => keepP (f2 (mnf h0 rfl) (more_ne h1 rfl)) he, fun h0 h1 => NwW.ext (f9 (mnf h0 rfl) (more_ne h1 rfl)) he⟩)
      have HU := Lib.hid (show (upd V 8 (.bool (ub))) 6 = .tuple #[wv (m), .bool (ub)] from e6)
      clear hK hC hW hL HV s0 s1 f2 f9
      rw [HFR.out, e6]
      clear e6
      go_wp2_with fail
      show K _ _; have := H.out _ (Ext.refl _); rw [HFR.out] at this
      obtain u6 := HU.out
      rw [u6] at this
      exact this
     ·rintro L A W K hL hC hW ⟨V, rfl, HV, s0, s1, f2, f9⟩ hK
      have hB := s0 (hC.no hL 10 _ rfl rfl)
      have H := Lib.hid (show ∀ v W', Ext W W' → (NwW (w.heap.size + 1 + 1) W' v) → K (fr (upd V 9 v)) W' from fun v W' he hp => hK _ _ ⟨_, rfl, HV.un 9 _ rfl, fun h0 => MnJ.ext (s0 (mnf h0 rfl)) he, fun h0 => mtf (hC.no hL 10 _ rfl rfl) (more_ne h0 rfl), fun h0 h1 => keepP (f2 (mnf h0 rfl) (more_ne h1 rfl)) he, fun h0 h1 => hp⟩)
      clear hK hC hW hL HV s0 s1 f2 f9
      rw [HFR.out]
      have HB := Lib.hid hB
      clear hB
      go_wp2_with fail
      show K _ _; have := H.out (.pointer (some ⟨W.heap.size, 0, none⟩)) _ ((Ext.refl W).alloc (.cells (wc 0) 31)) (⟨_, rfl, Cs.new _ _ _ _ rfl, Cs.lt HB.out.2.2.1⟩); rw [HFR.out] at this
      exact this
     ·rintro L A W K hL hC hW ⟨V, rfl, HV, s0, s1, f2, f9⟩ hK
      have e7 := HV 7 _ rfl (hW 7 rfl)
      have hB := s0 hL
      have q9 := f9 hL (hW 9 rfl)
      obtain ⟨g9, e9, k9, z9⟩ := q9
      have H := Lib.hid (show ∀ W', (KaJ w (w.heap.size) (w.heap.size + 1) (w.heap.size + 1 + 1) (.slice A0 l.length c0) n m W' (V 9)) → K (fr (V)) W' from fun W' hA => hK _ _ ⟨V, rfl, HV.st 10 rfl, fun h0 => msf h0, fun h0 => hA, fun h0 h1 => msf h0, fun h0 h1 => msf h0⟩)
      have HU := Lib.hid (show (V) 9 = .pointer (some ⟨g9, 0, none⟩) ∧ (V) 7 = wv (m) from ⟨e9, e7⟩)
      clear hK hC hW hL HV s0 s1 f2 f9
      rw [HFR.out, e9, e7]
      clear e9 e7
      have HB := Lib.hid hB
      have K1 := Lib.hid k9
      have Z1 := Lib.hid z9
      clear hB k9 z9
      refine wpList_store_word rfl rfl 31 (.tmp 12) (.tmp 52) rfl winfo g9 (wc 0) (m) rfl rfl K1.out rfl ?_
      intro w6 k6 g6'
      have HA := Lib.hid (show KaJ w (w.heap.size) (w.heap.size + 1) (w.heap.size + 1 + 1) (.slice A0 l.length c0) n m w6 (V 9) from by rw [HU.out.1]; exact KaJ.new HB.out ⟨by omega, by omega, by omega⟩ Z1.out g6' k6)
      clear k6 g6'
      show K _ _; have := H.out _ HA.out; rw [HFR.out] at this
      obtain ⟨u9, u7⟩ := HU.out
      rw [u9, u7] at this
      exact this
     ·rintro L A W K hL hC hW ⟨V, rfl, HV, s0, s1, f2, f9⟩ hK
      have e8 := HV 8 _ rfl (hW 8 rfl)
      have H := Lib.hid (show ∀ W', Ext W W' → K (fr (upd V 11 (.bool (ub)))) W' from fun W' he => hK _ _ ⟨_, rfl, HV.us 11 _ rfl, fun h0 => MnJ.ext (s0 (mnf h0 rfl)) he, fun h0 => KaJ.ext (s1 (more_ne h0 rfl)) he, fun h0 h1 => keepP (f2 (mnf h0 rfl) (more_ne h1 rfl)) he, fun h0 h1 => NwW.ext (f9 (mnf h0 rfl) (more_ne h1 rfl)) he⟩)
      have HU := Lib.hid (show (upd V 11 (.bool (ub))) 8 = .bool (ub) from e8)
      clear hK hC hW hL HV s0 s1 f2 f9
      rw [HFR.out, e8]
      clear e8
      go_wp2_with fail
      show K _ _; have := H.out _ (Ext.refl _); rw [HFR.out] at this
      obtain u8 := HU.out
      rw [u8] at this
      exact this
     ·rintro L A W hL ⟨V, rfl, HV, s0, s1, f2, f9⟩
      have e0 := HV 0 _ rfl (hL 0 (by simp))
      have e1 := HV 1 _ rfl (hL 1 (by simp))
      have e3 := HV 3 _ rfl (hL 3 (by simp))
      have e4 := HV 4 _ rfl (hL 4 (by simp))
      have e5 := HV 5 _ rfl (hL 5 (by simp))
      have e6 := HV 6 _ rfl (hL 6 (by simp))
      have e7 := HV 7 _ rfl (hL 7 (by simp))
      have e8 := HV 8 _ rfl (hL 8 (by simp))
      have e11 := HV 11 _ rfl (hL 11 (by simp))
      have hA := s1 (hL 10 (by simp))
      rw [HFR.out, e0, e1, e3, e4, e5, e6, e7, e8, e11]
      clear hL HV HFR e0 e1 e3 e4 e5 e6 e7 e8 e11 s0 s1 f2 f9
      obtain ⟨gl, hv4, hJ4, hg4⟩ := hA
      have HJ4 := Lib.hid hJ4
      have HG4 := Lib.hid hg4
      rw [hv4]
      clear hv4 hJ4 hg4
      have HXOx := Lib.hid (And.intro (setB_ok HOPp.out HM.out) HPZp.out)
      have HPDx := Lib.hid (fun u v W hu hv => refPaid_any p u v m W hu hv)
      obtain ⟨x, hx⟩ : ∃ x, setB p m = x := ⟨_, rfl⟩
      have HXCx := Lib.hid (show x.code = p.code ∧ x.store = p.store from by rw [← hx]; exact ⟨rfl, rfl⟩)
      have HXOx := Lib.hid (show x.ok ∧ x.code.length ≤ 1000000 ∧ x.store.length ≤ 1000000 from by rw [HXCx.out.1, HXCx.out.2]; rw [hx] at HXOx; exact HXOx.out)
      rw [hx] at HPDx HF
      clear hx
      have HWI := Lib.hid (fun u v W (h : Ext w W) (h1 : Bs w u x.code) (h2 : Pks w v x.store) => refWith_any (.slice A0 l.length c0) l x u v W (HS.out.ext h) HXOx.out.1 (h1.ext h) (h2.ext h) HLE.out HSZ.out HXOx.out.2)
      obtain ⟨r, hr⟩ : ∃ r : List Ac × Int, (wiL l x, (0 : Int)) = r := ⟨_, rfl⟩
      have HR0 := Lib.hid (show r.2 = 0 by rw [← hr])
      rw [hr] at HF
      rw [show wiL l x = r.1 by rw [← hr]] at HWI
      clear hr
      have WIV := Lib.hid (fun (W : World) (v' : Value) (h : RwA w.heap.size W v' (.slice none 0 0) r.1) => show StV w.heap.size r W (.agg #[v']) from by obtain ⟨A, c, rfl⟩ := h.shape; exact ⟨A, c, rfl, h⟩)
      have HJ := HJ4
      go_upto_region 10 with fail
      refine wp_named fun a0 ha0 => ?_
      obtain ⟨fr, hfr⟩ : ∃ fr : (Nat → Value) → Act, ∀ V, fr V = ((((((((a0.put (some 54) (V 0)).put (some 55) (V 1)).put (some 56) (V 2)).put (some 57) (V 3)).put (some 58) (V 4)).put (some 59) (V 5)).put (some 60) (V 6)).put (some 7) (V 8)) := ⟨_, fun _ => rfl⟩
      rw [ha0] at hfr
      simp only [Act.put, List.setIfInBounds_toArray, List.set_cons_zero, List.set_cons_succ] at hfr
      have HFR := Lib.hid hfr
      clear hfr
      refine wp_region_inv (by kernel_rfl) (by kernel_rfl) (fun L A W => ∃ V : Nat → Value, A = fr V ∧ Vals (fun j => ([some (.agg #[.slice A0 l.length c0]), some (.agg #[.slice A0 l.length c0]), some (.int .u64 (a : Nat)), none, some (wv m), none, none, none, some (.int .i64 0)] : List (Option Value)).getD j none) L V ∧ (L 7 = false → MnK w (w.heap.size) (w.heap.size + 1) (w.heap.size + 1 + 1) gl (.slice A0 l.length c0) n m W) ∧ (L 7 = true → MnE w (w.heap.size + 1 + 1) r W) ∧ (L 7 = false → L 3 = true → OfP w p (V 3)) ∧ (L 7 = false → L 5 = true → OfP w (x) (V 5)) ∧ (L 7 = false → L 6 = true → StV w.heap.size r W (V 6))) ?_ ⟨?_, ?_, ?_, ?_, ?_, ?_, ?_, ?_, ?_, trivial⟩ ?_
      ·refine ⟨fun j => a0.tmps.getD (([54, 55, 56, 57, 58, 59, 60, 0, 7] : List Nat).getD j 0) undef, ?_, Vals.no _ _ _ (far_none _ _ rfl), fun _ => HJ.out.ext (Ext.refl _).drew, fun h0 => absurd h0 (by decide), fun h0 h1 => absurd h1 (by decide), fun h0 h1 => absurd h1 (by decide), fun h0 h1 => absurd h1 (by decide)⟩
       rw [HFR.out, ha0]
       rfl
      all_goals clear ha0
      ·rintro L A W K hL hC hW ⟨V, rfl, HV, s0, s1, f3, f5, f6⟩ hK
       have hB := s0 (hC.no (hC.no hL 6 _ rfl rfl) 7 _ rfl rfl)
       have H := Lib.hid (show ∀ W', Ext W W' → K (fr (upd V 0 (.agg #[.slice A0 l.length c0]))) W' from fun W' he => hK _ _ ⟨_, rfl, HV.us 0 _ rfl, fun h0 => MnK.ext (s0 (mnf h0 rfl)) he, fun h0 => MnE.ext (s1 (more_ne h0 rfl)) he, fun h0 h1 => keepP (f3 (mnf h0 rfl) (more_ne h1 rfl)) he, fun h0 h1 => keepP (f5 (mnf h0 rfl) (more_ne h1 rfl)) he, fun h0 h1 => StV.ext (f6 (mnf h0 rfl) (more_ne h1 rfl)) he⟩)
       clear hK hC hW hL HV s0 s1 f3 f5 f6
       rw [HFR.out]
       have hcl : W.cell? ⟨w.heap.size, 0, none⟩ = some (.slice A0 l.length c0) := hB.1.1.cell 0 _ rfl
       clear hB
       go_wp2_with fail
       show K _ _; have := H.out _ (Ext.refl _); rw [HFR.out] at this
       exact this
      ·rintro L A W K hL hC hW ⟨V, rfl, HV, s0, s1, f3, f5, f6⟩ hK
       have hB := s0 (hC.no (hC.no (hC.no (hC.no hL 3 _ rfl rfl) 5 _ rfl rfl) 6 _ rfl rfl) 7 _ rfl rfl)
       have H := Lib.hid (show ∀ W', Ext W W' → K (fr (upd V 1 (.agg #[.slice A0 l.length c0]))) W' from fun W' he => hK _ _ ⟨_, rfl, HV.us 1 _ rfl, fun h0 => MnK.ext (s0 (mnf h0 rfl)) he, fun h0 => MnE.ext (s1 (more_ne h0 rfl)) he, fun h0 h1 => keepP (f3 (mnf h0 rfl) (more_ne h1 rfl)) he, fun h0 h1 => keepP (f5 (mnf h0 rfl) (more_ne h1 rfl)) he, fun h0 h1 => StV.ext (f6 (mnf h0 rfl) (more_ne h1 rfl)) he⟩)
       clear hK hC hW hL HV s0 s1 f3 f5 f6
       rw [HFR.out]
       have hcl : W.cell? ⟨w.heap.size, 0, none⟩ = some (.slice A0 l.length c0) := hB.1.1.cell 0 _ rfl
       clear hB
       go_wp2_with fail
       show K _ _; have := H.out _ (Ext.refl _); rw [HFR.out] at this
       exact this
      ·rintro L A W K hL hC hW ⟨V, rfl, HV, s0, s1, f3, f5, f6⟩ hK
       have H := Lib.hid (show ∀ W', Ext W W' → K (fr (upd V 2 (.int .u64 (a : Nat)))) W' from fun W' he => hK _ _ ⟨_, rfl, HV.us 2 _ rfl, fun h0 => MnK.ext (s0 (mnf h0 rfl)) he, fun h0 => MnE.ext (s1 (more_ne h0 rfl)) he, fun h0 h1 => keepP (f3 (mnf h0 rfl) (more_ne h1 rfl)) he, fun h0 h1 => keepP (f5 (mnf h0 rfl) (more_ne h1 rfl)) he, fun h0 h1 => StV.ext (f6 (mnf h0 rfl) (more_ne h1 rfl)) he⟩)
       clear hK hC hW hL HV s0 s1 f3 f5 f6
       rw [HFR.out]
       go_wp2_with fail
       show K _ _; have := H.out _ (Ext.refl _); rw [HFR.out] at this
       exact this
      ·rintro L A W K hL hC hW ⟨V, rfl, HV, s0, s1, f3, f5, f6⟩ hK
       have e1 := HV 1 _ rfl (hW 1 rfl)
       have e2 := HV 2 _ rfl (hW 2 rfl)
       have hB := s0 (hC.no (hC.no (hC.no hL 5 _ rfl rfl) 6 _ rfl rfl) 7 _ rfl rfl)
       have H := Lib.hid (show ∀ v W', Ext W W' → (OfP w p v) → K (fr (upd V 3 v)) W' from fun v W' he hp => hK _ _ ⟨_, rfl, HV.un 3 _ rfl, fun h0 => MnK.ext (s0 (mnf h0 rfl)) he, fun h0 => MnE.ext (s1 (more_ne h0 rfl)) he, fun h0 h1 => hp, fun h0 h1 => keepP (f5 (mnf h0 rfl) (more_ne h1 rfl)) he, fun h0 h1 => StV.ext (f6 (mnf h0 rfl) (more_ne h1 rfl)) he⟩)
       have HU := Lib.hid (show ∀ v, (upd V 3 v) 1 = .agg #[.slice A0 l.length c0] ∧ (upd V 3 v) 2 = .int .u64 (a : Nat) from fun v => ⟨e1, e2⟩)
       clear hK hC hW hL HV s0 s1 f3 f5 f6
       rw [HFR.out, e1, e2]
       clear e1 e2
       have HB := Lib.hid hB
       clear hB
       go_wp2_with fail
       refine (HOFp.out _ HB.out.1.2.2.2).mono ?_
       rintro e wx ⟨u', v', rfl, hu', hv', he⟩
       have := H.out _ _ he (⟨u', v', rfl, hu', hv'⟩)
       clear H
       go_wp2_with fail
       show K _ _
       rw [HFR.out] at this
       obtain ⟨u1, u2⟩ := HU.out _
       rw [u1, u2] at this
       exact this
      ·rintro L A W K hL hC hW ⟨V, rfl, HV, s0, s1, f3, f5, f6⟩ hK
       have hB := s0 (hC.no (hC.no (hC.no hL 5 _ rfl rfl) 6 _ rfl rfl) 7 _ rfl rfl)
       have H := Lib.hid (show ∀ W', Ext W W' → K (fr (upd V 4 (wv m))) W' from fun W' he => hK _ _ ⟨_, rfl, HV.us 4 _ rfl, fun h0 => MnK.ext (s0 (mnf h0 rfl)) he, fun h0 => MnE.ext (s1 (more_ne h0 rfl)) he, fun h0 h1 => keepP (f3 (mnf h0 rfl) (more_ne h1 rfl)) he, fun h0 h1 => keepP (f5 (mnf h0 rfl) (more_ne h1 rfl)) he, fun h0 h1 => StV.ext (f6 (mnf h0 rfl) (more_ne h1 rfl)) he⟩)
       clear hK hC hW hL HV s0 s1 f3 f5 f6
       rw [HFR.out]
       have HWD := Lib.hid hB.2
       clear hB
       refine wpList_load_word rfl 31 28 (.tmp 12) rfl Try.underlying31 winfo gl m rfl HWD.out ?_
       show K _ _; have := H.out _ (Ext.refl _); rw [HFR.out] at this
       exact this
      ·rintro L A W K hL hC hW ⟨V, rfl, HV, s0, s1, f3, f5, f6⟩ hK
       have e4 := HV 4 _ rfl (hW 4 rfl)
       have hB := s0 (hC.no (hC.no hL 6 _ rfl rfl) 7 _ rfl rfl)
       have q3 := f3 (hC.no (hC.no hL 6 _ rfl rfl) 7 _ rfl rfl) (hW 3 rfl)
       obtain ⟨u3, v3, e3, y3, z3⟩ := q3
       have H := Lib.hid (show ∀ v W', Ext W W' → (OfP w (x) v) → K (fr (upd V 5 v)) W' from fun v W' he hp => hK _ _ ⟨_, rfl, HV.un 5 _ rfl, fun h0 => MnK.ext (s0 (mnf h0 rfl)) he, fun h0 => MnE.ext (s1 (more_ne h0 rfl)) he, fun h0 h1 => keepP (f3 (mnf h0 rfl) (more_ne h1 rfl)) he, fun h0 h1 => hp, fun h0 h1 => StV.ext (f6 (mnf h0 rfl) (more_ne h1 rfl)) he⟩)
       have HU := Lib.hid (show ∀ v, (upd V 5 v) 3 = .agg (acc p u3 v3) ∧ (upd V 5 v) 4 = wv m from fun v => ⟨e3, e4⟩)
       clear hK hC hW hL HV s0 s1 f3 f5 f6
       rw [HFR.out, e3, e4]
       clear e3 e4
       clear hB
       have Y1 := Lib.hid y3
       have Y2 := Lib.hid z3
       clear y3 z3
       go_wp2_with fail
       refine (HPDx.out u3 v3 _ (bs_one Y1.out) (pks_one Y2.out)).mono ?_
       rintro e wx ⟨rfl, he⟩
       have := H.out _ _ he (⟨_, _, rfl, by rw [HXCx.out.1]; exact Y1.out, by rw [HXCx.out.2]; exact Y2.out⟩)
       clear H
       go_wp2_with fail
       show K _ _
       rw [HFR.out] at this
       obtain ⟨u3, u4⟩ := HU.out _
       rw [u3, u4] at this
       exact this
      ·rintro L A W K hL hC hW ⟨V, rfl, HV, s0, s1, f3, f5, f6⟩ hK
       have e0 := HV 0 _ rfl (hW 0 rfl)
       have hB := s0 (hC.no hL 7 _ rfl rfl)
       have q5 := f5 (hC.no hL 7 _ rfl rfl) (hW 5 rfl)
       obtain ⟨u5, v5, e5, y5, z5⟩ := q5
       have H := Lib.hid (show ∀ v W', Ext W W' → (StV w.heap.size r W' v) → K (fr (upd V 6 v)) W' from fun v W' he hp => hK _ _ ⟨_, rfl, HV.un 6 _ rfl, fun h0 => MnK.ext (s0 (mnf h0 rfl)) he, fun h0 => MnE.ext (s1 (more_ne h0 rfl)) he, fun h0 h1 => keepP (f3 (mnf h0 rfl) (more_ne h1 rfl)) he, fun h0 h1 => keepP (f5 (mnf h0 rfl) (more_ne h1 rfl)) he, fun h0 h1 => hp⟩)
       have HU := Lib.hid (show ∀ v, (upd V 6 v) 0 = .agg #[.slice A0 l.length c0] ∧ (upd V 6 v) 5 = .agg (acc (x) u5 v5) from fun v => ⟨e0, e5⟩)
       clear hK hC hW hL HV s0 s1 f3 f5 f6
       rw [HFR.out, e0, e5]
       clear e0 e5
       have HB := Lib.hid hB
       clear hB
       have Y1 := Lib.hid y5
       have Y2 := Lib.hid z5
       clear y5 z5
       go_wp2_with fail
       refine (HWI.out u5 v5 _ HB.out.1.2.2.2 Y1.out Y2.out).mono ?_
       rintro e wx ⟨v', rfl, hr, he⟩
       have := H.out _ _ he (WIV.out _ _ (hr.low HB.out.1.2.2.2.size))
       clear H
       go_wp2_with fail
       show K _ _
       rw [HFR.out] at this
       obtain ⟨u0, u5⟩ := HU.out _
       rw [u0, u5] at this
       exact this
      ·rintro L A W K hL hC hW ⟨V, rfl, HV, s0, s1, f3, f5, f6⟩ hK
       have hB := s0 hL
       have q6 := f6 hL (hW 6 rfl)
       obtain ⟨A6, c6, e6, k6⟩ := q6
       have H := Lib.hid (show ∀ W', (MnE w (w.heap.size + 1 + 1) r W') → K (fr (V)) W' from fun W' hA => hK _ _ ⟨V, rfl, HV.st 7 rfl, fun h0 => msf h0, fun h0 => hA, fun h0 h1 => msf h0, fun h0 h1 => msf h0, fun h0 h1 => msf h0⟩)
       have HU := Lib.hid (show (V) 6 = .agg #[.slice A6 r.1.length c6] from e6)
       clear hK hC hW hL HV s0 s1 f3 f5 f6
       rw [HFR.out, e6]
       clear e6
       have HB := Lib.hid hB
       have KH := Lib.hid k6
       have hc : W.cell? ⟨(w.heap.size + 1 + 1), 0, none⟩ = some (.slice none 0 0) := hB.1.2.2.1.cell 0 _ rfl
       have hf : W.frozen? ⟨(w.heap.size + 1 + 1), 0, none⟩ = false := hB.1.2.2.1.frozen 0
       clear hB k6
       go_wp2_with fail
       have HA := Lib.hid (HB.out.1.done (r := r) (by omega) KH.out)
       show K _ _; have := H.out _ HA.out; rw [HFR.out] at this
       obtain u6 := HU.out
       rw [u6] at this
       exact this
      ·rintro L A W K hL hC hW ⟨V, rfl, HV, s0, s1, f3, f5, f6⟩ hK
       have H := Lib.hid (show ∀ W', Ext W W' → K (fr (upd V 8 (.int .i64 0))) W' from fun W' he => hK _ _ ⟨_, rfl, HV.us 8 _ rfl, fun h0 => MnK.ext (s0 (mnf h0 rfl)) he, fun h0 => MnE.ext (s1 (more_ne h0 rfl)) he, fun h0 h1 => keepP (f3 (mnf h0 rfl) (more_ne h1 rfl)) he, fun h0 h1 => keepP (f5 (mnf h0 rfl) (more_ne h1 rfl)) he, fun h0 h1 => StV.ext (f6 (mnf h0 rfl) (more_ne h1 rfl)) he⟩)
       clear hK hC hW hL HV s0 s1 f3 f5 f6
       rw [HFR.out]
       go_wp2_with fail
       show K _ _; have := H.out _ (Ext.refl _); rw [HFR.out] at this
       exact this
      ·rintro L A W hL ⟨V, rfl, HV, s0, s1, f3, f5, f6⟩
       have e0 := HV 0 _ rfl (hL 0 (by simp))
       have e1 := HV 1 _ rfl (hL 1 (by simp))
       have e2 := HV 2 _ rfl (hL 2 (by simp))
       have e4 := HV 4 _ rfl (hL 4 (by simp))
       have e8 := HV 8 _ rfl (hL 8 (by simp))
       have hA := s1 (hL 7 (by simp))
       rw [HFR.out, e0, e1, e2, e4, e8]
       clear hL HV HFR e0 e1 e2 e4 e8 s0 s1 f3 f5 f6
       obtain ⟨A9, c9, h1', h2', h3'⟩ := hA
       have H1 := Lib.hid h1'
       have H2 := Lib.hid h2'
       have H3 := Lib.hid h3'
       clear h1' h2' h3'
       go_wp2_with fail
       refine bodyPost_ret (results_st_err Try.results47 _ _ (w.heap.size + 1 + 1) (.slice A9 r.1.length c9) rfl H1.out) rfl ?_
       exact ⟨_, by rw [HF.out, HR0.out]; rfl, by rw [HF.out]; exact H2.out, H3.out⟩
end Go.Proofs.Ytiojfpdjnblkhaa
