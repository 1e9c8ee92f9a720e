/- Package state: Check. -/
import Derived.Test.YtnjpdchmdimaaaaGreatQStg
import Derived.Test.YtnjpdchmdimaaaaGreatQStc
import Derived.WalkMore
import Derived.AtR
namespace Go.Proofs.YtnjpdchmdimaaaaGreat
open Go.ChangeShapes Go.WideShapes Go.ChangeAt Go.RowKit Go.Shelf
attribute [local go_sem] Oper.semAt_some

section
variable {F : Fence} {n : Nat} {P : Program} {Q : Exit → Act → World → Prop} {a : Act} {w : World} {b : Frame} {k : List Item} {cs : List Frame}
theorem stepR_scope {c : Code} : step P (lone (b.atR a (.code (.scope c) :: k)) cs w) = .next (lone (b.atR a (.code c :: .inScope c :: k)) cs w) := step_lone_go (by simp [stepG, stepG.exec, Frame.atR])
theorem stepR_inScope {c : Code} : step P (lone (b.atR a (.inScope c :: k)) cs w) = .next (lone (b.atR a k) cs w) := step_lone_go (by simp [stepG, stepG.exec, Frame.atR])
theorem wpIn_scope_straight {c : Code} (h : c.wpIn F n P (Exit.noGoto Q) a w) : (Code.scope c).wpIn F n P Q a w := by
 intro b k cs hro hb hr
 have h0 : (lone (b.atR a (.code (.scope c) :: k)) cs w).fenced P F := fenced_calm hb hr rfl
 obtain ⟨e, a₁, w₁, hq, harr⟩ := h b (.inScope c :: k) cs hro hb hr
 cases e with
 | normal => exact ⟨.normal, a₁, w₁, hq, .head h0 stepR_scope (StepsIn.trans harr (.one (fenced_calm hb hr rfl) stepR_inScope))⟩
 | exit id =>
  have hx : exitTo id (.inScope c :: k) = exitTo id k := by simp [exitTo]
  exact ⟨_, a₁, w₁, hq, fun k' hk => .head h0 stepR_scope (harr.1 k' (by rw [hx]; exact hk)), fun hr' hk => let ⟨k₁, h1, h2⟩ := harr.2 hr' (by rw [hx]; exact hk); ⟨k₁, h1, .head h0 stepR_scope h2⟩⟩
 | goto l => exact hq.elim
 | ret => exact ⟨_, a₁, w₁, hq, .of_steps (.one h0 stepR_scope) harr⟩
 | panic ch => exact ⟨_, a₁, w₁, hq, .of_steps (.one h0 stepR_scope) harr⟩
 | outgrown => exact ⟨_, a₁, w₁, hq, .of_steps (.one h0 stepR_scope) harr⟩
end

def chS (s : Option (Nat × Nat)) (p : Ac) : Option (Nat × Nat) := match s with
 | none => none
 | some (f, last) => if p.addr ≤ last then none else if p.emptyB then none else if p.rightB = false then none else if p.addr < 16 then some (f, p.addr) else if f = 24 then none else some (f + 1, p.addr)
def chL (l : List Ac) : Option (Nat × Nat) := l.foldl chS (some (0, 0))
theorem chL_snoc (l : List Ac) (p : Ac) : chL (l ++ [p]) = chS (chL l) p := by simp [chL]
theorem chS_none (l : List Ac) : l.foldl chS none = none := by
 induction l with
 | nil => rfl
 | cons p l ih => exact ih
theorem chL_take (l : List Ac) (k : Nat) (h : chL (l.take k) = none) : chL l = none := by
 unfold chL at h ⊢
 rw [← List.take_append_drop k l, List.foldl_append, h, chS_none]
theorem chL_le : ∀ (l : List Ac) (s : Nat × Nat) (r : Nat × Nat), l.foldl chS (some s) = some r → r.1 ≤ s.1 + l.length
 | [], s, r, h => by simp at h; rw [h]; omega
 | p :: l, (f, t), r, h => by
  simp only [List.foldl_cons] at h
  have hn : ∀ s', chS (some (f, t)) p = some s' → r.1 ≤ s'.1 + l.length := fun s' e => chL_le l s' r (by rw [← e]; exact h)
  cases hc : chS (some (f, t)) p with
  | none => rw [hc, chS_none] at h; cases h
  | some s' =>
   have h1 := hn s' hc
   have h2 : s'.1 ≤ f + 1 := by
    unfold chS at hc
    dsimp only at hc
    repeat' split at hc
    all_goals first | (cases hc; done) | (cases hc; simp; done) | (cases hc; simp)
   simp only [List.length_cons]
   omega
def rightL (l : List Ac) : Bool := (chL l).isSome && !(sumW (bals l)).2
def chkE (l : List Ac) : Int := if rightL l then 0 else 160
theorem chkE_none {l : List Ac} (h : chL l = none) : chkE l = 160 := by unfold chkE rightL; rw [h]; rfl
theorem chkE_some {l : List Ac} {r : Nat × Nat} (h : chL l = some r) {b : Bool} (hb : (sumW (bals l)).2 = b) : chkE l = if b then 160 else 0 := by unfold chkE rightL; rw [h, hb]; cases b <;> rfl
def ChJ (gs g3 g4 g5 : Nat) (sv : Value) (n f t : Nat) (W : World) : Prop :=
 Cs W gs 24 #[sv] ∧ Cs W g3 3 #[.int .i64 (n : Nat)] ∧ Cs W g4 3 #[.int .i64 (f : Nat)] ∧ Cs W g5 45 #[.int .u64 (t : Nat)]
theorem ChJ.ext {gs g3 g4 g5 n f t : Nat} {sv : Value} {W W' : World} (h : ChJ gs g3 g4 g5 sv n f t W) (he : Ext W W') : ChJ gs g3 g4 g5 sv n f t W' := ⟨Cs.ext h.1 he, Cs.ext h.2.1 he, Cs.ext h.2.2.1 he, Cs.ext h.2.2.2 he⟩
theorem ChJ.row {gs g3 g4 g5 n f t B : Nat} {sv : Value} {X Y : World} {row : Option Nat} (h : ChJ gs g3 g4 g5 sv n f t X) (hg : X.grownBy Y row) (hr : ∀ r, row = some r → B ≤ r ∧ ∃ o : Obj, X.heap[r]? = some o ∧ o.isCells = false) : ChJ gs g3 g4 g5 sv n f t Y :=
 ⟨row_cs h.1 hg hr, row_cs h.2.1 hg hr, row_cs h.2.2.1 hg hr, row_cs h.2.2.2 hg hr⟩
set_option maxRecDepth 100000 in
set_option maxHeartbeats 2000000 in
theorem stateCheck_any (sv : Value) (l : List Ac) (w : World) (hs : Acs w sv l) (hl : l.length ≤ 100000) :
  Calls Tryz.prog 40 #[.agg #[sv]] w fun e w' => e = .returned (.int .i64 (chkE l)) ∧ Ext w w' := by
 have HS := Lib.hid hs
 obtain ⟨A, c, rfl, h1, h2⟩ := hs.len
 obtain ⟨w0, hw0⟩ : ∃ w0, (((w.alloc (.cells #[.slice A l.length c] 24)).alloc (.cells #[.int .i64 0] 3)).alloc (.cells #[.int .i64 0] 3)).alloc (.cells #[.int .u64 0] 45) = w0 := ⟨_, rfl⟩
 have HJ0 : Hid (ChJ w.heap.size (w.heap.size + 1) (w.heap.size + 1 + 1) (w.heap.size + 1 + 1 + 1) (.slice A l.length c) 0 0 0 w0) := by
  rw [← hw0]
  exact Lib.hid ⟨Cs.alloc (Cs.alloc (Cs.alloc (Cs.new _ _ _ _ rfl) _) _) _, Cs.alloc (Cs.alloc (Cs.new _ _ _ _ (by simp)) _) _, Cs.alloc (Cs.new _ _ _ _ (by simp)) _, Cs.new _ _ _ _ (by simp)⟩
 have HE0 : Hid (Ext w w0) := by rw [← hw0]; exact Lib.hid ((((Ext.refl w).alloc _).alloc _).alloc _ |>.alloc _)
 have c0 : w0.cell? ⟨w.heap.size, 0, none⟩ = some (.slice A l.length c) := HJ0.out.1.cell 0 _ rfl
 have HW0 := Lib.hid hw0
 clear hs hw0
 refine (callsIn_wide (n := 9)).1 ?_
 refine callsIn_of_wp_marks Tryz.func40 rfl trivial ?_ rfl
 simp only [Tryz.ntmps40, List.size_toArray, List.length_cons, List.length_nil, Nat.reduceAdd, Nat.reduceSub, Array.replicate_succ, Array.replicate_zero, List.push_toArray, List.append_toArray, List.nil_append, List.cons_append]
 gi_wp2_with fail
 apply wpIn_scope_straight
 gi_wp2_with fail
 rw [HW0.out]
 apply wpIn_label
 gi_wp2_with fail
 refine ⟨trivial, ?_⟩
 refine (callsIn_wide.2 (accounts_any _ rfl _)).mono ?_
 rintro e w1 ⟨rfl, hc, hz, he⟩
 have HJ1 := Lib.hid (HJ0.out.ext he)
 have HE1 := Lib.hid (HE0.out.trans he)
 have HG1 := Lib.hid (show w.heap.size + 1 + 1 + 1 < w1.heap.size from Cs.lt HJ1.out.2.2.2)
 clear HJ0 HE0 hz he c0 HW0
 gi_wp2_with fail
 refine range_acs A c w0.heap.size l HS.out HE1.out hc rfl
  (fun ys W => ∃ r, chL ys = some r ∧ ChJ w.heap.size (w.heap.size + 1) (w.heap.size + 1 + 1) (w.heap.size + 1 + 1 + 1) (.slice A l.length c) ys.length r.1 r.2 W)
  (fun c0 ys W => c0 = .exit 0 ∧ chL ys = none ∧ (∃ n f t, ys.length = n + 1 ∧ ChJ w.heap.size (w.heap.size + 1) (w.heap.size + 1 + 1) (w.heap.size + 1 + 1 + 1) (.slice A l.length c) n f t W) ∧ Ext w W)
  (fun ys X Y row hs hg hr => by
   obtain ⟨r, h1, h2⟩ := hs
   exact ⟨r, h1, h2.row hg hr⟩)
  (fun c ys X Y row hs hg hr => by
   obtain ⟨h0, h1, ⟨n, f, t, h2, h3⟩, h4⟩ := hs
   exact ⟨h0, h1, ⟨n, f, t, h2, h3.row hg hr⟩, row_ext h4 (by have := HG1.out; omega) hg hr⟩)
  ⟨(0, 0), rfl, HJ1.out⟩ 6 ?assign ?body ?done ?stop
 case assign =>
  intro lp p u v W K hu hv hK
  have HK := Lib.hid hK
  clear hK
  gi_wp2_with (first
   | ((with_reducible refine wpListIn_store_ac ?_ ?_ (.tmp 6) (.tmp 11) ?_ W.heap.size az0 p u v ?_ ?_ ?_ ?_ ?_ ?_ ?_); (exact rfl); (exact rfl); (exact rfl); (exact hu); (exact hv); (exact rfl); (exact rfl); (exact Cs.new _ _ _ _ rfl); (exact rfl); intro w4 k4 g4; have K4 := Lib.hid (HK.out _ k4 (((Ext.refl W).alloc _).grown g4 (Nat.le_refl _))); clear k4 g4)
   | fail)
  exact K4.out
 case body =>
  rintro lp ys p u v B W hB hp hok hu hv hlen ⟨⟨f, t⟩, hch, hJ⟩ hE hA
  simp only [List.setIfInBounds_toArray, List.set_cons_zero, List.set_cons_succ]
  dsimp only at hJ
  have HHH := Lib.hid (chL_snoc ys p)
  rw [hch] at HHH
  have hf : f ≤ 100000 := by
   have := chL_le ys (0, 0) (f, t) hch
   dsimp only at this
   omega
  have HLN := Lib.hid (show (ys ++ [p]).length = ys.length + 1 by simp)
  have HB := Lib.hid hB
  clear hch HJ1 hc hB
  have HJ := Lib.hid hJ
  have HA := Lib.hid hA
  have HE := Lib.hid hE
  have HU := Lib.hid hu
  have HV := Lib.hid hv
  have c1 := hA.addr
  have c5 : W.cell? ⟨w.heap.size + 1 + 1 + 1, 0, none⟩ = some (.int .u64 (t : Nat)) := hJ.2.2.2.cell 0 _ rfl
  clear hJ hA hE hu hv
  by_cases e1 : p.addr ≤ t
  ·have d1 : decide ((p.addr : Int) ≤ (t : Int)) = true := decide_eq_true (by omega)
   have d1' : decide (p.addr ≤ t) = true := decide_eq_true e1
   have HN := Lib.hid (show chL (ys ++ [p]) = none by rw [HHH.out]; simp [chS, e1])
   clear e1
   gi_wp2_with fail
   refine ⟨(KeepsOthers.refl _).from _, rfl, HN.out, ⟨ys.length, f, t, HLN.out, HJ.out⟩, HE.out⟩
  ·have d1 : decide ((p.addr : Int) ≤ (t : Int)) = false := decide_eq_false (by omega)
   have d1' : decide (p.addr ≤ t) = false := decide_eq_false e1
   gi_wp2_with (first
    | ((with_reducible refine wpListIn_load_ac ?_ (.tmp 6) ?_ B 0 p u v ?_ ?_ ?_); (exact rfl); (exact rfl); (exact rfl); (exact HA.out.range))
    | fail)
   refine ⟨trivial, ?_⟩
   refine (CallsIn.inRound _ (callsIn_wide.2 (empty_any p u v _ hok (HU.out.ext HE.out) (HV.out.ext HE.out)))).mono ?_
   rintro e w2 ⟨rfl, he⟩
   have HX2 := Lib.hid he
   have HA2 := Lib.hid (Ab.ext HA.out he)
   clear he
   cases e2 : p.emptyB with
   | true =>
    have HN := Lib.hid (show chL (ys ++ [p]) = none by rw [HHH.out]; simp [chS, e1, e2])
    clear e1 e2
    gi_wp2_with fail
    refine ⟨(keeps_ext HX2.out).from _, rfl, HN.out, ⟨ys.length, f, t, HLN.out, HJ.out.ext HX2.out⟩, HE.out.trans HX2.out⟩
   | false =>
    gi_wp2_with (first
     | ((with_reducible refine wpListIn_load_ac ?_ (.tmp 6) ?_ B 0 p u v ?_ ?_ ?_); (exact rfl); (exact rfl); (exact rfl); (exact HA2.out.range))
     | fail)
    refine ⟨trivial, ?_⟩
    refine (CallsIn.inRound _ (callsIn_wide.2 (checkAccount_any p u v _ hok (HU.out.ext (HE.out.trans HX2.out)) (HV.out.ext (HE.out.trans HX2.out))))).mono ?_
    rintro e w3 ⟨rfl, he⟩
    have HX3 := Lib.hid (HX2.out.trans he)
    have HA3 := Lib.hid (Ab.ext HA2.out he)
    have HJ3 := Lib.hid (HJ.out.ext HX3.out)
    have HE3 := Lib.hid (HE.out.trans HX3.out)
    have HES := Lib.hid HE.out.size
    clear he HA HA2 HX2 HJ HE
    cases e3 : p.rightB with
    | false =>
     rw [ckE_no _ e3]
     have HN := Lib.hid (show chL (ys ++ [p]) = none by rw [HHH.out]; simp [chS, e1, e2, e3])
     clear e1 e2 e3
     gi_wp2_with fail
     refine ⟨(keeps_ext HX3.out).from _, rfl, HN.out, ⟨ys.length, f, t, HLN.out, HJ3.out⟩, HE3.out⟩
    | true =>
     rw [ckE_yes _ e3]
     have c1' := HA3.out.addr
     have c3 : w3.cell? ⟨w.heap.size + 1, 0, none⟩ = some (.int .i64 (ys.length : Nat)) := HJ3.out.2.1.cell 0 _ rfl
     have c4 : w3.cell? ⟨w.heap.size + 1 + 1, 0, none⟩ = some (.int .i64 (f : Nat)) := HJ3.out.2.2.1.cell 0 _ rfl
     have c5' : w3.cell? ⟨w.heap.size + 1 + 1 + 1, 0, none⟩ = some (.int .u64 (t : Nat)) := HJ3.out.2.2.2.cell 0 _ rfl
     have f3 : w3.frozen? ⟨w.heap.size + 1, 0, none⟩ = false := HJ3.out.2.1.frozen 0
     have f4 : w3.frozen? ⟨w.heap.size + 1 + 1, 0, none⟩ = false := HJ3.out.2.2.1.frozen 0
     have f5 : w3.frozen? ⟨w.heap.size + 1 + 1 + 1, 0, none⟩ = false := HJ3.out.2.2.2.frozen 0
     have HYL := Lib.hid (show ys.length + 1 ≤ 100000 by omega)
     generalize hyl : ys.length = yl at *
     have hylb : yl ≤ 100000 := by have := HYL.out; omega
     gi_wp2_with fail
     refine ⟨trivial, ?_⟩
     refine (CallsIn.inRound _ (callsIn_wide.2 (kept16_any p.addr _))).mono ?_
     rintro e w5 ⟨rfl, rfl⟩
     have hpa : p.addr < 18446744073709551616 := hok.1
     by_cases e4 : p.addr < 16
     ·rw [decide_eq_true e4]
      have HN := Lib.hid (show chL (ys ++ [p]) = some (f, p.addr) by rw [HHH.out]; simp [chS, e1, e2, e3, e4])
      clear e1 e2 e3 e4 d1 d1'
      gi_wp2_with fail
      refine ⟨((keeps_ext HX3.out).trans ((KeepsOthers.setCell _ _ _).trans (KeepsOthers.setCell _ _ _))).from _, ?_, (f, p.addr), HN.out, ?_⟩
      ·exact (((HX3.out.mono HES.out)).setCell (p := ⟨w.heap.size + 1 + 1 + 1, 0, none⟩) (show w.heap.size ≤ w.heap.size + 1 + 1 + 1 by omega) _).setCell (p := ⟨w.heap.size + 1, 0, none⟩) (show w.heap.size ≤ w.heap.size + 1 by omega) _
      ·rw [HLN.out]
       have k4 := Cs.kept (Cs.kept HJ3.out.2.2.1 (grown_set _ (w.heap.size + 1 + 1 + 1) 0 (.int .u64 (p.addr : Nat))) (some_ne (by omega))) (grown_set _ (w.heap.size + 1) 0 (.int .i64 ((yl : Int) + 1))) (some_ne (by omega))
       have k5 := Cs.kept (Cs.set HJ3.out.2.2.2 0 (.int .u64 (p.addr : Nat))) (grown_set _ (w.heap.size + 1) 0 (.int .i64 ((yl : Int) + 1))) (some_ne (by omega))
       have k3 := Cs.set (Cs.kept HJ3.out.2.1 (grown_set _ (w.heap.size + 1 + 1 + 1) 0 (.int .u64 (p.addr : Nat))) (some_ne (by omega))) 0 (.int .i64 ((yl : Int) + 1))
       have k1 := Cs.kept (Cs.kept HJ3.out.1 (grown_set _ (w.heap.size + 1 + 1 + 1) 0 (.int .u64 (p.addr : Nat))) (some_ne (by omega))) (grown_set _ (w.heap.size + 1) 0 (.int .i64 ((yl : Int) + 1))) (some_ne (by omega))
       exact ⟨k1, by simpa using k3, k4, by simpa using k5⟩
     ·rw [decide_eq_false e4]
      by_cases e5 : f = 24
      ·subst e5
       have HN := Lib.hid (show chL (ys ++ [p]) = none by rw [HHH.out]; simp [chS, e1, e2, e3, e4])
       clear e1 e2 e3 e4 d1 d1'
       gi_wp2_with fail
       refine ⟨(keeps_ext HX3.out).from _, rfl, HN.out, ⟨yl, 24, t, HLN.out, HJ3.out⟩, HE3.out⟩
      ·have HN := Lib.hid (show chL (ys ++ [p]) = some (f + 1, p.addr) by rw [HHH.out]; simp [chS, e1, e2, e3, e4, e5])
       have d5 : ((f : Int) == 24) = false := by simp; omega
       have d5' : (f == 24) = false := by simpa using e5
       clear e1 e2 e3 e4 d1 d1'
       have c6 : (w3.setCell ⟨w.heap.size + 1 + 1, 0, none⟩ (.int .i64 ((f : Int) + 1))).cell? ⟨B, 0, none⟩ = some (.int .u64 (p.addr : Nat)) := (Cs.kept HA3.out (grown_set _ _ _ _) (some_ne (by have := HB.out; have := HG1.out; omega))).cell 0 _ rfl
       gi_wp2_with fail
       refine ⟨(((keeps_ext HX3.out).trans (KeepsOthers.setCell _ _ _)).trans ((KeepsOthers.setCell _ _ _).trans (KeepsOthers.setCell _ _ _))).from _, ?_, (f + 1, p.addr), HN.out, ?_⟩
       ·exact (((HX3.out.mono HES.out).setCell (p := ⟨w.heap.size + 1 + 1, 0, none⟩) (show w.heap.size ≤ w.heap.size + 1 + 1 by omega) _).setCell (p := ⟨w.heap.size + 1 + 1 + 1, 0, none⟩) (show w.heap.size ≤ w.heap.size + 1 + 1 + 1 by omega) _).setCell (p := ⟨w.heap.size + 1, 0, none⟩) (show w.heap.size ≤ w.heap.size + 1 by omega) _
       ·rw [HLN.out]
        have k4 := Cs.kept (Cs.kept (Cs.set HJ3.out.2.2.1 0 (.int .i64 ((f : Int) + 1))) (grown_set _ (w.heap.size + 1 + 1 + 1) 0 (.int .u64 (p.addr : Nat))) (some_ne (by omega))) (grown_set _ (w.heap.size + 1) 0 (.int .i64 ((yl : Int) + 1))) (some_ne (by omega))
        have k5 := Cs.kept (Cs.set (Cs.kept HJ3.out.2.2.2 (grown_set _ (w.heap.size + 1 + 1) 0 (.int .i64 ((f : Int) + 1))) (some_ne (by omega))) 0 (.int .u64 (p.addr : Nat))) (grown_set _ (w.heap.size + 1) 0 (.int .i64 ((yl : Int) + 1))) (some_ne (by omega))
        have k3 := Cs.set (Cs.kept (Cs.kept HJ3.out.2.1 (grown_set _ (w.heap.size + 1 + 1) 0 (.int .i64 ((f : Int) + 1))) (some_ne (by omega))) (grown_set _ (w.heap.size + 1 + 1 + 1) 0 (.int .u64 (p.addr : Nat))) (some_ne (by omega))) 0 (.int .i64 ((yl : Int) + 1))
        have k1 := Cs.kept (Cs.kept (Cs.kept HJ3.out.1 (grown_set _ (w.heap.size + 1 + 1) 0 (.int .i64 ((f : Int) + 1))) (some_ne (by omega))) (grown_set _ (w.heap.size + 1 + 1 + 1) 0 (.int .u64 (p.addr : Nat))) (some_ne (by omega))) (grown_set _ (w.heap.size + 1) 0 (.int .i64 ((yl : Int) + 1))) (some_ne (by omega))
        exact ⟨k1, by simpa using k3, by simpa using k4, by simpa using k5⟩
 case done =>
  rintro D W hD ⟨⟨f, t⟩, hch, hJ⟩ hE hK
  have c1 : W.cell? ⟨w.heap.size, 0, none⟩ = some (.slice A l.length c) := hJ.1.cell 0 _ rfl
  have c3 : W.cell? ⟨w.heap.size + 1, 0, none⟩ = some (.int .i64 (l.length : Nat)) := hJ.2.1.cell 0 _ rfl
  have HCH := Lib.hid (fun b hb => chkE_some (b := b) hch hb)
  have HK := Lib.hid hK
  have HE := Lib.hid hE
  have HDW := Lib.hid (show w.heap.size < D by have := HG1.out; omega)
  clear hch hJ hE hK hc HJ1
  gi_wp2_with fail
  refine ⟨trivial, ?_⟩
  refine (callsIn_wide.2 (stateSum_any _ (.slice none 0 0) l [] _ (HS.out.ext HE.out) ⟨none, 0, rfl, Nat.le_refl _, by unfold maxLen; omega, fun h => absurd h (by simp), fun i hi => absurd hi (by simp)⟩ hl (by simp))).mono ?_
  rintro e w2 ⟨rfl, he⟩
  rw [List.nil_append]
  have HE2 := Lib.hid (HE.out.trans he)
  have HK2 := Lib.hid (Ext.block he HK.out)
  clear he HE HK c1 c3
  obtain ⟨⟨sm, b⟩, hsm⟩ : ∃ sm, sumW (bals l) = sm := ⟨_, rfl⟩
  have HC2 := Lib.hid (HCH.out b (by rw [hsm]))
  rw [hsm]
  clear hsm HCH
  dsimp only
  cases b with
  | true =>
   gi_wp2_with (first
    | ((with_reducible refine wpListIn_store_word ?_ ?_ 75 (.tmp 7) (.tmp 43) ?_ winfo w2.heap.size (wc 0) sm ?_ ?_ ?_ ?_ ?_); (exact rfl); (exact rfl); (exact rfl); (exact rfl); (exact rfl); (exact Cs.new _ _ _ _ rfl); (exact rfl); intro w7 k7 g7; have HE7 := Lib.hid (((Ext.refl w2).alloc _).grown g7 (Nat.le_refl _)); clear k7 g7)
    | fail)
   try rw [Exit.noGoto_ret]
   refine ⟨by simp, .inl ⟨_, _, rfl, run_takeDeferred (Ext.block HE7.out HK2.out), ?_⟩⟩
   have hp := grownBy_putObj' w7 D (.deferred none)
   exact ⟨_, results_tmp rfl _ _ _, by rw [HC2.out]; rfl, (HE2.out.trans HE7.out).grown hp (by have := HDW.out; omega)⟩
  | false =>
   gi_wp2_with (first
    | ((with_reducible refine wpListIn_store_word ?_ ?_ 75 (.tmp 7) (.tmp 43) ?_ winfo w2.heap.size (wc 0) sm ?_ ?_ ?_ ?_ ?_); (exact rfl); (exact rfl); (exact rfl); (exact rfl); (exact rfl); (exact Cs.new _ _ _ _ rfl); (exact rfl); intro w7 k7 g7; have HE7 := Lib.hid (((Ext.refl w2).alloc _).grown g7 (Nat.le_refl _)); clear k7 g7)
    | fail)
   try rw [Exit.noGoto_ret]
   refine ⟨by simp, .inl ⟨_, _, rfl, run_takeDeferred (Ext.block HE7.out HK2.out), ?_⟩⟩
   have hp := grownBy_putObj' w7 D (.deferred none)
   exact ⟨_, results_tmp rfl _ _ _, by rw [HC2.out]; rfl, (HE2.out.trans HE7.out).grown hp (by have := HDW.out; omega)⟩
 case stop =>
  rintro D c0 k W hD hk ⟨rfl, hch, ⟨n, f, t, hn, hJ⟩, hE⟩ hK
  have hnk : n < l.length := by rw [List.length_take] at hn; omega
  have c1 : W.cell? ⟨w.heap.size, 0, none⟩ = some (.slice A l.length c) := hJ.1.cell 0 _ rfl
  have c3 : W.cell? ⟨w.heap.size + 1, 0, none⟩ = some (.int .i64 (n : Nat)) := hJ.2.1.cell 0 _ rfl
  have d1 : decide ((n : Int) < (l.length : Int)) = true := decide_eq_true (by omega)
  have d2 : decide (n < l.length) = true := decide_eq_true hnk
  have HF := Lib.hid (chkE_none (chL_take l _ hch))
  have HK := Lib.hid hK
  have HE := Lib.hid hE
  have HDW := Lib.hid (show w.heap.size < D by have := HG1.out; omega)
  clear hch hJ hE hK hc HJ1 hn
  gi_wp2_with fail
  try rw [Exit.noGoto_ret]
  refine ⟨by simp, .inl ⟨_, _, rfl, run_takeDeferred HK.out, ?_⟩⟩
  have hp := grownBy_putObj' W D (.deferred none)
  exact ⟨_, results_tmp rfl _ _ _, by rw [HF.out]; rfl, HE.out.grown hp (by have := HDW.out; omega)⟩
end Go.Proofs.YtnjpdchmdimaaaaGreat
