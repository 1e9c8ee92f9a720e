/- Package state: room. -/
import Derived.Test.YtiojfpdjnblkhaaQStf
namespace Go.Proofs.Ytiojfpdjnblkhaa
open Go.ChangeShapes Go.WideShapes Go.ChangeAt Go.RowKit Go.Shelf
attribute [local go_sem] Oper.semAt_some

set_option maxRecDepth 100000 in
theorem kept16_any (a : Nat) (w : World) : Calls Try.prog 117 #[.int .u64 (a : Int)] w fun e w' => e = .returned (.bool (decide (a < 16))) ∧ w = w' := by
 have HD := Lib.hid (show Ending.returned (.bool (decide ((a : Int) < 16))) = .returned (.bool (decide (a < 16))) by congr 2; rw [decide_eq_decide]; omega)
 go_enter Try.func117, Try.ntmps117
 go_wp2_with fail
 go_ret
 exact ⟨HD.out, rfl⟩
def freeN (l : List Ac) : Nat := (l.filter fun p => !decide (p.addr < 16)).length
theorem freeN_snoc (l : List Ac) (p : Ac) : freeN (l ++ [p]) = freeN l + (if p.addr < 16 then 0 else 1) := by
 unfold freeN
 rw [List.filter_append, List.length_append]
 by_cases h : p.addr < 16 <;> simp [h]
theorem freeN_le (l : List Ac) : freeN l ≤ l.length := List.length_filter_le _ _
def roomB (l : List Ac) (a : Nat) : Bool := if (accF l a).2 || decide (a < 16) then decide (a ≠ 0) else decide (freeN l < 24)
def RmJ (gs gn : Nat) (sv : Value) (ys : List Ac) (W : World) : Prop := Cs W gs 24 #[sv] ∧ Cs W gn 3 #[.int .i64 (freeN ys : Nat)]
theorem RmJ.own {gs gn B : Nat} {sv : Value} : OwnFrom B (RmJ gs gn sv) := fun _ _ _ _ hs hg hr => ⟨row_cs hs.1 hg hr, row_cs hs.2 hg hr⟩
set_option maxRecDepth 100000 in
set_option maxHeartbeats 2000000 in
theorem roomFor_any (sv : Value) (l : List Ac) (a : Nat) (w : World) (hs : Acs w sv l) (ha : a < 18446744073709551616) (hl : l.length ≤ 100000) :
  Calls Try.prog 81 #[.agg #[sv], .int .u64 (a : Nat)] w fun e w' => e = .returned (.bool (roomB l a)) ∧ Ext w w' := by
 have HS := Lib.hid hs
 have HAK := Lib.hid (accF_ok hs a ha)
 obtain ⟨A, c, rfl, h1, h2⟩ := hs.len
 have HJ0 : Hid (Cs (w.alloc (.cells #[.slice A l.length c] 24)) w.heap.size 24 #[.slice A l.length c]) := Lib.hid (Cs.new _ _ _ _ rfl)
 have HE0 := Lib.hid ((Ext.refl w).alloc (.cells #[.slice A l.length c] 24))
 have HSZ := Lib.hid (show (w.alloc (.cells #[.slice A l.length c] 24)).heap.size = w.heap.size + 1 by simp)
 have c0 : (w.alloc (.cells #[.slice A l.length c] 24)).cell? ⟨w.heap.size, 0, none⟩ = some (.slice A l.length c) := HJ0.out.cell 0 _ rfl
 clear hs
 refine (callsIn_wide (n := 9)).1 ?_
 refine callsIn_of_wp_marks Try.func81 rfl trivial ?_ rfl
 simp only [Try.ntmps81, List.size_toArray, List.length_cons, List.length_nil, Nat.reduceAdd, Nat.reduceSub, Array.replicate_succ, Array.replicate_zero, List.push_toArray, List.append_toArray, List.nil_append, List.cons_append]
 gi_wp2_with fail
 refine ⟨trivial, ?_⟩
 generalize w.alloc (.cells #[.slice A l.length c] 24) = w0 at *
 refine (callsIn_wide.2 (account_any _ l a _ (HS.out.ext HE0.out) ha)).mono ?_
 rintro e w1 ⟨u, v, rfl, hu, hv, he⟩
 have HE1 := Lib.hid (HE0.out.trans he)
 have HJ1 := Lib.hid (Cs.ext HJ0.out he)
 have HS1 := Lib.hid (show w.heap.size + 1 ≤ w1.heap.size by rw [← HSZ.out]; exact he.size)
 have HOU := Lib.hid (bs_one hu)
 have HOV := Lib.hid (pks_one hv)
 clear hu hv he HJ0 HE0 c0
 have HRB : Hid (roomB l a = if (accF l a).2 || decide (a < 16) then decide (a ≠ 0) else decide (freeN l < 24)) := Lib.hid rfl
 obtain ⟨⟨p, b⟩, hpb⟩ : ∃ pb, accF l a = pb := ⟨_, rfl⟩
 rw [hpb] at HRB HAK ⊢
 dsimp only at HRB HAK ⊢
 clear hpb
 cases b with
 | true =>
  gi_wp2_with (first
   | ((with_reducible refine wpListIn_store_ac ?_ ?_ (.tmp 5) (.tmp 13) ?_ w1.heap.size az0 p u v ?_ ?_ ?_ ?_ ?_ ?_ ?_); (exact rfl); (exact rfl); (exact rfl); (exact HOU.out); (exact HOV.out); (exact rfl); (exact rfl); (exact Cs.new _ _ _ _ rfl); (exact rfl); intro w4 k4 g4; have HE4 := Lib.hid (HE1.out.trans (((Ext.refl w1).alloc _).grown g4 (Nat.le_refl _))); clear k4 g4)
   | fail)
  have hF := Lib.hid (show roomB l a = decide (a ≠ 0) by rw [HRB.out]; simp)
  have hn : ((a : Int) != 0) = decide (a ≠ 0) := by by_cases h : a = 0 <;> simp [h]
  gi_wp2_with fail
  refine ⟨trivial, ?_⟩
  gi_wp2_with fail
  exact ⟨_, results_tmp rfl _ _ _, by rw [hF.out]; simp, HE4.out⟩
 | false =>
  gi_wp2_with (first
   | ((with_reducible refine wpListIn_store_ac ?_ ?_ (.tmp 5) (.tmp 13) ?_ w1.heap.size az0 p u v ?_ ?_ ?_ ?_ ?_ ?_ ?_); (exact rfl); (exact rfl); (exact rfl); (exact HOU.out); (exact HOV.out); (exact rfl); (exact rfl); (exact Cs.new _ _ _ _ rfl); (exact rfl); intro w4 k4 g4; have HE4 := Lib.hid (HE1.out.trans (((Ext.refl w1).alloc _).grown g4 (Nat.le_refl _))); have HX4 := Lib.hid (((Ext.refl w1).alloc (.cells az0 37)).grown g4 (Nat.le_refl _)); clear k4 g4)
   | fail)
  have HJ4 := Lib.hid (Cs.ext HJ1.out HX4.out)
  have HS4 := Lib.hid (Nat.le_trans HS1.out HX4.out.size)
  clear HX4 HJ1 HE1
  refine ⟨trivial, ?_⟩
  refine (callsIn_wide.2 (kept16_any a _)).mono ?_
  rintro e w5 ⟨rfl, rfl⟩
  by_cases hk : a < 16
  ·have hF := Lib.hid (show roomB l a = decide (a ≠ 0) by rw [HRB.out]; simp [hk])
   have hn : ((a : Int) != 0) = decide (a ≠ 0) := by by_cases h : a = 0 <;> simp [h]
   rw [decide_eq_true hk]
   clear hk
   gi_wp2_with fail
   exact ⟨_, results_tmp rfl _ _ _, by rw [hF.out]; simp, HE4.out⟩
  ·have hF := Lib.hid (show roomB l a = decide (freeN l < 24) by rw [HRB.out]; simp [hk])
   rw [decide_eq_false hk]
   clear hk HRB
   have c0 : (w4.alloc (.cells #[.int .i64 0] 3)).cell? ⟨w.heap.size, 0, none⟩ = some (.slice A l.length c) := (Cs.alloc HJ4.out _).cell 0 _ rfl
   have HJ5 : Hid (RmJ w.heap.size w4.heap.size (.slice A l.length c) [] (w4.alloc (.cells #[.int .i64 0] 3))) := Lib.hid ⟨Cs.alloc HJ4.out _, Cs.new _ _ _ _ rfl⟩
   have HE5 := Lib.hid (HE4.out.alloc (.cells #[.int .i64 0] 3))
   gi_wp2_with fail
   refine ⟨trivial, ?_⟩
   generalize w4.alloc (.cells #[.int .i64 0] 3) = w6 at *
   generalize hgn : w4.heap.size = gn at *
   refine (callsIn_wide.2 (accounts_any _ rfl _)).mono ?_
   rintro e w7 ⟨rfl, hc, hz, he⟩
   have HJ7 := Lib.hid (show RmJ w.heap.size gn (.slice A l.length c) [] w7 from ⟨Cs.ext HJ5.out.1 he, Cs.ext HJ5.out.2 he⟩)
   have HE7 := Lib.hid (HE5.out.trans he)
   have HG7 := Lib.hid (Cs.lt HJ7.out.2)
   clear HJ4 HE4 HJ5 HE5 hz he hgn c0
   gi_wp2_with fail
   refine range_acs A c w6.heap.size l HS.out HE7.out hc rfl
    (fun ys W => RmJ w.heap.size gn (.slice A l.length c) ys W)
    (fun _ _ _ => False) RmJ.own (fun _ _ _ _ _ h _ _ => h) HJ7.out 8 ?assign ?body ?done ?stop
   case assign =>
    intro lp p u v W K hu hv hK
    have HK := Lib.hid hK
    clear hK
    gi_wp2_with (first
     | ((with_reducible refine wpListIn_store_ac ?_ ?_ (.tmp 8) (.tmp 24) ?_ W.heap.size az0 p u v ?_ ?_ ?_ ?_ ?_ ?_ ?_); (exact rfl); (exact rfl); (exact rfl); (exact hu); (exact hv); (exact rfl); (exact rfl); (exact Cs.new _ _ _ _ rfl); (exact rfl); intro w4 k4 g4; have K4 := Lib.hid (HK.out _ k4 (((Ext.refl W).alloc _).grown g4 (Nat.le_refl _))); clear k4 g4)
     | fail)
    exact K4.out
   case body =>
    rintro lp ys q u v B W hB hp hok hu hv hlen ⟨hJ1, hJ2⟩ hE hA
    simp only [List.setIfInBounds_toArray, List.set_cons_zero, List.set_cons_succ]
    have c1 := hA.addr
    have c2 : W.cell? ⟨gn, 0, none⟩ = some (.int .i64 (freeN ys : Nat)) := hJ2.cell 0 _ rfl
    have c3 : W.frozen? ⟨gn, 0, none⟩ = false := hJ2.frozen 0
    have HSN := Lib.hid (freeN_snoc ys q)
    have hb : freeN ys ≤ 100000 := by have := freeN_le ys; omega
    have HJ := Lib.hid (And.intro hJ1 hJ2)
    clear hJ1 hJ2 hA hE hu hv hlen hp
    gi_wp2_with fail
    refine ⟨trivial, ?_⟩
    refine (CallsIn.inRound _ (callsIn_wide.2 (kept16_any q.addr _))).mono ?_
    rintro e w5 ⟨rfl, rfl⟩
    by_cases hk : q.addr < 16
    ·rw [decide_eq_true hk]
     have HN := Lib.hid (show freeN (ys ++ [q]) = freeN ys by rw [HSN.out, if_pos hk]; rfl)
     clear hk
     gi_wp2_with fail
     exact ⟨(KeepsOthers.refl _).from _, Below.refl _ _, HJ.out.1, by rw [HN.out]; exact HJ.out.2⟩
    ·rw [decide_eq_false hk]
     have HN := Lib.hid (show freeN (ys ++ [q]) = freeN ys + 1 by rw [HSN.out, if_neg hk])
     clear hk HSN
     generalize freeN ys = m at *
     gi_wp2_with fail
     exact ⟨(KeepsOthers.setCell _ _ _).from _, (Below.refl _ W).setCell (p := ⟨gn, 0, none⟩) (show w.heap.size ≤ gn by have := HS4.out; omega) _, Cs.kept HJ.out.1 (grown_set _ _ _ _) (some_ne (by have := HS4.out; omega)), by rw [HN.out]; simpa using Cs.set HJ.out.2 0 (.int .i64 ((m : Int) + 1))⟩
   case done =>
    rintro D W hD ⟨hJ1, hJ2⟩ hE hK
    have c2 : W.cell? ⟨gn, 0, none⟩ = some (.int .i64 (freeN l : Nat)) := hJ2.cell 0 _ rfl
    have HK := Lib.hid hK
    have HE := Lib.hid hE
    have HDW := Lib.hid (show w.heap.size < D by have := HE7.out.size; have := HS4.out; have := HG7.out; omega)
    clear hJ1 hJ2 hE hK hc HJ7
    gi_wp2_with fail
    refine ⟨by simp, .inl ⟨_, _, rfl, run_takeDeferred HK.out, ?_⟩⟩
    have hp := grownBy_putObj' W D (.deferred none)
    refine ⟨_, results_tmp rfl _ _ _, ?_, HE.out.grown hp (by have := HDW.out; omega)⟩
    rw [hF.out]
    have e : decide ((freeN l : Int) < 24) = decide (freeN l < 24) := by simp; omega
    exact congrArg Ending.returned (congrArg Value.bool (by simpa using e))
   case stop =>
    rintro D c k W _ _ h _
    exact h.elim
end Go.Proofs.Ytiojfpdjnblkhaa
