/- Package state: account. -/
import Derived.Test.YtiojfpdjnblkhaaQStd
namespace Go.Proofs.Ytiojfpdjnblkhaa
open Go.ChangeShapes Go.WideShapes Go.ChangeAt Go.RowKit Go.Shelf
attribute [local go_sem] Oper.semAt_some

def accF (l : List Ac) (a : Nat) : Ac × Bool := match l.find? (fun p => p.addr == a) with
 | some p => (p, true)
 | none => (⟨a, 0, 0, [], []⟩, false)
theorem accF_some {l : List Ac} {a : Nat} {p : Ac} (h : l.find? (fun p => p.addr == a) = some p) : accF l a = (p, true) := by unfold accF; rw [h]
theorem accF_none {l : List Ac} {a : Nat} (h : ∀ q ∈ l, q.addr ≠ a) : accF l a = (⟨a, 0, 0, [], []⟩, false) := by
 unfold accF
 rw [List.find?_eq_none.2 (fun q hq => by simpa using h q hq)]
theorem find_take {l : List Ac} {f : Ac → Bool} {k : Nat} {p : Ac} (h : (l.take k).find? f = some p) : l.find? f = some p := by
 rw [← List.take_append_drop k l, List.find?_append, h]
 rfl
theorem find_snoc {l : List Ac} {f : Ac → Bool} {p : Ac} (h : ∀ q ∈ l, f q = false) (hp : f p = true) : (l ++ [p]).find? f = some p := by
 rw [List.find?_append, List.find?_eq_none.2 (fun q hq => by simpa using h q hq)]
 simp [hp]
theorem accF_ok {W : World} {v : Value} {l : List Ac} (h : Acs W v l) (a : Nat) (ha : a < 18446744073709551616) : (accF l a).1.ok := by
 unfold accF
 cases hf : l.find? (fun p => p.addr == a) with
 | some p => exact h.oks p (List.mem_of_find?_eq_some hf)
 | none => exact ⟨ha, show 0 < M256 by decide, show 0 < 18446744073709551616 by decide⟩
set_option maxRecDepth 100000 in
theorem results_ac_flag {fn : Func} {p q : Tmp} (h : fn.results = #[.cell p 37, .cell q 4]) (tmps : Array Value) (w : World) (g g' : Nat) (a : Ac) (u v : Value) (b : Bool) (hp : tmps.getD p undef = .pointer (some ⟨g, 0, none⟩)) (hg : Ab w g a u v)
  (hq : tmps.getD q undef = .pointer (some ⟨g', 0, none⟩)) (hb : Cs w g' 4 #[.bool b]) : (results fn tmps).run Try.prog w = .ok (.tuple #[.agg (acc a u v), .bool b]) w := by
 have hp' : tmps[p]?.getD undef = .pointer (some ⟨g, 0, none⟩) := by simpa using hp
 have hq' : tmps[q]?.getD undef = .pointer (some ⟨g', 0, none⟩) := by simpa using hq
 have hc := Cs.cell hb 0 _ rfl
 have hl : (loadVar 4 ⟨g', 0, none⟩).run Try.prog w = .ok (.bool b) w := by simp [loadVar, hc]
 simp [results, h, hp', hq', asAddr, run_loadVar_row w g 37 37 (acc a u v) (0, 0) _ hg Try.underlying37 rfl acinfo, hl]
def AcJ (gs ga gx gb : Nat) (sv : Value) (a : Nat) (W : World) : Prop :=
 Cs W gs 24 #[sv] ∧ Cs W ga 29 #[.int .u64 (a : Nat)] ∧ Cs W gx 37 az0 ∧ Cs W gb 4 #[.bool false]
theorem AcJ.ext {gs ga gx gb : Nat} {sv : Value} {a : Nat} {W W' : World} (h : AcJ gs ga gx gb sv a W) (he : Ext W W') : AcJ gs ga gx gb sv a W' :=
 ⟨Cs.ext h.1 he, Cs.ext h.2.1 he, Cs.ext h.2.2.1 he, Cs.ext h.2.2.2 he⟩
set_option maxRecDepth 100000 in
set_option maxHeartbeats 2000000 in
theorem account_any (sv : Value) (l : List Ac) (a : Nat) (w : World) (hs : Acs w sv l) (_ha : a < 18446744073709551616) :
  Calls Try.prog 85 #[.agg #[sv], .int .u64 (a : Nat)] w fun e w' => ∃ u v, e = .returned (.tuple #[.agg (acc (accF l a).1 u v), .bool (accF l a).2]) ∧ Bs w' u (accF l a).1.code ∧ Pks w' v (accF l a).1.store ∧ Ext w w' := by
 have HS := Lib.hid hs
 obtain ⟨A, c, rfl, h1, h2⟩ := hs.len
 have HJ0 : Hid (AcJ w.heap.size (w.heap.size + 1) (w.heap.size + 1 + 1) (w.heap.size + 1 + 1 + 1) (.slice A l.length c) a ((((w.alloc (.cells #[.slice A l.length c] 24)).alloc (.cells #[.int .u64 (a : Nat)] 29)).alloc (.cells az0 37)).alloc (.cells #[.bool false] 4))) :=
  Lib.hid ⟨Cs.alloc (Cs.alloc (Cs.alloc (Cs.new _ _ _ _ rfl) _) _) _, Cs.alloc (Cs.alloc (Cs.new _ _ _ _ (by simp)) _) _, Cs.alloc (Cs.new _ _ _ _ (by simp)) _, Cs.new _ _ _ _ (by simp)⟩
 have HE0 := Lib.hid (((((Ext.refl w).alloc (.cells #[.slice A l.length c] 24)).alloc (.cells #[.int .u64 (a : Nat)] 29)).alloc (.cells az0 37)).alloc (.cells #[.bool false] 4))
 clear hs
 unfold az0 at HJ0 HE0
 refine (callsIn_wide (n := 9)).1 ?_
 refine callsIn_of_wp_marks Try.func85 rfl trivial ?_ rfl
 simp only [Try.ntmps85, List.size_toArray, List.length_cons, List.length_nil, Nat.reduceAdd, Nat.reduceSub, Array.replicate_succ, Array.replicate_zero, List.push_toArray, List.append_toArray, List.nil_append, List.cons_append]
 gi_wp2_with fail
 refine ⟨trivial, ?_⟩
 refine (callsIn_wide.2 (accounts_any _ rfl _)).mono ?_
 rintro e w1 ⟨rfl, hc, hz, he⟩
 have HJ1 := Lib.hid (AcJ.ext HJ0.out he)
 have HE1 := Lib.hid (HE0.out.trans he)
 have HB := Lib.hid hz
 simp only [World.size_alloc] at hc HB
 clear HJ0 HE0 he hz
 gi_wp2_with fail
 refine range_acs A c (w.heap.size + 1 + 1 + 1 + 1) l HS.out HE1.out hc rfl
  (fun ys W => AcJ w.heap.size (w.heap.size + 1) (w.heap.size + 1 + 1) (w.heap.size + 1 + 1 + 1) (.slice A l.length c) a W ∧ ∀ q ∈ ys, q.addr ≠ a)
  (fun c ys W => c = .ret ∧ ∃ p u v, ys.find? (fun p => p.addr == a) = some p ∧ Ab W (w.heap.size + 1 + 1) p u v ∧ Cs W (w.heap.size + 1 + 1 + 1) 4 #[.bool true] ∧ Bs w u p.code ∧ Pks w v p.store ∧ Ext w W)
  (fun ys X Y row hs hg hr => ⟨⟨row_cs hs.1.1 hg hr, row_cs hs.1.2.1 hg hr, row_cs hs.1.2.2.1 hg hr, row_cs hs.1.2.2.2 hg hr⟩, hs.2⟩)
  (fun c ys X Y row hs hg hr => by
   obtain ⟨h0, p, u, v, h1, h2, h3, h4, h5, h6⟩ := hs
   exact ⟨h0, p, u, v, h1, row_cs h2 hg hr, row_cs h3 hg hr, h4, h5, row_ext h6 (by rw [HB.out]; omega) hg hr⟩)
  ⟨HJ1.out, fun q hq => by cases hq⟩ 6 ?assign ?body ?done ?stop
 case assign =>
  intro lp p u v W K hu hv hK
  have HK := Lib.hid hK
  clear hK
  gi_wp2_with (first
   | ((with_reducible refine wpListIn_store_ac ?_ ?_ (.tmp 6) (.tmp 9) ?_ W.heap.size az0 p u v ?_ ?_ ?_ ?_ ?_ ?_ ?_); (exact rfl); (exact rfl); (exact rfl); (exact hu); (exact hv); (exact rfl); (exact rfl); (exact Cs.new _ _ _ _ rfl); (exact rfl); intro w4 k4 g4; have K4 := Lib.hid (HK.out _ k4 (((Ext.refl W).alloc _).grown g4 (Nat.le_refl _))); clear k4 g4)
   | fail)
  exact K4.out
 case body =>
  rintro lp ys p u v B W hB hp hok hu hv hlen ⟨hJ, hys⟩ hE hA
  simp only [List.setIfInBounds_toArray, List.set_cons_zero, List.set_cons_succ]
  have HJ := Lib.hid hJ
  have HA := Lib.hid hA
  have HE := Lib.hid hE
  have c0 := hA.addr
  have c1 : W.cell? ⟨w.heap.size + 1, 0, none⟩ = some (.int .u64 (a : Nat)) := hJ.2.1.cell 0 _ rfl
  have HU := Lib.hid hu
  have HV := Lib.hid hv
  have HYS := Lib.hid hys
  have HOU := Lib.hid (bs_one hu)
  have HOV := Lib.hid (pks_one hv)
  have c3 : W.frozen? ⟨w.heap.size + 1 + 1 + 1, 0, none⟩ = false := hJ.2.2.2.frozen 0
  clear hJ hA hE hu hv hys hlen
  by_cases e : p.addr = a
  ·have d1 : ((p.addr : Int) == (a : Int)) = true := by simp [e]
   have d2 : (p.addr == a) = true := by simp [e]
   have HP := Lib.hid (find_snoc (p := p) (f := fun p => p.addr == a) (fun q hq => by simpa using HYS.out q hq) d2)
   clear e
   gi_wp2_with (first
    | ((with_reducible refine wpListIn_load_ac ?_ (.tmp 6) ?_ B 0 p u v ?_ ?_ ?_); (exact rfl); (exact rfl); (exact rfl); (exact HA.out.range))
    | ((with_reducible refine wpListIn_store_ac ?_ ?_ (.tmp 4) (.tmp 14) ?_ (w.heap.size + 1 + 1) az0 p u v ?_ ?_ ?_ ?_ ?_ ?_ ?_); (exact rfl); (exact rfl); (exact rfl); (exact HOU.out); (exact HOV.out); (exact rfl); (exact rfl); (exact HJ.out.2.2.1); (exact rfl); intro w4 k4 g4; have K4 := Lib.hid k4; have G4 := Lib.hid g4; have K5 : Hid (Cs w4 (w.heap.size + 1 + 1 + 1) 4 #[.bool false]) := Lib.hid (Cs.kept HJ.out.2.2.2 g4 (some_ne (by omega))); have c4 : w4.cell? ⟨w.heap.size + 1 + 1 + 1, 0, none⟩ = some (.bool false) := K5.out.cell 0 _ rfl; have c5 : w4.frozen? ⟨w.heap.size + 1 + 1 + 1, 0, none⟩ = false := K5.out.frozen 0; clear k4 g4)
    | fail)
   refine ⟨((keeps_cs HJ.out.2.2.1 G4.out).trans (KeepsOthers.setCell _ _ _)).from _, rfl, p, u, v, HP.out, Cs.kept K4.out (grown_set _ _ _ _) (some_ne (by omega)), by simpa using Cs.set K5.out 0 (.bool true), HU.out, HV.out, ?_⟩
   exact (HE.out.grown G4.out (by omega)).grown (grown_set _ _ _ _) (by omega)
  ·have d1 : ((p.addr : Int) == (a : Int)) = false := by simp; omega
   have d2 : (p.addr == a) = false := by simpa using e
   gi_wp2_with fail
   refine ⟨(KeepsOthers.refl _).from _, Below.refl _ _, HJ.out, fun q hq => ?_⟩
   rcases List.mem_append.1 hq with h | h
   ·exact HYS.out q h
   ·rw [List.mem_singleton.1 h]; exact e
 case done =>
  rintro D W hD ⟨hJ, hys⟩ hE hK
  have HF := Lib.hid (accF_none hys)
  have HE := Lib.hid hE
  have HJ := Lib.hid hJ
  have HK := Lib.hid hK
  have c1 : W.cell? ⟨w.heap.size + 1, 0, none⟩ = some (.int .u64 (a : Nat)) := hJ.2.1.cell 0 _ rfl
  have z0 : W.cell? ⟨w.heap.size + 1 + 1, 0, none⟩ = some (.int .u64 0) := hJ.2.2.1.cell 0 _ rfl
  have f0 : W.frozen? ⟨w.heap.size + 1 + 1, 0, none⟩ = false := hJ.2.2.1.frozen 0
  have z1 : W.cell? ⟨w.heap.size + 1 + 1, 1, none⟩ = some (.int .u64 0) := hJ.2.2.1.cell 1 _ rfl
  have f1 : W.frozen? ⟨w.heap.size + 1 + 1, 1, none⟩ = false := hJ.2.2.1.frozen 1
  have z2 : W.cell? ⟨w.heap.size + 1 + 1, 2, none⟩ = some (.int .u64 0) := hJ.2.2.1.cell 2 _ rfl
  have f2 : W.frozen? ⟨w.heap.size + 1 + 1, 2, none⟩ = false := hJ.2.2.1.frozen 2
  have z3 : W.cell? ⟨w.heap.size + 1 + 1, 3, none⟩ = some (.int .u64 0) := hJ.2.2.1.cell 3 _ rfl
  have f3 : W.frozen? ⟨w.heap.size + 1 + 1, 3, none⟩ = false := hJ.2.2.1.frozen 3
  have z4 : W.cell? ⟨w.heap.size + 1 + 1, 4, none⟩ = some (.int .u64 0) := hJ.2.2.1.cell 4 _ rfl
  have f4 : W.frozen? ⟨w.heap.size + 1 + 1, 4, none⟩ = false := hJ.2.2.1.frozen 4
  have z5 : W.cell? ⟨w.heap.size + 1 + 1, 5, none⟩ = some (.int .u64 0) := hJ.2.2.1.cell 5 _ rfl
  have f5 : W.frozen? ⟨w.heap.size + 1 + 1, 5, none⟩ = false := hJ.2.2.1.frozen 5
  have z6 : W.cell? ⟨w.heap.size + 1 + 1, 6, none⟩ = some (.slice none 0 0) := hJ.2.2.1.cell 6 _ rfl
  have f6 : W.frozen? ⟨w.heap.size + 1 + 1, 6, none⟩ = false := hJ.2.2.1.frozen 6
  have z7 : W.cell? ⟨w.heap.size + 1 + 1, 7, none⟩ = some (.slice none 0 0) := hJ.2.2.1.cell 7 _ rfl
  have f7 : W.frozen? ⟨w.heap.size + 1 + 1, 7, none⟩ = false := hJ.2.2.1.frozen 7
  have c4 : W.cell? ⟨w.heap.size + 1 + 1 + 1, 0, none⟩ = some (.bool false) := hJ.2.2.2.cell 0 _ rfl
  have c5 : W.frozen? ⟨w.heap.size + 1 + 1 + 1, 0, none⟩ = false := hJ.2.2.2.frozen 0
  clear hJ hys hE hK hc
  gi_wp2_with fail
  have HB1 := Lib.hid (show w.heap.size + 1 + 1 + 1 + 1 < D by have := HB.out; omega)
  have K8 : Hid (Ab ((((((((W.setCell ⟨w.heap.size + 1 + 1, 0, none⟩ (.int .u64 (a : Nat))).setCell ⟨w.heap.size + 1 + 1, 1, none⟩ (.int .u64 0)).setCell ⟨w.heap.size + 1 + 1, 2, none⟩ (.int .u64 0)).setCell ⟨w.heap.size + 1 + 1, 3, none⟩ (.int .u64 0)).setCell ⟨w.heap.size + 1 + 1, 4, none⟩ (.int .u64 0)).setCell ⟨w.heap.size + 1 + 1, 5, none⟩ (.int .u64 0)).setCell ⟨w.heap.size + 1 + 1, 6, none⟩ (.slice none 0 0)).setCell ⟨w.heap.size + 1 + 1, 7, none⟩ (.slice none 0 0)) (w.heap.size + 1 + 1) ⟨a, 0, 0, [], []⟩ (.slice none 0 0) (.slice none 0 0) ∧ W.grownBy ((((((((W.setCell ⟨w.heap.size + 1 + 1, 0, none⟩ (.int .u64 (a : Nat))).setCell ⟨w.heap.size + 1 + 1, 1, none⟩ (.int .u64 0)).setCell ⟨w.heap.size + 1 + 1, 2, none⟩ (.int .u64 0)).setCell ⟨w.heap.size + 1 + 1, 3, none⟩ (.int .u64 0)).setCell ⟨w.heap.size + 1 + 1, 4, none⟩ (.int .u64 0)).setCell ⟨w.heap.size + 1 + 1, 5, none⟩ (.int .u64 0)).setCell ⟨w.heap.size + 1 + 1, 6, none⟩ (.slice none 0 0)).setCell ⟨w.heap.size + 1 + 1, 7, none⟩ (.slice none 0 0)) (some (w.heap.size + 1 + 1))) := by
   refine Lib.hid ⟨?_, ?_⟩
   ·have := HJ.out.2.2.1
    unfold az0 at this
    replace this := Cs.set this 0 (.int .u64 (a : Nat))
    replace this := Cs.set this 1 (.int .u64 0)
    replace this := Cs.set this 2 (.int .u64 0)
    replace this := Cs.set this 3 (.int .u64 0)
    replace this := Cs.set this 4 (.int .u64 0)
    replace this := Cs.set this 5 (.int .u64 0)
    replace this := Cs.set this 6 (.slice none 0 0)
    replace this := Cs.set this 7 (.slice none 0 0)
    simpa [Ab, acc, lv, lb] using this
   ·exact ((((((((grown_set _ _ _ _).trans (grown_set _ _ _ _)).trans (grown_set _ _ _ _)).trans (grown_set _ _ _ _)).trans (grown_set _ _ _ _)).trans (grown_set _ _ _ _)).trans (grown_set _ _ _ _)).trans (grown_set _ _ _ _))
  clear z0 z1 z2 z3 z4 z5 z6 z7 f0 f1 f2 f3 f4 f5 f6 f7 c1 c4 c5
  generalize ((((((((W.setCell ⟨w.heap.size + 1 + 1, 0, none⟩ (.int .u64 (a : Nat))).setCell ⟨w.heap.size + 1 + 1, 1, none⟩ (.int .u64 0)).setCell ⟨w.heap.size + 1 + 1, 2, none⟩ (.int .u64 0)).setCell ⟨w.heap.size + 1 + 1, 3, none⟩ (.int .u64 0)).setCell ⟨w.heap.size + 1 + 1, 4, none⟩ (.int .u64 0)).setCell ⟨w.heap.size + 1 + 1, 5, none⟩ (.int .u64 0)).setCell ⟨w.heap.size + 1 + 1, 6, none⟩ (.slice none 0 0)).setCell ⟨w.heap.size + 1 + 1, 7, none⟩ (.slice none 0 0)) = w4 at *
  have K4 := Lib.hid K8.out.1
  have G4 := Lib.hid K8.out.2
  have K5 : Hid (Cs w4 (w.heap.size + 1 + 1 + 1) 4 #[.bool false]) := Lib.hid (Cs.kept HJ.out.2.2.2 G4.out (some_ne (by omega)))
  have hK' := (((keeps_cs HJ.out.2.2.1 G4.out).trans (KeepsOthers.setCell w4 ⟨w.heap.size + 1 + 1 + 1, 0, none⟩ (.bool false))).same D _ HK.out rfl)
  refine ⟨by simp, .inl ⟨_, _, rfl, run_takeDeferred hK', ?_⟩⟩
  have hp := grownBy_putObj' (w4.setCell ⟨w.heap.size + 1 + 1 + 1, 0, none⟩ (.bool false)) D (.deferred none)
  refine ⟨_, results_ac_flag Try.results85 _ _ (w.heap.size + 1 + 1) (w.heap.size + 1 + 1 + 1) ⟨a, 0, 0, [], []⟩ (.slice none 0 0) (.slice none 0 0) false rfl (Cs.kept (Cs.kept K4.out (grown_set _ _ _ _) (some_ne (by omega))) hp (some_ne (by have := HB1.out; omega))) rfl (Cs.kept (by simpa using Cs.set K5.out 0 (.bool false)) hp (some_ne (by have := HB1.out; omega))), .slice none 0 0, .slice none 0 0, ?_⟩
  rw [HF.out]
  exact ⟨rfl, ⟨none, 0, rfl, Nat.le_refl _, by unfold maxLen; omega, fun h => absurd h (by simp)⟩, ⟨none, 0, rfl, Nat.le_refl _, by unfold maxLen; omega, fun h => absurd h (by simp)⟩, ((HE.out.grown G4.out (by omega)).grown (grown_set _ _ _ _) (by omega)).grown hp (by have := HB1.out; omega)⟩
 case stop =>
  rintro D c k W hD hk ⟨rfl, p, u, v, hf, hA, hb, hu, hv, hE⟩ hK
  have HF := Lib.hid (accF_some (find_take hf))
  have HA := Lib.hid hA
  have HBB := Lib.hid hb
  have HE := Lib.hid hE
  have HU := Lib.hid hu
  have HV := Lib.hid hv
  have HK := Lib.hid hK
  clear hf hA hb hE hu hv hK hc
  gi_wp2_with fail
  have HB1 := Lib.hid (show w.heap.size + 1 + 1 + 1 + 1 < D by have := HB.out; omega)
  refine ⟨by simp, .inl ⟨_, _, rfl, run_takeDeferred HK.out, ?_⟩⟩
  have hp := grownBy_putObj' W D (.deferred none)
  have he := HE.out.grown hp (by have := HB1.out; omega)
  refine ⟨_, results_ac_flag Try.results85 _ _ (w.heap.size + 1 + 1) (w.heap.size + 1 + 1 + 1) p u v true rfl (Cs.kept HA.out hp (some_ne (by have := HB1.out; omega))) rfl (Cs.kept HBB.out hp (some_ne (by have := HB1.out; omega))), u, v, ?_⟩
  rw [HF.out]
  exact ⟨rfl, HU.out.ext he, HV.out.ext he, he⟩
end Go.Proofs.Ytiojfpdjnblkhaa
