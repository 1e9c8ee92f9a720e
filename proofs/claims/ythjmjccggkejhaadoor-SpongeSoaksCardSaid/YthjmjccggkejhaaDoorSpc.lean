/- Contract of Rows of lanes. -/
import Derived.Test.YthjmjccggkejhaaDoorSpb
import Derived.Test.YthjmjccggkejhaaDoorMgc
namespace Go.Proofs.YthjmjccggkejhaaDoor
open Go.RowKit Go.Shelf
attribute [local go_sem] Oper.semAt_some

/-- All bits turned. -/
def notL (a : Nat) : Nat := 18446744073709551615 ^^^ a
set_option maxRecDepth 100000 in
theorem and_lt64 (a b : Nat) (hb : b < 18446744073709551616) : a &&& b < 18446744073709551616 := by
  rw [show (18446744073709551616 : Nat) = 2 ^ 64 from rfl] at *
  exact Nat.and_lt_two_pow _ hb
set_option maxRecDepth 100000 in
theorem xor_lt64 (a b : Nat) (ha : a < 18446744073709551616) (hb : b < 18446744073709551616) : a ^^^ b < 18446744073709551616 := by
  rw [show (18446744073709551616 : Nat) = 2 ^ 64 from rfl] at *
  exact Nat.xor_lt_two_pow ha hb
set_option maxRecDepth 100000 in
theorem notL_lt (a : Nat) (ha : a < 18446744073709551616) : notL a < 18446744073709551616 := xor_lt64 _ _ (by decide) ha
/-- A lane behind Rows. -/
def rowV (f : Nat → Nat) (x y : Nat) : Nat := f (nm x y) ^^^ (notL (f (nm (x + 1) y)) &&& f (nm (x + 2) y))
/-- Lanes behind Rows. -/
def rowF (f : Nat → Nat) (i : Nat) : Nat := rowV f (i % 5) (i / 5 % 5)
/-- Those lanes that the rounds of pre have brought, the others nought. -/
def ptF (F : Nat → Nat) (pre : List Nat) (i : Nat) : Nat := if pre.any (fun k => k % 25 == i) = true then F i else 0
set_option maxRecDepth 100000 in
theorem ptF_nil (F : Nat → Nat) : ptF F [] = fun _ => 0 := rfl
set_option maxRecDepth 100000 in
theorem ptF_all (F : Nat → Nat) (i : Nat) (h : i < 25) : ptF F (List.range 25) i = F i := by
  unfold ptF
  rw [if_pos]
  rw [List.any_eq_true]
  exact ⟨i, by simpa using h, by simp; omega⟩
set_option maxRecDepth 100000 in
theorem ptF_snoc (F : Nat → Nat) (pre : List Nat) (k p v : Nat) (hp : p = k % 25) (hv : v = F p) : (fun i => if i = p then v else ptF F pre i) = ptF F (pre ++ [k]) := by
  funext i
  unfold ptF
  rw [List.any_append]
  by_cases h : i = p
  · subst h
    rw [if_pos rfl, if_pos (by simp [hp]), hv]
  · rw [if_neg h]
    have : (k % 25 == i) = false := by simp; omega
    simp [this]
set_option maxRecDepth 100000 in
theorem nm_of (k : Nat) : nm (k % 5) (k / 5 % 5) = k % 25 := by unfold nm; omega
set_option maxRecDepth 100000 in
theorem rowF_lt (f : Nat → Nat) (hf : Lok f) : Lok (rowF f) := fun _i _ => xor_lt64 _ _ (hf _ (nm_lt _ _)) (and_lt64 _ _ (hf _ (nm_lt _ _)))

/-- What a round of Rows keeps. -/
def RI (w : World) (f : Nat → Nat) (pre : List Nat) (W : World) : Prop :=
  Ln W (w.heap.size) f ∧ Ln W (w.heap.size + 1) (fun _ => 0) ∧ Ln W (w.heap.size + 1 + 1) (ptF (rowF f) pre) ∧ Ext w W
set_option maxRecDepth 100000 in
theorem RI.drew {w : World} {f : Nat → Nat} {pre : List Nat} {W : World} (h : RI w f pre W) : RI w f pre W.drew := ⟨h.1, h.2.1, h.2.2.1, h.2.2.2.drew⟩
set_option maxRecDepth 100000 in
theorem RI.put {w : World} {f : Nat → Nat} {pre : List Nat} {W : World} (h : RI w f pre W) (q v p : Nat) (hp : p = q % 25) (hv : v = rowF f p) : RI w f (pre ++ [q]) (W.setCell ⟨w.heap.size + 1 + 1, p, none⟩ (.int .u64 (v : Nat))) :=
  ⟨h.1.kept (grown_set _ _ _ _) (some_ne (by omega)), h.2.1.kept (grown_set _ _ _ _) (some_ne (by omega)), by rw [← ptF_snoc (rowF f) pre q p v hp hv]; exact h.2.2.1.set p v, h.2.2.2.grown (grown_set _ _ _ _) (by omega)⟩
set_option maxRecDepth 100000 in
theorem not_u64 (a : Nat) (ha : a < 18446744073709551616) : bits BinOp.xor IntKind.u64 IntKind.u64.max (a : Int) = ((notL a : Nat) : Int) :=
  (show bits BinOp.xor IntKind.u64 ((18446744073709551615 : Nat) : Int) (a : Int) = _ from u64_xor_nat 18446744073709551615 a (by decide) ha)
set_option maxRecDepth 100000 in
theorem RI.own {w : World} {f : Nat → Nat} {B : Nat} (hB : w.heap.size + 3 ≤ B) : OwnFrom B (fun pre W => RI w f pre W) := by
  intro s A A' row h hg hr
  exact ⟨h.1.kept hg (fun e => by have := (hr _ e.symm).1; omega), h.2.1.kept hg (fun e => by have := (hr _ e.symm).1; omega), h.2.2.1.kept hg (fun e => by have := (hr _ e.symm).1; omega), Below.grown h.2.2.2 hg h.2.2.2.size (fun g e => by have := (hr _ e).1; omega)⟩

set_option maxRecDepth 100000 in
theorem keep_set {W : World} {g : Nat} {f : Nat → Nat} (h : Ln W g f) (i : Nat) (u : Value) : KeepsOthers W (W.setCell ⟨g, i, none⟩ u) :=
  KeepsOthers.of_grownBy (grown_set W g i u) (fun j o e ho => by injection e with e; subst e; unfold Ln Cs at h; rw [h] at ho; injection ho with ho; subst ho; rfl)
set_option maxRecDepth 100000 in
theorem keep_drew (W : World) : KeepsOthers W W.drew := KeepsOthers.of_grownBy (row := none) (grown_drew (World.grownBy.refl _ _)) (fun j o e => by cases e)
set_option maxRecDepth 100000 in
theorem wpListIn_load_lanes {F : Fence} {n : Nat} {ops : Array Oper} {rest : List Oper} {o : Oper} {a : Act} {w : World} {Q : Exit → Act → World → Prop} (hgd : o.guard = none) (x : Operand) (ho : o.op = .load 35 x)
    (g : Nat) (f : Nat → Nat) (hx : a.eval x = .pointer (some ⟨g, 0, none⟩)) (hg : Ln w g f)
    (h : wpListIn F n Tryd.prog ops Q rest (a.put o.dst (lnv f)) w) : wpListIn F n Tryd.prog ops Q (o :: rest) a w := by
  refine wpListIn_plain hgd fun K hK => ?_
  unfold Oper.wpIn
  refine ⟨by simp [Oper.about, ho], ?_⟩
  rw [Oper.semAt_plain F _ _ (by rw [ho]; intro c hc'; cases hc')]
  simp only [execOp, ho, hx, Instr.loadAt, Instr.sureAddr, Sem.run_bind, Sem.run_pure, Result.andThen_ok, run_loadVar_row w g 35 35 (lc f) (0, 0) _ hg Tryd.underlying35 rfl linfo]
  exact hK _ _ h
set_option maxRecDepth 100000 in
theorem wpListIn_store_lanes {F : Fence} {n : Nat} {ops : Array Oper} {rest : List Oper} {o : Oper} {a : Act} {w : World} {Q : Exit → Act → World → Prop} (hgd : o.guard = none) (hd : o.dst = none) (x y : Operand) (ho : o.op = .store 35 x y)
    (g : Nat) (old : Array Value) (f : Nat → Nat) (hx : a.eval x = .pointer (some ⟨g, 0, none⟩)) (hy : a.eval y = lnv f) (hg : Cs w g 35 old) (hold : old.size = 25)
    (h : ∀ w', Ln w' g f → w.grownBy w' (some g) → wpListIn F n Tryd.prog ops Q rest a w') : wpListIn F n Tryd.prog ops Q (o :: rest) a w := by
  have h' : ∀ w', Ln w' g f → w.grownBy w' (some g) → wpListIn F n Tryd.prog ops Q rest (a.put o.dst undef) w' := by rw [hd]; exact h
  refine wpListIn_plain hgd fun K hK => ?_
  unfold Oper.wpIn
  refine ⟨by simp [Oper.about, ho], ?_⟩
  rw [Oper.semAt_plain F _ _ (by rw [ho]; intro c hc'; cases hc')]
  have hi' : (Tryd.prog.info? 35).map (·.size) = some (lc f).size := linfo
  simp only [execOp, ho, hx, hy, lnv, Instr.storeAt, Instr.sureAddr, Sem.run_bind, Sem.run_pure, Result.andThen_ok, run_storeVar_row w g 35 35 old (lc f) hg hi' hold (lc_one f)]
  refine hK _ _ (h' _ ?_ ?_)
  · exact setRow_heap w g _ _ 35 (0, 0) hg
  · exact ⟨rfl, rfl, rfl, by simp [World.setRow], fun k _ hk => setRow_other w g k _ (fun e => hk (by simp [e]))⟩

set_option maxRecDepth 100000 in
set_option maxHeartbeats 4000000 in
theorem rows_any (f : Nat → Nat) (w : World) (hf : Lok f) : Calls Tryd.prog 20 #[lnv f] w fun e w' => e = .returned (lnv (rowF f)) ∧ Ext w w' := by
  have HF := Lib.hid hf
  clear hf
  refine (callsIn_wide (n := 9)).1 ?_
  refine callsIn_of_wp_marks Tryd.func20 rfl trivial ?_ rfl
  simp only [Tryd.ntmps20, List.size_toArray, List.length_cons, List.length_nil, Nat.reduceAdd, Nat.reduceSub, Array.replicate_succ, Array.replicate_zero, List.push_toArray, List.append_toArray, List.nil_append, List.cons_append]
  unfold lnv
  gi_wp2_with fail
  refine ⟨trivial, ?_⟩
  refine (callsIn_wide.2 (places_any _)).mono ?_
  rintro e w1 ⟨rfl, rfl⟩
  have HI := Lib.hid (show RI w f [] (((w.alloc (.cells (lc f) 35)).alloc (.cells (lc fun _ => 0) 35)).alloc (.cells (lc fun _ => 0) 35)) from
    ⟨((Cs.new _ _ _ _ rfl).alloc _).alloc _, (Cs.new _ _ _ _ (by simp)).alloc _, Cs.new _ _ _ _ (by simp), (((Ext.refl w).alloc _).alloc _).alloc _⟩)
  rw [lc_zero] at HI
  have HZ := Lib.hid (show w.heap.size + 3 ≤ (((w.alloc (.cells (lc f) 35)).alloc (.cells (lc fun _ => 0) 35)).alloc (.cells (lc fun _ => 0) 35)).heap.size by simp)
  rw [lc_zero] at HZ
  gi_wp2_with fail
  generalize (((w.alloc (.cells (lc f) 35)).alloc (.cells #[.int .u64 0, .int .u64 0, .int .u64 0, .int .u64 0, .int .u64 0, .int .u64 0, .int .u64 0, .int .u64 0, .int .u64 0, .int .u64 0, .int .u64 0, .int .u64 0, .int .u64 0, .int .u64 0, .int .u64 0, .int .u64 0, .int .u64 0, .int .u64 0, .int .u64 0, .int .u64 0, .int .u64 0, .int .u64 0, .int .u64 0, .int .u64 0, .int .u64 0] 35)).alloc (.cells #[.int .u64 0, .int .u64 0, .int .u64 0, .int .u64 0, .int .u64 0, .int .u64 0, .int .u64 0, .int .u64 0, .int .u64 0, .int .u64 0, .int .u64 0, .int .u64 0, .int .u64 0, .int .u64 0, .int .u64 0, .int .u64 0, .int .u64 0, .int .u64 0, .int .u64 0, .int .u64 0, .int .u64 0, .int .u64 0, .int .u64 0, .int .u64 0, .int .u64 0] 35)) = w1 at *
  have hZ := HZ.out
  refine wpIn_rangeFunc_ownG rfl (by decide) (gf := 68) (lb := #[]) rfl trivial (enters_of Tryd.func68 (by kernel_rfl) rfl)
    (places1_stops 8 (by decide) w1) (fun _ _ => trivial) (fun _ _ _ _ _ _ _ _ => trivial) (Below.refl _ _) (fun _ => rfl)
    (fun pre W => RI w f pre W) (fun _ _ _ => False) (RI.own hZ) (fun _ _ _ _ _ hs _ _ => hs) HI.out
    (fun q => { tmps := #[.agg (lc f), .pointer (some ⟨w.heap.size, 0, none⟩), .pointer (some ⟨w.heap.size + 1, 0, none⟩), .pointer (some ⟨w.heap.size + 1 + 1, 0, none⟩), .int .i64 (q % 5 : Nat), .int .i64 (q / 5 % 5 : Nat), .func (.func 68) #[] #[], .int .i64 (q % 5 : Nat), .int .i64 (q / 5 % 5 : Nat), undef, undef, undef, undef, undef, undef, undef, undef, undef, undef, undef, undef, undef, undef, undef, undef, undef, undef, undef, undef, undef, undef, undef, undef, undef], defers := [] }) ?assign ?body ?done ?stop
  case assign =>
    intro l x W K hK
    unfold pEnc
    gi_wp2
    exact hK
  case body =>
    rintro l pre q W0 hI hlen
    have HI := Lib.hid hI
    have hx : q % 5 < 5 := Nat.mod_lt _ (by decide)
    have hy : q / 5 % 5 < 5 := Nat.mod_lt _ (by decide)
    have hnm : nm (q % 5) (q / 5 % 5) = q % 25 := nm_of q
    have HV := Lib.hid (show rowV f (q % 5) (q / 5 % 5) = rowF f (nm (q % 5) (q / 5 % 5)) by
      unfold rowF
      rw [hnm, show q % 25 % 5 = q % 5 by omega, show q % 25 / 5 % 5 = q / 5 % 5 by omega])
    clear hI hlen hZ HZ
    generalize q % 5 = x at *
    generalize q / 5 % 5 = y at *
    have HNM := Lib.hid hnm
    clear hnm
    gi_wp2_with fail
    refine wpIn_named fun a0 ha0 => ?_
    obtain ⟨fr, hfr⟩ : ∃ fr : (Nat → Value) → Act, ∀ V, fr V = ((((((((((((((((((((((((a0.put (some 9) (V 0)).put (some 10) (V 1)).put (some 11) (V 2)).put (some 12) (V 3)).put (some 13) (V 4)).put (some 14) (V 5)).put (some 15) (V 6)).put (some 16) (V 7)).put (some 17) (V 8)).put (some 18) (V 9)).put (some 19) (V 10)).put (some 20) (V 11)).put (some 21) (V 12)).put (some 22) (V 13)).put (some 23) (V 14)).put (some 24) (V 15)).put (some 25) (V 16)).put (some 26) (V 17)).put (some 27) (V 18)).put (some 28) (V 19)).put (some 29) (V 20)).put (some 30) (V 21)).put (some 31) (V 22)).put (some 32) (V 23)) := ⟨fun V => ((((((((((((((((((((((((a0.put (some 9) (V 0)).put (some 10) (V 1)).put (some 11) (V 2)).put (some 12) (V 3)).put (some 13) (V 4)).put (some 14) (V 5)).put (some 15) (V 6)).put (some 16) (V 7)).put (some 17) (V 8)).put (some 18) (V 9)).put (some 19) (V 10)).put (some 20) (V 11)).put (some 21) (V 12)).put (some 22) (V 13)).put (some 23) (V 14)).put (some 24) (V 15)).put (some 25) (V 16)).put (some 26) (V 17)).put (some 27) (V 18)).put (some 28) (V 19)).put (some 29) (V 20)).put (some 30) (V 21)).put (some 31) (V 22)).put (some 32) (V 23)), fun _ => rfl⟩
    rw [ha0] at hfr
    simp only [Act.put, List.setIfInBounds_toArray, List.set_cons_zero, List.set_cons_succ] at hfr
    have HFR := Lib.hid hfr
    clear hfr
    refine wpIn_region_inv (by kernel_rfl) (by kernel_rfl) (fun L A W => ∃ V : Nat → Value, A = fr V ∧ Vals (fun j => ([some (.int .i64 (x : Nat)), some (.int .i64 (y : Nat)), some (.int .i64 (nm x y : Nat)), some (.int .i64 (x : Nat)), some (.int .i64 (y : Nat)), some (.int .i64 (nm x y : Nat)), some (.pointer (some ⟨w.heap.size, nm x y, none⟩)), some (.int .u64 (f (nm x y) : Nat)), some (.int .i64 (x : Nat)), some (.int .i64 (x + 1 : Nat)), some (.int .i64 (y : Nat)), some (.int .i64 (nm (x + 1) y : Nat)), some (.pointer (some ⟨w.heap.size, nm (x + 1) y, none⟩)), some (.int .u64 (f (nm (x + 1) y) : Nat)), some (.int .u64 (notL (f (nm (x + 1) y)) : Nat)), some (.int .i64 (x : Nat)), some (.int .i64 (x + 2 : Nat)), some (.int .i64 (y : Nat)), some (.int .i64 (nm (x + 2) y : Nat)), some (.pointer (some ⟨w.heap.size, nm (x + 2) y, none⟩)), some (.int .u64 (f (nm (x + 2) y) : Nat)), some (.int .u64 (notL (f (nm (x + 1) y)) &&& f (nm (x + 2) y) : Nat)), some (.int .u64 (rowV f x y : Nat)), some (.pointer (some ⟨w.heap.size + 1 + 1, nm x y, none⟩)), none] : List (Option Value)).getD j none) L V ∧ (L 24 = false → (RI w f pre W ∧ KeepsOthers W0 W)) ∧ (L 24 = true → (RI w f (pre ++ [q]) W ∧ KeepsOthers W0 W))) ?_ ⟨?_, ?_, ?_, ?_, ?_, ?_, ?_, ?_, ?_, ?_, ?_, ?_, ?_, ?_, ?_, ?_, ?_, ?_, ?_, ?_, ?_, ?_, ?_, ?_, ?_, trivial⟩ ?_
    · refine ⟨fun j => a0.tmps.getD (([9, 10, 11, 12, 13, 14, 15, 16, 17, 18, 19, 20, 21, 22, 23, 24, 25, 26, 27, 28, 29, 30, 31, 32, 0] : List Nat).getD j 0) undef, ?_, Vals.no _ _ _ (far_none _ _ rfl), fun _ => ⟨RI.drew HI.out, keep_drew _⟩, fun h => absurd h (by decide)⟩
      rw [HFR.out, ha0]
      rfl
    all_goals clear ha0
    · rintro L A W K hL hC hW ⟨V, rfl, HV, hb, ha⟩ hK
      have h0 : L 24 = false := hC.no hL 24 _ rfl rfl
      have hB := hb h0
      have H := Lib.hid (hK _ W ⟨upd V 0 (.int .i64 (x : Nat)), rfl, HV.up 0 _ (fun x hx => Option.some.inj hx), fun _ => hB, fun h => absurd (more_ne h rfl) (by rw [h0]; simp)⟩)
      clear hK hC hW hL HV hb ha h0
      rw [HFR.out]
      clear hB
      gi_wp2_with fail
      show K _ _
      have := H.out
      rw [HFR.out] at this
      exact this
    · rintro L A W K hL hC hW ⟨V, rfl, HV, hb, ha⟩ hK
      have h0 : L 24 = false := hC.no hL 24 _ rfl rfl
      have hB := hb h0
      have H := Lib.hid (hK _ W ⟨upd V 1 (.int .i64 (y : Nat)), rfl, HV.up 1 _ (fun x hx => Option.some.inj hx), fun _ => hB, fun h => absurd (more_ne h rfl) (by rw [h0]; simp)⟩)
      clear hK hC hW hL HV hb ha h0
      rw [HFR.out]
      clear hB
      gi_wp2_with fail
      show K _ _
      have := H.out
      rw [HFR.out] at this
      exact this
    · rintro L A W K hL hC hW ⟨V, rfl, HV, hb, ha⟩ hK
      have e0 : V 0 = .int .i64 (x : Nat) := HV 0 _ rfl (hW 0 rfl)
      have e1 : V 1 = .int .i64 (y : Nat) := HV 1 _ rfl (hW 1 rfl)
      have h0 : L 24 = false := hC.no hL 24 _ rfl rfl
      have hB := hb h0
      have H := Lib.hid (hK _ W ⟨upd V 2 (.int .i64 (nm x y : Nat)), rfl, HV.up 2 _ (fun x hx => Option.some.inj hx), fun _ => hB, fun h => absurd (more_ne h rfl) (by rw [h0]; simp)⟩)
      clear hK hC hW hL HV hb ha h0
      have u0 : (upd V 2 (.int .i64 (nm x y : Nat))) 0 = .int .i64 (x : Nat) := e0
      have u1 : (upd V 2 (.int .i64 (nm x y : Nat))) 1 = .int .i64 (y : Nat) := e1
      have HU := Lib.hid (show (upd V 2 (.int .i64 (nm x y : Nat))) 0 = .int .i64 (x : Nat) ∧ (upd V 2 (.int .i64 (nm x y : Nat))) 1 = .int .i64 (y : Nat) from ⟨u0, u1⟩)
      clear u0 u1
      rw [HFR.out]
      rw [e0, e1]
      clear e0 e1
      clear hB
      gi_wp2_with fail
      refine ⟨trivial, ?_⟩
      refine (CallsIn.inRound _ (callsIn_wide.2 (number_any x y _ (by omega) (by omega)))).mono ?_
      rintro e wx ⟨rfl, rfl⟩
      gi_wp2_with fail
      show K _ _
      have := H.out
      rw [HFR.out] at this
      obtain ⟨u0, u1⟩ := HU.out
      rw [u0, u1] at this
      exact this
    · rintro L A W K hL hC hW ⟨V, rfl, HV, hb, ha⟩ hK
      have h0 : L 24 = false := hC.no hL 24 _ rfl rfl
      have hB := hb h0
      have H := Lib.hid (hK _ W ⟨upd V 3 (.int .i64 (x : Nat)), rfl, HV.up 3 _ (fun x hx => Option.some.inj hx), fun _ => hB, fun h => absurd (more_ne h rfl) (by rw [h0]; simp)⟩)
      clear hK hC hW hL HV hb ha h0
      rw [HFR.out]
      clear hB
      gi_wp2_with fail
      show K _ _
      have := H.out
      rw [HFR.out] at this
      exact this
    · rintro L A W K hL hC hW ⟨V, rfl, HV, hb, ha⟩ hK
      have h0 : L 24 = false := hC.no hL 24 _ rfl rfl
      have hB := hb h0
      have H := Lib.hid (hK _ W ⟨upd V 4 (.int .i64 (y : Nat)), rfl, HV.up 4 _ (fun x hx => Option.some.inj hx), fun _ => hB, fun h => absurd (more_ne h rfl) (by rw [h0]; simp)⟩)
      clear hK hC hW hL HV hb ha h0
      rw [HFR.out]
      clear hB
      gi_wp2_with fail
      show K _ _
      have := H.out
      rw [HFR.out] at this
      exact this
    · rintro L A W K hL hC hW ⟨V, rfl, HV, hb, ha⟩ hK
      have e3 : V 3 = .int .i64 (x : Nat) := HV 3 _ rfl (hW 3 rfl)
      have e4 : V 4 = .int .i64 (y : Nat) := HV 4 _ rfl (hW 4 rfl)
      have h0 : L 24 = false := hC.no hL 24 _ rfl rfl
      have hB := hb h0
      have H := Lib.hid (hK _ W ⟨upd V 5 (.int .i64 (nm x y : Nat)), rfl, HV.up 5 _ (fun x hx => Option.some.inj hx), fun _ => hB, fun h => absurd (more_ne h rfl) (by rw [h0]; simp)⟩)
      clear hK hC hW hL HV hb ha h0
      have u3 : (upd V 5 (.int .i64 (nm x y : Nat))) 3 = .int .i64 (x : Nat) := e3
      have u4 : (upd V 5 (.int .i64 (nm x y : Nat))) 4 = .int .i64 (y : Nat) := e4
      have HU := Lib.hid (show (upd V 5 (.int .i64 (nm x y : Nat))) 3 = .int .i64 (x : Nat) ∧ (upd V 5 (.int .i64 (nm x y : Nat))) 4 = .int .i64 (y : Nat) from ⟨u3, u4⟩)
      clear u3 u4
      rw [HFR.out]
      rw [e3, e4]
      clear e3 e4
      clear hB
      gi_wp2_with fail
      refine ⟨trivial, ?_⟩
      refine (CallsIn.inRound _ (callsIn_wide.2 (number_any x y _ (by omega) (by omega)))).mono ?_
      rintro e wx ⟨rfl, rfl⟩
      gi_wp2_with fail
      show K _ _
      have := H.out
      rw [HFR.out] at this
      obtain ⟨u3, u4⟩ := HU.out
      rw [u3, u4] at this
      exact this
    · rintro L A W K hL hC hW ⟨V, rfl, HV, hb, ha⟩ hK
      have e5 : V 5 = .int .i64 (nm x y : Nat) := HV 5 _ rfl (hW 5 rfl)
      have h0 : L 24 = false := hC.no hL 24 _ rfl rfl
      have hB := hb h0
      have H := Lib.hid (hK _ W ⟨upd V 6 (.pointer (some ⟨w.heap.size, nm x y, none⟩)), rfl, HV.up 6 _ (fun x hx => Option.some.inj hx), fun _ => hB, fun h => absurd (more_ne h rfl) (by rw [h0]; simp)⟩)
      clear hK hC hW hL HV hb ha h0
      have u5 : (upd V 6 (.pointer (some ⟨w.heap.size, nm x y, none⟩))) 5 = .int .i64 (nm x y : Nat) := e5
      have HU := Lib.hid (show (upd V 6 (.pointer (some ⟨w.heap.size, nm x y, none⟩))) 5 = .int .i64 (nm x y : Nat) from u5)
      clear u5
      rw [HFR.out]
      rw [e5]
      clear e5
      have hi := nm_lt x y
      have h1 : (0 : Int) ≤ (nm x y : Int) := by omega
      have h2 : (nm x y : Int) < 25 := by omega
      clear hB
      gi_wp2_with fail
      show K _ _
      have := H.out
      rw [HFR.out] at this
      obtain u5 := HU.out
      rw [u5] at this
      exact this
    · rintro L A W K hL hC hW ⟨V, rfl, HV, hb, ha⟩ hK
      have e6 : V 6 = .pointer (some ⟨w.heap.size, nm x y, none⟩) := HV 6 _ rfl (hW 6 rfl)
      have h0 : L 24 = false := hC.no hL 24 _ rfl rfl
      have hB := hb h0
      have H := Lib.hid (hK _ W ⟨upd V 7 (.int .u64 (f (nm x y) : Nat)), rfl, HV.up 7 _ (fun x hx => Option.some.inj hx), fun _ => hB, fun h => absurd (more_ne h rfl) (by rw [h0]; simp)⟩)
      clear hK hC hW hL HV hb ha h0
      have u6 : (upd V 7 (.int .u64 (f (nm x y) : Nat))) 6 = .pointer (some ⟨w.heap.size, nm x y, none⟩) := e6
      have HU := Lib.hid (show (upd V 7 (.int .u64 (f (nm x y) : Nat))) 6 = .pointer (some ⟨w.heap.size, nm x y, none⟩) from u6)
      clear u6
      rw [HFR.out]
      rw [e6]
      clear e6
      have hc := Ln.cell hB.1.1 (nm x y) (nm_lt _ _)
      clear hB
      gi_wp2_with fail
      show K _ _
      have := H.out
      rw [HFR.out] at this
      obtain u6 := HU.out
      rw [u6] at this
      exact this
    · rintro L A W K hL hC hW ⟨V, rfl, HV, hb, ha⟩ hK
      have h0 : L 24 = false := hC.no hL 24 _ rfl rfl
      have hB := hb h0
      have H := Lib.hid (hK _ W ⟨upd V 8 (.int .i64 (x : Nat)), rfl, HV.up 8 _ (fun x hx => Option.some.inj hx), fun _ => hB, fun h => absurd (more_ne h rfl) (by rw [h0]; simp)⟩)
      clear hK hC hW hL HV hb ha h0
      rw [HFR.out]
      clear hB
      gi_wp2_with fail
      show K _ _
      have := H.out
      rw [HFR.out] at this
      exact this
    · rintro L A W K hL hC hW ⟨V, rfl, HV, hb, ha⟩ hK
      have e8 : V 8 = .int .i64 (x : Nat) := HV 8 _ rfl (hW 8 rfl)
      have h0 : L 24 = false := hC.no hL 24 _ rfl rfl
      have hB := hb h0
      have H := Lib.hid (hK _ W ⟨upd V 9 (.int .i64 (x + 1 : Nat)), rfl, HV.up 9 _ (fun x hx => Option.some.inj hx), fun _ => hB, fun h => absurd (more_ne h rfl) (by rw [h0]; simp)⟩)
      clear hK hC hW hL HV hb ha h0
      have u8 : (upd V 9 (.int .i64 (x + 1 : Nat))) 8 = .int .i64 (x : Nat) := e8
      have HU := Lib.hid (show (upd V 9 (.int .i64 (x + 1 : Nat))) 8 = .int .i64 (x : Nat) from u8)
      clear u8
      rw [HFR.out]
      rw [e8]
      clear e8
      have hq : IntKind.i64.wrap ((x : Int) + 1) = ((x + 1 : Nat) : Int) := by rw [IntWalk.i64_in _ (by omega)]; omega
      clear hB
      gi_wp2_with fail
      show K _ _
      have := H.out
      rw [HFR.out] at this
      obtain u8 := HU.out
      rw [u8] at this
      exact this
    · rintro L A W K hL hC hW ⟨V, rfl, HV, hb, ha⟩ hK
      have h0 : L 24 = false := hC.no hL 24 _ rfl rfl
      have hB := hb h0
      have H := Lib.hid (hK _ W ⟨upd V 10 (.int .i64 (y : Nat)), rfl, HV.up 10 _ (fun x hx => Option.some.inj hx), fun _ => hB, fun h => absurd (more_ne h rfl) (by rw [h0]; simp)⟩)
      clear hK hC hW hL HV hb ha h0
      rw [HFR.out]
      clear hB
      gi_wp2_with fail
      show K _ _
      have := H.out
      rw [HFR.out] at this
      exact this
    · rintro L A W K hL hC hW ⟨V, rfl, HV, hb, ha⟩ hK
      have e9 : V 9 = .int .i64 (x + 1 : Nat) := HV 9 _ rfl (hW 9 rfl)
      have e10 : V 10 = .int .i64 (y : Nat) := HV 10 _ rfl (hW 10 rfl)
      have h0 : L 24 = false := hC.no hL 24 _ rfl rfl
      have hB := hb h0
      have H := Lib.hid (hK _ W ⟨upd V 11 (.int .i64 (nm (x + 1) y : Nat)), rfl, HV.up 11 _ (fun x hx => Option.some.inj hx), fun _ => hB, fun h => absurd (more_ne h rfl) (by rw [h0]; simp)⟩)
      clear hK hC hW hL HV hb ha h0
      have u9 : (upd V 11 (.int .i64 (nm (x + 1) y : Nat))) 9 = .int .i64 (x + 1 : Nat) := e9
      have u10 : (upd V 11 (.int .i64 (nm (x + 1) y : Nat))) 10 = .int .i64 (y : Nat) := e10
      have HU := Lib.hid (show (upd V 11 (.int .i64 (nm (x + 1) y : Nat))) 9 = .int .i64 (x + 1 : Nat) ∧ (upd V 11 (.int .i64 (nm (x + 1) y : Nat))) 10 = .int .i64 (y : Nat) from ⟨u9, u10⟩)
      clear u9 u10
      rw [HFR.out]
      rw [e9, e10]
      clear e9 e10
      clear hB
      gi_wp2_with fail
      refine ⟨trivial, ?_⟩
      refine (CallsIn.inRound _ (callsIn_wide.2 (number_any (x + 1) y _ (by omega) (by omega)))).mono ?_
      rintro e wx ⟨rfl, rfl⟩
      gi_wp2_with fail
      show K _ _
      have := H.out
      rw [HFR.out] at this
      obtain ⟨u9, u10⟩ := HU.out
      rw [u9, u10] at this
      exact this
    · rintro L A W K hL hC hW ⟨V, rfl, HV, hb, ha⟩ hK
      have e11 : V 11 = .int .i64 (nm (x + 1) y : Nat) := HV 11 _ rfl (hW 11 rfl)
      have h0 : L 24 = false := hC.no hL 24 _ rfl rfl
      have hB := hb h0
      have H := Lib.hid (hK _ W ⟨upd V 12 (.pointer (some ⟨w.heap.size, nm (x + 1) y, none⟩)), rfl, HV.up 12 _ (fun x hx => Option.some.inj hx), fun _ => hB, fun h => absurd (more_ne h rfl) (by rw [h0]; simp)⟩)
      clear hK hC hW hL HV hb ha h0
      have u11 : (upd V 12 (.pointer (some ⟨w.heap.size, nm (x + 1) y, none⟩))) 11 = .int .i64 (nm (x + 1) y : Nat) := e11
      have HU := Lib.hid (show (upd V 12 (.pointer (some ⟨w.heap.size, nm (x + 1) y, none⟩))) 11 = .int .i64 (nm (x + 1) y : Nat) from u11)
      clear u11
      rw [HFR.out]
      rw [e11]
      clear e11
      have hi := nm_lt (x + 1) y
      have h1 : (0 : Int) ≤ (nm (x + 1) y : Int) := by omega
      have h2 : (nm (x + 1) y : Int) < 25 := by omega
      clear hB
      gi_wp2_with fail
      show K _ _
      have := H.out
      rw [HFR.out] at this
      obtain u11 := HU.out
      rw [u11] at this
      exact this
    · rintro L A W K hL hC hW ⟨V, rfl, HV, hb, ha⟩ hK
      have e12 : V 12 = .pointer (some ⟨w.heap.size, nm (x + 1) y, none⟩) := HV 12 _ rfl (hW 12 rfl)
      have h0 : L 24 = false := hC.no hL 24 _ rfl rfl
      have hB := hb h0
      have H := Lib.hid (hK _ W ⟨upd V 13 (.int .u64 (f (nm (x + 1) y) : Nat)), rfl, HV.up 13 _ (fun x hx => Option.some.inj hx), fun _ => hB, fun h => absurd (more_ne h rfl) (by rw [h0]; simp)⟩)
      clear hK hC hW hL HV hb ha h0
      have u12 : (upd V 13 (.int .u64 (f (nm (x + 1) y) : Nat))) 12 = .pointer (some ⟨w.heap.size, nm (x + 1) y, none⟩) := e12
      have HU := Lib.hid (show (upd V 13 (.int .u64 (f (nm (x + 1) y) : Nat))) 12 = .pointer (some ⟨w.heap.size, nm (x + 1) y, none⟩) from u12)
      clear u12
      rw [HFR.out]
      rw [e12]
      clear e12
      have hc := Ln.cell hB.1.1 (nm (x + 1) y) (nm_lt _ _)
      clear hB
      gi_wp2_with fail
      show K _ _
      have := H.out
      rw [HFR.out] at this
      obtain u12 := HU.out
      rw [u12] at this
      exact this
    · rintro L A W K hL hC hW ⟨V, rfl, HV, hb, ha⟩ hK
      have e13 : V 13 = .int .u64 (f (nm (x + 1) y) : Nat) := HV 13 _ rfl (hW 13 rfl)
      have h0 : L 24 = false := hC.no hL 24 _ rfl rfl
      have hB := hb h0
      have H := Lib.hid (hK _ W ⟨upd V 14 (.int .u64 (notL (f (nm (x + 1) y)) : Nat)), rfl, HV.up 14 _ (fun x hx => Option.some.inj hx), fun _ => hB, fun h => absurd (more_ne h rfl) (by rw [h0]; simp)⟩)
      clear hK hC hW hL HV hb ha h0
      have u13 : (upd V 14 (.int .u64 (notL (f (nm (x + 1) y)) : Nat))) 13 = .int .u64 (f (nm (x + 1) y) : Nat) := e13
      have HU := Lib.hid (show (upd V 14 (.int .u64 (notL (f (nm (x + 1) y)) : Nat))) 13 = .int .u64 (f (nm (x + 1) y) : Nat) from u13)
      clear u13
      rw [HFR.out]
      rw [e13]
      clear e13
      have hn := not_u64 (f (nm (x + 1) y)) (HF.out _ (nm_lt _ _))
      clear hB
      gi_wp2_with fail
      show K _ _
      have := H.out
      rw [HFR.out] at this
      obtain u13 := HU.out
      rw [u13] at this
      exact this
    · rintro L A W K hL hC hW ⟨V, rfl, HV, hb, ha⟩ hK
      have h0 : L 24 = false := hC.no hL 24 _ rfl rfl
      have hB := hb h0
      have H := Lib.hid (hK _ W ⟨upd V 15 (.int .i64 (x : Nat)), rfl, HV.up 15 _ (fun x hx => Option.some.inj hx), fun _ => hB, fun h => absurd (more_ne h rfl) (by rw [h0]; simp)⟩)
      clear hK hC hW hL HV hb ha h0
      rw [HFR.out]
      clear hB
      gi_wp2_with fail
      show K _ _
      have := H.out
      rw [HFR.out] at this
      exact this
    · rintro L A W K hL hC hW ⟨V, rfl, HV, hb, ha⟩ hK
      have e15 : V 15 = .int .i64 (x : Nat) := HV 15 _ rfl (hW 15 rfl)
      have h0 : L 24 = false := hC.no hL 24 _ rfl rfl
      have hB := hb h0
      have H := Lib.hid (hK _ W ⟨upd V 16 (.int .i64 (x + 2 : Nat)), rfl, HV.up 16 _ (fun x hx => Option.some.inj hx), fun _ => hB, fun h => absurd (more_ne h rfl) (by rw [h0]; simp)⟩)
      clear hK hC hW hL HV hb ha h0
      have u15 : (upd V 16 (.int .i64 (x + 2 : Nat))) 15 = .int .i64 (x : Nat) := e15
      have HU := Lib.hid (show (upd V 16 (.int .i64 (x + 2 : Nat))) 15 = .int .i64 (x : Nat) from u15)
      clear u15
      rw [HFR.out]
      rw [e15]
      clear e15
      have hq : IntKind.i64.wrap ((x : Int) + 2) = ((x + 2 : Nat) : Int) := by rw [IntWalk.i64_in _ (by omega)]; omega
      clear hB
      gi_wp2_with fail
      show K _ _
      have := H.out
      rw [HFR.out] at this
      obtain u15 := HU.out
      rw [u15] at this
      exact this
    · rintro L A W K hL hC hW ⟨V, rfl, HV, hb, ha⟩ hK
      have h0 : L 24 = false := hC.no hL 24 _ rfl rfl
      have hB := hb h0
      have H := Lib.hid (hK _ W ⟨upd V 17 (.int .i64 (y : Nat)), rfl, HV.up 17 _ (fun x hx => Option.some.inj hx), fun _ => hB, fun h => absurd (more_ne h rfl) (by rw [h0]; simp)⟩)
      clear hK hC hW hL HV hb ha h0
      rw [HFR.out]
      clear hB
      gi_wp2_with fail
      show K _ _
      have := H.out
      rw [HFR.out] at this
      exact this
    · rintro L A W K hL hC hW ⟨V, rfl, HV, hb, ha⟩ hK
      have e16 : V 16 = .int .i64 (x + 2 : Nat) := HV 16 _ rfl (hW 16 rfl)
      have e17 : V 17 = .int .i64 (y : Nat) := HV 17 _ rfl (hW 17 rfl)
      have h0 : L 24 = false := hC.no hL 24 _ rfl rfl
      have hB := hb h0
      have H := Lib.hid (hK _ W ⟨upd V 18 (.int .i64 (nm (x + 2) y : Nat)), rfl, HV.up 18 _ (fun x hx => Option.some.inj hx), fun _ => hB, fun h => absurd (more_ne h rfl) (by rw [h0]; simp)⟩)
      clear hK hC hW hL HV hb ha h0
      have u16 : (upd V 18 (.int .i64 (nm (x + 2) y : Nat))) 16 = .int .i64 (x + 2 : Nat) := e16
      have u17 : (upd V 18 (.int .i64 (nm (x + 2) y : Nat))) 17 = .int .i64 (y : Nat) := e17
      have HU := Lib.hid (show (upd V 18 (.int .i64 (nm (x + 2) y : Nat))) 16 = .int .i64 (x + 2 : Nat) ∧ (upd V 18 (.int .i64 (nm (x + 2) y : Nat))) 17 = .int .i64 (y : Nat) from ⟨u16, u17⟩)
      clear u16 u17
      rw [HFR.out]
      rw [e16, e17]
      clear e16 e17
      clear hB
      gi_wp2_with fail
      refine ⟨trivial, ?_⟩
      refine (CallsIn.inRound _ (callsIn_wide.2 (number_any (x + 2) y _ (by omega) (by omega)))).mono ?_
      rintro e wx ⟨rfl, rfl⟩
      gi_wp2_with fail
      show K _ _
      have := H.out
      rw [HFR.out] at this
      obtain ⟨u16, u17⟩ := HU.out
      rw [u16, u17] at this
      exact this
    · rintro L A W K hL hC hW ⟨V, rfl, HV, hb, ha⟩ hK
      have e18 : V 18 = .int .i64 (nm (x + 2) y : Nat) := HV 18 _ rfl (hW 18 rfl)
      have h0 : L 24 = false := hC.no hL 24 _ rfl rfl
      have hB := hb h0
      have H := Lib.hid (hK _ W ⟨upd V 19 (.pointer (some ⟨w.heap.size, nm (x + 2) y, none⟩)), rfl, HV.up 19 _ (fun x hx => Option.some.inj hx), fun _ => hB, fun h => absurd (more_ne h rfl) (by rw [h0]; simp)⟩)
      clear hK hC hW hL HV hb ha h0
      have u18 : (upd V 19 (.pointer (some ⟨w.heap.size, nm (x + 2) y, none⟩))) 18 = .int .i64 (nm (x + 2) y : Nat) := e18
      have HU := Lib.hid (show (upd V 19 (.pointer (some ⟨w.heap.size, nm (x + 2) y, none⟩))) 18 = .int .i64 (nm (x + 2) y : Nat) from u18)
      clear u18
      rw [HFR.out]
      rw [e18]
      clear e18
      have hi := nm_lt (x + 2) y
      have h1 : (0 : Int) ≤ (nm (x + 2) y : Int) := by omega
      have h2 : (nm (x + 2) y : Int) < 25 := by omega
      clear hB
      gi_wp2_with fail
      show K _ _
      have := H.out
      rw [HFR.out] at this
      obtain u18 := HU.out
      rw [u18] at this
      exact this
    · rintro L A W K hL hC hW ⟨V, rfl, HV, hb, ha⟩ hK
      have e19 : V 19 = .pointer (some ⟨w.heap.size, nm (x + 2) y, none⟩) := HV 19 _ rfl (hW 19 rfl)
      have h0 : L 24 = false := hC.no hL 24 _ rfl rfl
      have hB := hb h0
      have H := Lib.hid (hK _ W ⟨upd V 20 (.int .u64 (f (nm (x + 2) y) : Nat)), rfl, HV.up 20 _ (fun x hx => Option.some.inj hx), fun _ => hB, fun h => absurd (more_ne h rfl) (by rw [h0]; simp)⟩)
      clear hK hC hW hL HV hb ha h0
      have u19 : (upd V 20 (.int .u64 (f (nm (x + 2) y) : Nat))) 19 = .pointer (some ⟨w.heap.size, nm (x + 2) y, none⟩) := e19
      have HU := Lib.hid (show (upd V 20 (.int .u64 (f (nm (x + 2) y) : Nat))) 19 = .pointer (some ⟨w.heap.size, nm (x + 2) y, none⟩) from u19)
      clear u19
      rw [HFR.out]
      rw [e19]
      clear e19
      have hc := Ln.cell hB.1.1 (nm (x + 2) y) (nm_lt _ _)
      clear hB
      gi_wp2_with fail
      show K _ _
      have := H.out
      rw [HFR.out] at this
      obtain u19 := HU.out
      rw [u19] at this
      exact this
    · rintro L A W K hL hC hW ⟨V, rfl, HV, hb, ha⟩ hK
      have e14 : V 14 = .int .u64 (notL (f (nm (x + 1) y)) : Nat) := HV 14 _ rfl (hW 14 rfl)
      have e20 : V 20 = .int .u64 (f (nm (x + 2) y) : Nat) := HV 20 _ rfl (hW 20 rfl)
      have h0 : L 24 = false := hC.no hL 24 _ rfl rfl
      have hB := hb h0
      have H := Lib.hid (hK _ W ⟨upd V 21 (.int .u64 (notL (f (nm (x + 1) y)) &&& f (nm (x + 2) y) : Nat)), rfl, HV.up 21 _ (fun x hx => Option.some.inj hx), fun _ => hB, fun h => absurd (more_ne h rfl) (by rw [h0]; simp)⟩)
      clear hK hC hW hL HV hb ha h0
      have u14 : (upd V 21 (.int .u64 (notL (f (nm (x + 1) y)) &&& f (nm (x + 2) y) : Nat))) 14 = .int .u64 (notL (f (nm (x + 1) y)) : Nat) := e14
      have u20 : (upd V 21 (.int .u64 (notL (f (nm (x + 1) y)) &&& f (nm (x + 2) y) : Nat))) 20 = .int .u64 (f (nm (x + 2) y) : Nat) := e20
      have HU := Lib.hid (show (upd V 21 (.int .u64 (notL (f (nm (x + 1) y)) &&& f (nm (x + 2) y) : Nat))) 14 = .int .u64 (notL (f (nm (x + 1) y)) : Nat) ∧ (upd V 21 (.int .u64 (notL (f (nm (x + 1) y)) &&& f (nm (x + 2) y) : Nat))) 20 = .int .u64 (f (nm (x + 2) y) : Nat) from ⟨u14, u20⟩)
      clear u14 u20
      rw [HFR.out]
      rw [e14, e20]
      clear e14 e20
      have hn := u64_and_nat (notL (f (nm (x + 1) y))) (f (nm (x + 2) y)) (notL_lt _ (HF.out _ (nm_lt _ _))) (HF.out _ (nm_lt _ _))
      clear hB
      gi_wp2_with fail
      show K _ _
      have := H.out
      rw [HFR.out] at this
      obtain ⟨u14, u20⟩ := HU.out
      rw [u14, u20] at this
      exact this
    · rintro L A W K hL hC hW ⟨V, rfl, HV, hb, ha⟩ hK
      have e7 : V 7 = .int .u64 (f (nm x y) : Nat) := HV 7 _ rfl (hW 7 rfl)
      have e21 : V 21 = .int .u64 (notL (f (nm (x + 1) y)) &&& f (nm (x + 2) y) : Nat) := HV 21 _ rfl (hW 21 rfl)
      have h0 : L 24 = false := hC.no hL 24 _ rfl rfl
      have hB := hb h0
      have H := Lib.hid (hK _ W ⟨upd V 22 (.int .u64 (rowV f x y : Nat)), rfl, HV.up 22 _ (fun x hx => Option.some.inj hx), fun _ => hB, fun h => absurd (more_ne h rfl) (by rw [h0]; simp)⟩)
      clear hK hC hW hL HV hb ha h0
      have u7 : (upd V 22 (.int .u64 (rowV f x y : Nat))) 7 = .int .u64 (f (nm x y) : Nat) := e7
      have u21 : (upd V 22 (.int .u64 (rowV f x y : Nat))) 21 = .int .u64 (notL (f (nm (x + 1) y)) &&& f (nm (x + 2) y) : Nat) := e21
      have HU := Lib.hid (show (upd V 22 (.int .u64 (rowV f x y : Nat))) 7 = .int .u64 (f (nm x y) : Nat) ∧ (upd V 22 (.int .u64 (rowV f x y : Nat))) 21 = .int .u64 (notL (f (nm (x + 1) y)) &&& f (nm (x + 2) y) : Nat) from ⟨u7, u21⟩)
      clear u7 u21
      rw [HFR.out]
      rw [e7, e21]
      clear e7 e21
      have hn := u64_xor_nat (f (nm x y)) (notL (f (nm (x + 1) y)) &&& f (nm (x + 2) y)) (HF.out _ (nm_lt _ _)) (and_lt64 _ _ (HF.out _ (nm_lt _ _)))
      clear hB
      gi_wp2_with fail
      show K _ _
      have := H.out
      rw [HFR.out] at this
      obtain ⟨u7, u21⟩ := HU.out
      rw [u7, u21] at this
      exact this
    · rintro L A W K hL hC hW ⟨V, rfl, HV, hb, ha⟩ hK
      have e2 : V 2 = .int .i64 (nm x y : Nat) := HV 2 _ rfl (hW 2 rfl)
      have h0 : L 24 = false := hC.no hL 24 _ rfl rfl
      have hB := hb h0
      have H := Lib.hid (hK _ W ⟨upd V 23 (.pointer (some ⟨w.heap.size + 1 + 1, nm x y, none⟩)), rfl, HV.up 23 _ (fun x hx => Option.some.inj hx), fun _ => hB, fun h => absurd (more_ne h rfl) (by rw [h0]; simp)⟩)
      clear hK hC hW hL HV hb ha h0
      have u2 : (upd V 23 (.pointer (some ⟨w.heap.size + 1 + 1, nm x y, none⟩))) 2 = .int .i64 (nm x y : Nat) := e2
      have HU := Lib.hid (show (upd V 23 (.pointer (some ⟨w.heap.size + 1 + 1, nm x y, none⟩))) 2 = .int .i64 (nm x y : Nat) from u2)
      clear u2
      rw [HFR.out]
      rw [e2]
      clear e2
      have hi := nm_lt x y
      have h1 : (0 : Int) ≤ (nm x y : Int) := by omega
      have h2 : (nm x y : Int) < 25 := by omega
      clear hB
      gi_wp2_with fail
      show K _ _
      have := H.out
      rw [HFR.out] at this
      obtain u2 := HU.out
      rw [u2] at this
      exact this
    · rintro L A W K hL hC hW ⟨V, rfl, HV, hb, ha⟩ hK
      have e23 : V 23 = .pointer (some ⟨w.heap.size + 1 + 1, nm x y, none⟩) := HV 23 _ rfl (hW 23 rfl)
      have e22 : V 22 = .int .u64 (rowV f x y : Nat) := HV 22 _ rfl (hW 22 rfl)
      have hB := hb hL
      have H := Lib.hid (show ∀ W', (RI w f (pre ++ [q]) W' ∧ KeepsOthers W0 W') → K (fr V) W' from fun W' hA => hK _ W' ⟨V, rfl, HV.st 24 rfl, fun h => absurd h (by unfold More; rw [if_pos rfl]; simp), fun _ => hA⟩)
      clear hK hC hW hL HV hb ha
      have HU := Lib.hid (show V 23 = .pointer (some ⟨w.heap.size + 1 + 1, nm x y, none⟩) ∧ V 22 = .int .u64 (rowV f x y : Nat) from ⟨e23, e22⟩)
      rw [HFR.out]
      rw [e23, e22]
      clear e23 e22
      have hz := Ln.cell hB.1.2.2.1 (nm x y) (nm_lt _ _)
      have hf := Cs.frozen hB.1.2.2.1 (nm x y)
      have HA := Lib.hid (And.intro (RI.put hB.1 q (rowV f x y) (nm x y) HNM.out HV.out) (hB.2.trans (keep_set hB.1.2.2.1 (nm x y) (.int .u64 (rowV f x y : Nat)))))
      clear hB
      gi_wp2_with fail
      show K _ _
      have := H.out _ HA.out
      rw [HFR.out] at this
      obtain ⟨u23, u22⟩ := HU.out
      rw [u23, u22] at this
      exact this
    · rintro L A W hL ⟨V, rfl, HV, hb, ha⟩
      have e0 : V 0 = .int .i64 (x : Nat) := HV 0 _ rfl (hL 0 (by simp))
      have e1 : V 1 = .int .i64 (y : Nat) := HV 1 _ rfl (hL 1 (by simp))
      have e2 : V 2 = .int .i64 (nm x y : Nat) := HV 2 _ rfl (hL 2 (by simp))
      have e3 : V 3 = .int .i64 (x : Nat) := HV 3 _ rfl (hL 3 (by simp))
      have e4 : V 4 = .int .i64 (y : Nat) := HV 4 _ rfl (hL 4 (by simp))
      have e5 : V 5 = .int .i64 (nm x y : Nat) := HV 5 _ rfl (hL 5 (by simp))
      have e6 : V 6 = .pointer (some ⟨w.heap.size, nm x y, none⟩) := HV 6 _ rfl (hL 6 (by simp))
      have e7 : V 7 = .int .u64 (f (nm x y) : Nat) := HV 7 _ rfl (hL 7 (by simp))
      have e8 : V 8 = .int .i64 (x : Nat) := HV 8 _ rfl (hL 8 (by simp))
      have e9 : V 9 = .int .i64 (x + 1 : Nat) := HV 9 _ rfl (hL 9 (by simp))
      have e10 : V 10 = .int .i64 (y : Nat) := HV 10 _ rfl (hL 10 (by simp))
      have e11 : V 11 = .int .i64 (nm (x + 1) y : Nat) := HV 11 _ rfl (hL 11 (by simp))
      have e12 : V 12 = .pointer (some ⟨w.heap.size, nm (x + 1) y, none⟩) := HV 12 _ rfl (hL 12 (by simp))
      have e13 : V 13 = .int .u64 (f (nm (x + 1) y) : Nat) := HV 13 _ rfl (hL 13 (by simp))
      have e14 : V 14 = .int .u64 (notL (f (nm (x + 1) y)) : Nat) := HV 14 _ rfl (hL 14 (by simp))
      have e15 : V 15 = .int .i64 (x : Nat) := HV 15 _ rfl (hL 15 (by simp))
      have e16 : V 16 = .int .i64 (x + 2 : Nat) := HV 16 _ rfl (hL 16 (by simp))
      have e17 : V 17 = .int .i64 (y : Nat) := HV 17 _ rfl (hL 17 (by simp))
      have e18 : V 18 = .int .i64 (nm (x + 2) y : Nat) := HV 18 _ rfl (hL 18 (by simp))
      have e19 : V 19 = .pointer (some ⟨w.heap.size, nm (x + 2) y, none⟩) := HV 19 _ rfl (hL 19 (by simp))
      have e20 : V 20 = .int .u64 (f (nm (x + 2) y) : Nat) := HV 20 _ rfl (hL 20 (by simp))
      have e21 : V 21 = .int .u64 (notL (f (nm (x + 1) y)) &&& f (nm (x + 2) y) : Nat) := HV 21 _ rfl (hL 21 (by simp))
      have e22 : V 22 = .int .u64 (rowV f x y : Nat) := HV 22 _ rfl (hL 22 (by simp))
      have e23 : V 23 = .pointer (some ⟨w.heap.size + 1 + 1, nm x y, none⟩) := HV 23 _ rfl (hL 23 (by simp))
      have hA := ha (hL 24 (by simp))
      rw [HFR.out]
      rw [e0, e1, e2, e3, e4, e5, e6, e7, e8, e9, e10, e11, e12, e13, e14, e15, e16, e17, e18, e19, e20, e21, e22, e23]
      clear hL HV HFR e0 e1 e2 e3 e4 e5 e6 e7 e8 e9 e10 e11 e12 e13 e14 e15 e16 e17 e18 e19 e20 e21 e22 e23 hb ha
      exact ⟨hA.2.from _, trivial, hA.1⟩
  case done =>
    rintro D ys W hD rfl hI hK
    have HK := Lib.hid hK
    have HI2 := Lib.hid (show Ln W (w.heap.size + 1 + 1) (rowF f) by have h := hI.2.2.1; unfold Ln at h ⊢; rwa [lc_congr (ptF_all (rowF f))] at h)
    have HZ2 := Lib.hid hI.2.1
    have HE2 := Lib.hid hI.2.2.2
    clear hK hI HI HZ
    gi_wp2_with (first
      | ((with_reducible refine wpListIn_load_lanes ?_ (.tmp 3) ?_ (w.heap.size + 1 + 1) (rowF f) ?_ ?_ ?_); (exact rfl); (exact rfl); (exact rfl); (exact HI2.out))
      | ((with_reducible refine wpListIn_store_lanes ?_ ?_ (.tmp 2) (.tmp 33) ?_ (w.heap.size + 1) (lc fun _ => 0) (rowF f) ?_ ?_ ?_ ?_ ?_); (exact rfl); (exact rfl); (exact rfl); (exact rfl); (exact rfl); (exact HZ2.out); (exact lc_size _); intro w4 k4 g4; have K4 := Lib.hid k4; have G4 := Lib.hid g4; clear k4 g4))
    have hK' := (KeepsOthers.of_grownBy G4.out (fun j o e ho => by injection e with e; subst e; have := HZ2.out; unfold Ln Cs at this; rw [this] at ho; injection ho with ho; subst ho; rfl)).same D _ HK.out rfl
    refine ⟨by simp, .inl ⟨_, _, rfl, run_takeDeferred hK', ?_⟩⟩
    exact ⟨_, results_lanes Tryd.results20 _ _ (w.heap.size + 1) (rowF f) rfl (K4.out.kept (grownBy_putObj' _ D (.deferred none)) (some_ne (by omega))), rfl, (HE2.out.grown G4.out (by omega)).grown (grownBy_putObj' _ D (.deferred none)) (by omega)⟩
  case stop =>
    rintro D c pre W _ _ h _
    exact h.elim
end Go.Proofs.YthjmjccggkejhaaDoor
