/- Package state: room. -/
import Derived.Test.YtnjpdchmdimaaaaGreatQSte
import Derived.Test.YtnjpdchmdimaaaaGreatQWsq
namespace Go.Proofs.YtnjpdchmdimaaaaGreat
open Go.ChangeShapes Go.WideShapes Go.ChangeAt Go.RowKit Go.Shelf
attribute [local go_sem] Oper.semAt_some

theorem wpListIn_append_row {F : Fence} {k : Nat} {P : Program} {w : World} {ops : Array Oper} {rest : List Oper} {o : Oper} {a : Act} {Q : Exit → Act → World → Prop} (hgd : o.guard = none) (s x : Operand) (t : TypeId)
  (ho : o.op = .call { callee := .builtin .append, args := #[s, x], argTypes := #[t, t] }) (base : Nat) (e : TypeId) (ht : P.underlying t = some (.slice e)) (z : Value) (sz bytes : Nat)
  (hinfo : (P.info? e).map (fun i => (i.zero, i.size, i.bytes)) = some (some z, sz, bytes)) (hzs : z.cells.size = sz) (hsz : 0 < sz)
  (v : Value) (n : Nat) (cs : List Value) (hs : a.eval s = v) (hown : w.ownsRow base e sz v n cs) (sv : Value) (m : Nat) (ds : List Value) (hx : a.eval x = sv) (hb : Rs w sz sv m ds) (h1c : ∀ u ∈ ds, u.oneCell' = true)
  (hlen : n + m ≤ 1099511627776) (hby : bytes ≤ 128) (hbase : base ≤ w.heap.size)
  (hK : ∀ v' w', w'.ownsRow base e sz v' (n + m) (cs ++ ds) → w.grownBy w' v.ownBlock → (v'.ownBlock = v.ownBlock ∨ v'.ownBlock = some w.heap.size) → wpListIn F k P ops Q rest (a.put o.dst v') w') :
  wpListIn F k P ops Q (o :: rest) a w := by
 obtain ⟨v', w', hr, h4, h5, h6⟩ := run_append_row (P := P) t o.type base e ht z sz bytes hinfo hzs hsz v n cs hown sv m ds hb h1c hlen hby hbase
 refine wpListIn_plain hgd fun K hK' => ?_
 unfold Oper.wpIn
 refine ⟨?_, ?_⟩
 ·simp [Oper.about, ho, resolve, Target.leads, Sem.run_pure]
 ·rw [Oper.semAt_plain F _ _ (by rw [ho]; intro c hc'; cases hc')]
  simp [execOp, ho, resolve, invoke, builtin, hs, hx, hr, Result.andThen]
  exact hK' _ _ (hK v' w' h4 h5 h6)
theorem wpListIn_build_one {F : Fence} {k : Nat} {P : Program} {ops : Array Oper} {rest : List Oper} {o : Oper} {a : Act} {W : World} {Q : Exit → Act → World → Prop} (hgd : o.guard = none) (x : Operand) (T E : TypeId) (ho : o.op = .buildSlice T 1 #[(0, x)])
  (hT : P.underlying T = some (.slice E)) (z : Value) (s bytes : Nat) (hinfo : (P.info? E).map (fun i => (i.zero, i.size, i.bytes)) = some (some z, s, bytes)) (h0 : 0 < s) (hs : s ≤ 1000) (cs : Array Value) (hcs : cs.size = s) (hx : a.eval x = .agg cs)
  (h : wpListIn F k P ops Q rest (a.put o.dst (.slice (some ⟨W.heap.size, 0, none⟩) 1 1)) (W.alloc (.cells cs E))) : wpListIn F k P ops Q (o :: rest) a W := by
 refine wpListIn_plain hgd fun K hK' => ?_
 have hK := hK' _ _ h
 have hp : (#[(0, x)] : Array (Nat × Operand)).map (fun (i, x) => (i, a.eval x)) = #[(0, .agg cs)] := by simp [hx]
 unfold Oper.wpIn
 refine ⟨by simp [Oper.about, ho], ?_⟩
 rw [Oper.semAt_plain F _ _ (by rw [ho]; intro c hc'; cases hc')]
 have hrun : (execOp a.eval o).run P W = .ok (.value (.slice (some ⟨W.heap.size, 0, none⟩) 1 1)) (W.alloc (.cells cs E)) := by
  simp only [execOp, ho]
  rw [hp]
  have := run_build_one (P := P) (W := W) T E hT z s bytes hinfo h0 hs cs hcs
  generalize Instr.buildSlice T 1 #[(0, .agg cs)] = X at this ⊢
  simp [go_sem, this]
 rw [hrun]
 exact hK
theorem row_own {B base s n : Nat} {X Y : World} {row : Option Nat} {e : TypeId} {v : Value} {cs : List Value} (h : X.ownsRow base e s v n cs) (hg : X.grownBy Y row) (hr : ∀ r, row = some r → B ≤ r ∧ ∃ o : Obj, X.heap[r]? = some o ∧ o.isCells = false) : Y.ownsRow base e s v n cs := by
 refine h.kept hg ?_
 rcases h.2 with ⟨rfl, _⟩ | ⟨g, cap, cur, rfl, hb, hgg, _⟩
 ·exact .inl rfl
 ·refine .inr (fun e => ?_)
  obtain ⟨_, o, ho, hc⟩ := hr g (by rw [← e]; rfl)
  rw [hgg] at ho
  cases ho
  cases hc
theorem keeps_own {W W' : World} {base s n : Nat} {e : TypeId} {v : Value} {cs : List Value} (h : W.ownsRow base e s v n cs) (hg : W.grownBy W' v.ownBlock) : KeepsOthers W W' := KeepsOthers.of_grownBy hg (fun j o e ho => by
 rcases h.2 with ⟨rfl, _⟩ | ⟨g, cap, cur, rfl, hb, hgg, _⟩
 ·cases e
 ·injection e with e
  subst e
  rw [hgg] at ho
  cases ho
  rfl)
theorem Ws.rs {W : World} {v : Value} {l : List Nat} (h : Ws W v l) : Rs W 4 v l.length (wcs l) := by
 obtain ⟨A, c, e, h1, h2, h3, h4⟩ := h
 refine ⟨wcs_length l, A, c, e, h1, h2, fun hp => ?_⟩
 obtain ⟨b, o, ea, hc⟩ := h3 hp
 refine ⟨b, o, ea, fun i u hu => ?_⟩
 have hi : i < l.length * 4 := by rw [← wcs_length]; exact (List.getElem?_eq_some_iff.1 hu).1
 have e1 : i / 4 * 4 + i % 4 = i := by omega
 have hg := wcs_get l (i / 4) (i % 4) (by omega) (by omega)
 rw [e1, hu] at hg
 rw [Option.some.inj hg, show o + i = o + i / 4 * 4 + i % 4 by omega]
 exact hc _ (by omega) _ (by omega)
set_option maxRecDepth 100000 in
set_option maxHeartbeats 1000000 in
theorem cloneW_any (mv : Value) (more : List Nat) (w : World) (hm : Ws w mv more) (hl : more.length ≤ 100000) : Calls Tryz.prog 125 #[mv] w fun e w' => ∃ v, e = .returned v ∧ w'.ownsRow w.heap.size 75 4 v more.length (wcs more) ∧ Ext w w' := by
 have HR := Lib.hid hm.rs
 obtain ⟨A, c, rfl, h1, h2, h3, h4⟩ := hm
 clear h4
 have hnil := fun (w : World) (n : Nat) => Lib.run_eql_slice_nil (P := Tryz.prog) w 168 75 A n c 0 0 Tryz.underlying168
 cases A with
 | none =>
  have h0 : more = [] := by
   cases more with
   | nil => rfl
   | cons x l =>
    obtain ⟨b, o, e, _⟩ := h3 (by simp)
    cases e
  subst h0
  clear h3
  go_enter Tryz.func125, Tryz.ntmps125
  go_wp2_with fail
  go_ret
  exact ⟨_, rfl, World.ownsRow_nil _ _ _ _, Ext.refl _⟩
 | some ad =>
  clear h3
  have HO : Hid ((w.alloc (.cells #[] 75)).ownsRow w.heap.size 75 4 (.slice (some ⟨w.heap.size, 0, none⟩) 0 0) 0 []) := Lib.hid ⟨by simp, .inr ⟨w.heap.size, 0, #[], rfl, Nat.le_refl _, heap_alloc_new _ _, Nat.le_refl _, by unfold maxLen; omega, by simp, by simp⟩⟩
  go_enter Tryz.func125, Tryz.ntmps125
  go_wp2_with (first
   | (at_builtin; go_loud (refine wpList_append_row ?_ (.tmp 5) (.tmp 6) 168 rfl w.heap.size 75 Tryz.underlying168 _ 4 32 winfo3 rfl (by decide) _ 0 [] rfl HO.out _ more.length (wcs more) rfl (HR.out.ext ((Ext.refl w).alloc _)) (wcs_one more) (by omega) (by decide) (by simp) ?_; (exact rfl); intro v5 w5 o5 g5 b5; have O5 := Lib.hid o5; have E5 := Lib.hid (((Ext.refl w).alloc (.cells #[] 75)).grown (g := w.heap.size) g5 (Nat.le_refl _)); clear o5 g5 b5)))
  go_ret
  have := O5.out
  rw [Nat.zero_add, List.nil_append] at this
  exact ⟨_, rfl, this, E5.out⟩

def bals (l : List Ac) : List Nat := l.map (·.bal)
def SmJ (gs gr ga : Nat) (base : Nat) (sv : Value) (more : List Nat) (ys : List Ac) (W : World) : Prop :=
 Cs W gs 24 #[sv] ∧ Cs W gr 75 (wc 0) ∧ (∀ q ∈ ys, q.bal < M256) ∧ ∃ v, Cs W ga 168 #[v] ∧ W.ownsRow base 75 4 v (more.length + ys.length) (wcs (more ++ bals ys)) ∧ v.ownBlock ≠ some ga
theorem SmJ.ext {gs gr ga base : Nat} {sv : Value} {more : List Nat} {ys : List Ac} {W W' : World} (h : SmJ gs gr ga base sv more ys W) (he : Ext W W') : SmJ gs gr ga base sv more ys W' := by
 obtain ⟨h1, h2, h3, v, h4, h5, h6⟩ := h
 exact ⟨Cs.ext h1 he, Cs.ext h2 he, h3, v, Cs.ext h4 he, own_ext h5 he, h6⟩
theorem SmJ.own {gs gr ga base : Nat} {sv : Value} {more : List Nat} {B : Nat} : OwnFrom B (SmJ gs gr ga base sv more) := fun _ _ _ _ hs hg hr => by
 obtain ⟨h1, h2, h3, v, h4, h5, h6⟩ := hs
 exact ⟨row_cs h1 hg hr, row_cs h2 hg hr, h3, v, row_cs h4 hg hr, row_own h5 hg hr, h6⟩
set_option maxRecDepth 100000 in
set_option maxHeartbeats 2000000 in
theorem stateSum_any (sv mv : Value) (l : List Ac) (more : List Nat) (w : World) (hs : Acs w sv l) (hm : Ws w mv more) (hl : l.length ≤ 100000) (hml : more.length ≤ 100000) :
  Calls Tryz.prog 90 #[.agg #[sv], mv] w fun e w' => e = .returned (.tuple #[wv (sumW (more ++ bals l)).1, .bool (sumW (more ++ bals l)).2]) ∧ Ext w w' := by
 have HS := Lib.hid hs
 have HM := Lib.hid hm
 have HMW := Lib.hid (show ∀ x ∈ more, x < M256 from fun x hx => by
  obtain ⟨_, _, _, _, _, _, h⟩ := hm
  obtain ⟨i, hi, rfl⟩ := List.getElem_of_mem hx
  have := h i hi
  simpa [List.getD, hi] using this)
 obtain ⟨A, c, rfl, h1, h2⟩ := hs.len
 obtain ⟨A2, c2, rfl, h3, h4, _⟩ := hm
 have HE0 := Lib.hid (((Ext.refl w).alloc (.cells #[.slice A l.length c] 24)).alloc (.cells (wc 0) 75))
 have HJ0 : Hid (Cs ((w.alloc (.cells #[.slice A l.length c] 24)).alloc (.cells (wc 0) 75)) w.heap.size 24 #[.slice A l.length c] ∧ Cs ((w.alloc (.cells #[.slice A l.length c] 24)).alloc (.cells (wc 0) 75)) (w.heap.size + 1) 75 (wc 0)) :=
  Lib.hid ⟨Cs.alloc (Cs.new _ _ _ _ rfl) _, Cs.new _ _ _ _ (by simp)⟩
 clear hs
 have HWC : Hid ((wc 0) = #[.int .u64 0, .int .u64 0, .int .u64 0, .int .u64 0]) := Lib.hid (by simp [wc, lv, lb])
 rw [HWC.out] at HE0 HJ0
 refine (callsIn_wide (n := 9)).1 ?_
 refine callsIn_of_wp_marks Tryz.func90 rfl trivial ?_ rfl
 simp only [Tryz.ntmps90, List.size_toArray, List.length_cons, List.length_nil, Nat.reduceAdd, Nat.reduceSub, Array.replicate_succ, Array.replicate_zero, List.push_toArray, List.append_toArray, List.nil_append, List.cons_append]
 gi_wp2_with fail
 refine ⟨trivial, ?_⟩
 refine (callsIn_wide.2 (cloneW_any _ more _ (HM.out.ext HE0.out) hml)).mono ?_
 rintro e w1 ⟨v1, rfl, ho1, he1⟩
 have HE1 := Lib.hid (HE0.out.trans he1)
 have HJ1 := Lib.hid (And.intro (Cs.ext HJ0.out.1 he1) (Cs.ext HJ0.out.2 he1))
 have HO1 := Lib.hid (own_mono ho1 (show w.heap.size + 1 + 1 ≤ _ by simp))
 have HB1 := Lib.hid (show w.heap.size + 1 < w1.heap.size from Cs.lt HJ1.out.2)
 obtain ⟨_, A3, c3, rfl, _, _, _⟩ := Rs.of_own ho1
 have HV1 := Lib.hid (fun g (hg : (Value.slice A3 more.length c3).ownBlock = some g) => (ho1.lt g hg).2)
 clear HE0 HJ0 he1 ho1 HM
 have HJ2 : Hid (SmJ w.heap.size (w.heap.size + 1) w1.heap.size (w.heap.size + 1 + 1) (.slice A l.length c) more [] (w1.alloc (.cells #[.slice A3 more.length c3] 168)) ∧ Ext w (w1.alloc (.cells #[.slice A3 more.length c3] 168))) := by
  refine Lib.hid ⟨⟨Cs.alloc HJ1.out.1 _, (by rw [HWC.out]; exact Cs.alloc HJ1.out.2 _), (fun q hq => nomatch hq), _, Cs.new w1 #[.slice A3 more.length c3] 168 _ rfl, ?_, fun e => Nat.lt_irrefl _ (HV1.out _ e)⟩, HE1.out.alloc _⟩
  have := own_ext HO1.out ((Ext.refl w1).alloc (.cells #[.slice A3 more.length c3] 168))
  simpa [bals] using this
 have HGA := Lib.hid (show w.heap.size + 1 + 1 ≤ w1.heap.size by have := HB1.out; omega)
 have c0 : (w1.alloc (.cells #[.slice A3 more.length c3] 168)).cell? ⟨w.heap.size, 0, none⟩ = some (.slice A l.length c) := HJ2.out.1.1.cell 0 _ rfl
 clear HJ1 HE1 HO1 HV1
 gi_wp2_with fail
 refine ⟨trivial, ?_⟩
 generalize hga : w1.heap.size = ga at *
 generalize w1.alloc (.cells #[.slice A3 more.length c3] 168) = w2 at *
 refine (callsIn_wide.2 (accounts_any _ rfl _)).mono ?_
 rintro e w3 ⟨rfl, hc, hz, he⟩
 have HJ3 := Lib.hid (And.intro (HJ2.out.1.ext he) (HJ2.out.2.trans he))
 have HGB := Lib.hid (show w.heap.size ≤ ga ∧ ga < w3.heap.size by
  obtain ⟨_, _, _, _, h, _⟩ := HJ3.out.1
  exact ⟨by have := HGA.out; omega, Cs.lt h⟩)
 clear HJ2 hz he hga c0
 gi_wp2_with fail
 refine range_acs A c w2.heap.size l HS.out HJ3.out.2 hc rfl
  (fun ys W => SmJ w.heap.size (w.heap.size + 1) ga (w.heap.size + 1 + 1) (.slice A l.length c) more ys W)
  (fun _ _ _ => False) SmJ.own (fun _ _ _ _ _ h _ _ => h) HJ3.out.1 7 ?assign ?body ?done ?stop
 case assign =>
  intro lp p u v W K hu hv hK
  have HK := Lib.hid hK
  clear hK
  gi_wp2_with (first
   | ((with_reducible refine wpListIn_store_ac ?_ ?_ (.tmp 7) (.tmp 12) ?_ W.heap.size az0 p u v ?_ ?_ ?_ ?_ ?_ ?_ ?_); (exact rfl); (exact rfl); (exact rfl); (exact hu); (exact hv); (exact rfl); (exact rfl); (exact Cs.new _ _ _ _ rfl); (exact rfl); intro w4 k4 g4; have K4 := Lib.hid (HK.out _ k4 (((Ext.refl W).alloc _).grown g4 (Nat.le_refl _))); clear k4 g4)
   | fail)
  exact K4.out
 case body =>
  rintro lp ys p u v B W hB hp hok hu hv hlen ⟨hJ1, hJ2, hJ3, v5, hJ4, hJ5, hJ6⟩ hE hA
  simp only [List.setIfInBounds_toArray, List.set_cons_zero, List.set_cons_succ]
  have HA := Lib.hid hA.bal
  have HE := Lib.hid hE
  have HB1 := Lib.hid hp
  have HL := Lib.hid (show more.length + ys.length + 1 ≤ 1099511627776 by omega)
  have HN := Lib.hid (show more.length + (ys ++ [p]).length = more.length + ys.length + 1 by simp; omega)
  have HW := Lib.hid (show wcs (more ++ bals (ys ++ [p])) = wcs (more ++ bals ys) ++ (wc p.bal).toList by simp [bals, wcs])
  have HQ := Lib.hid (show ∀ q ∈ ys ++ [p], q.bal < M256 from fun q hq => by
   rcases List.mem_append.1 hq with h | h
   ·exact hJ3 q h
   ·rw [List.mem_singleton.1 h]; exact hok.2.1)
  have HJ := Lib.hid (And.intro hJ1 (And.intro hJ2 (And.intro hJ4 (And.intro hJ5 hJ6))))
  have HEW := Lib.hid hE.size
  generalize more.length + ys.length = n at *
  generalize wcs (more ++ bals ys) = cs at *
  obtain ⟨_, A4, c4, rfl, _, _, _⟩ := Rs.of_own hJ5
  have c1 : W.cell? ⟨ga, 0, none⟩ = some (.slice A4 n c4) := hJ4.cell 0 _ rfl
  clear hJ1 hJ2 hJ3 hJ4 hJ5 hJ6 hA hE hu hv hlen hp HJ3 hc h3 h4
  gi_wp2_with (first
   | ((with_reducible refine wpListIn_load_wordIn ?_ (.tmp 14) ?_ B 1 p.bal ?_ ?_ ?_); (exact rfl); (exact rfl); (exact rfl); (exact HA.out))
   | ((with_reducible refine wpListIn_build_one ?_ (.tmp 15) 168 75 ?_ Tryz.underlying168 _ 4 32 winfo3 (by decide) (by decide) (wc p.bal) rfl ?_ ?_); (exact rfl); (exact rfl); (exact rfl))
   | ((with_reducible refine wpListIn_append_row ?_ (.tmp 13) (.tmp 16) 168 ?_ (w.heap.size + 1 + 1) 75 Tryz.underlying168 _ 4 32 winfo3 rfl (by decide) (.slice A4 n c4) n cs ?_ (own_ext HJ.out.2.2.2.1 ((Ext.refl W).alloc _)) (.slice (some ⟨W.heap.size, 0, none⟩) 1 1) 1 (wc p.bal).toList ?_ ?_ (wc_ones _) HL.out (by decide) ?_ ?_); (exact rfl); (exact rfl); (exact rfl); (exact rfl); (exact Rs.new W (wc p.bal).toList 75 4 1 rfl (by unfold maxLen; omega)); (have := HEW.out; have := HGA.out; have := HGB.out; have := Cs.lt HJ.out.2.2.1; simp; omega); intro v5 w5 o5 g5 b5; obtain ⟨_, A5, c5, rfl, _, _, _⟩ := Rs.of_own o5; have O5 := Lib.hid o5; have G5 := Lib.hid g5; have B5 := Lib.hid b5; have K5 := Lib.hid (Cs.kept (Cs.alloc HJ.out.2.2.1 _) g5 (fun e => HJ.out.2.2.2.2 (by first | exact e | exact e.symm))); have c2 : w5.cell? ⟨ga, 0, none⟩ = some (.slice A4 n c4) := K5.out.cell 0 _ rfl; have c3 : w5.frozen? ⟨ga, 0, none⟩ = false := K5.out.frozen 0; clear o5 g5 b5)
   | fail)
  have HNE : Hid ((Value.slice A5 (n + 1) c5).ownBlock ≠ some ga) := Lib.hid (fun e => by
   rcases B5.out with b | b
   ·exact HJ.out.2.2.2.2 (by rw [← b]; exact e)
   ·rw [b] at e
    have := Cs.lt HJ.out.2.2.1
    simp at e
    omega)
  have HOL := Lib.hid (fun g (hg : (Value.slice A4 n c4).ownBlock = some g) => (HJ.out.2.2.2.1.lt g hg).1)
  refine ⟨((((KeepsOthers.alloc W (.cells (wc p.bal) 75)).trans (keeps_own (own_ext HJ.out.2.2.2.1 ((Ext.refl W).alloc _)) G5.out)).trans (KeepsOthers.setCell w5 ⟨ga, 0, none⟩ (.slice A5 (n + 1) c5))).from _), ?_, ?_⟩
  ·exact ((((Below.refl _ W).alloc HEW.out _).grown G5.out (by have := HEW.out; simp; omega) (fun k e => by have := HOL.out k e; omega)).setCell (p := ⟨ga, 0, none⟩) HGB.out.1 _)
  ·refine ⟨Cs.kept (Cs.kept (Cs.alloc HJ.out.1 _) G5.out (fun e => by have := HOL.out w.heap.size (by first | exact e | exact e.symm); omega)) (grown_set _ _ _ _) (some_ne (by have := HGA.out; omega)),
    Cs.kept (Cs.kept (Cs.alloc HJ.out.2.1 _) G5.out (fun e => by have := HOL.out (w.heap.size + 1) (by first | exact e | exact e.symm); omega)) (grown_set _ _ _ _) (some_ne (by have := HGA.out; omega)),
    HQ.out, .slice A5 (n + 1) c5, by simpa using Cs.set K5.out 0 (.slice A5 (n + 1) c5), ?_, HNE.out⟩
   rw [HN.out, HW.out]
   exact World.ownsRow.kept O5.out (grown_set _ _ _ _) (.inr HNE.out)
 case done =>
  rintro D W hD ⟨hJ1, hJ2, hJ3, v5, hJ4, hJ5, hJ6⟩ hE hK
  have hws : Ws W v5 (more ++ bals l) := own_ws hJ5 (by simp [bals]) (fun x hx => by
   rcases List.mem_append.1 hx with h | h
   ·exact HMW.out x h
   ·obtain ⟨q, hq, rfl⟩ := List.mem_map.1 h
    exact hJ3 q hq)
  have HWS := Lib.hid hws
  obtain ⟨A4, c4, rfl, _, _, _, _⟩ := hws
  have c1 : W.cell? ⟨ga, 0, none⟩ = some (.slice A4 (more ++ bals l).length c4) := hJ4.cell 0 _ rfl
  have HK := Lib.hid hK
  have HE := Lib.hid hE
  have HR := Lib.hid hJ2
  have HLE := Lib.hid (show (more ++ bals l).length ≤ 1000000 by simp [bals]; omega)
  have HDW := Lib.hid (show w.heap.size + 1 < D by have := HGA.out; have := HGB.out; omega)
  clear hJ1 hJ2 hJ3 hJ4 hJ5 hJ6 hE hK HJ3 hc h3 h4
  obtain ⟨all, hall⟩ : ∃ all, more ++ bals l = all := ⟨_, rfl⟩
  have HALL := Lib.hid hall
  rw [hall] at HWS HLE c1
  clear hall
  gi_wp2_with fail
  refine ⟨trivial, ?_⟩
  refine (callsIn_wide.2 (sum_any _ all _ HWS.out HLE.out)).mono ?_
  rintro e w6 ⟨rfl, he⟩
  have HE6 := Lib.hid (HE.out.trans he)
  have HR6 := Lib.hid (Cs.ext HR.out he)
  have HK6 := Lib.hid (Ext.block he HK.out)
  clear he HE HR HK c1
  obtain ⟨sm, hsm⟩ : ∃ sm, sumW all = sm := ⟨_, rfl⟩
  have HSM := Lib.hid hsm
  rw [hsm]
  clear hsm
  gi_wp2_with (first
   | ((with_reducible refine wpListIn_store_word ?_ ?_ 75 (.tmp 4) (.tmp 20) ?_ winfo (w.heap.size + 1) (wc 0) sm.1 ?_ ?_ ?_ ?_ ?_); (exact rfl); (exact rfl); (exact rfl); (exact rfl); (exact rfl); (exact HR6.out); (exact rfl); intro w7 k7 g7; have K7 := Lib.hid k7; have G7 := Lib.hid g7; clear k7 g7)
   | fail)
  have hK' := (keeps_cs HR6.out G7.out).same D _ HK6.out rfl
  refine ⟨by simp, .inl ⟨_, _, rfl, run_takeDeferred hK', ?_⟩⟩
  have hp := grownBy_putObj' w7 D (.deferred none)
  exact ⟨_, results_word_tmp Tryz.results90 _ _ (w.heap.size + 1) sm.1 rfl (Cs.kept K7.out hp (some_ne (by have := HDW.out; omega))) Tryz.underlying75 winfo, (by first | (rw [HALL.out, HSM.out]; done) | (rw [HALL.out, HSM.out]; exact rfl)), (HE6.out.grown G7.out (by omega)).grown hp (by have := HDW.out; omega)⟩
 case stop =>
  rintro D c k W _ _ h _
  exact h.elim
end Go.Proofs.YtnjpdchmdimaaaaGreat
namespace Go.Proofs.YtnjpdchmdimaaaaGreat
open Go.ChangeShapes Go.WideShapes Go.ChangeAt Go.RowKit Go.Shelf
attribute [local go_sem] Oper.semAt_some

set_option maxRecDepth 100000 in
theorem kept16_any (a : Nat) (w : World) : Calls Tryz.prog 89 #[.int .u64 (a : Int)] w fun e w' => e = .returned (.bool (decide (a < 16))) ∧ w = w' := by
 have HD := Lib.hid (show Ending.returned (.bool (decide ((a : Int) < 16))) = .returned (.bool (decide (a < 16))) by congr 2; rw [decide_eq_decide]; omega)
 go_enter Tryz.func89, Tryz.ntmps89
 go_wp2_with fail
 go_ret
 exact ⟨HD.out, rfl⟩
end Go.Proofs.YtnjpdchmdimaaaaGreat
