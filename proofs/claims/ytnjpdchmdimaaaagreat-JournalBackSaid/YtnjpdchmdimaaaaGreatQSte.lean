/- Package state: account. -/
import Derived.Test.YtnjpdchmdimaaaaGreatQStb
import Derived.RangeFuncNested
import Derived.RangeFuncBound
import Derived.RangeFuncCalls
import Derived.RangeFuncLeaves
import Derived.Shelf.Abstract
import Derived.Shelf.RegionOpen
import Derived.WalkKit
import Derived.OwnWalkIn
import Derived.TacticsInMore
import Derived.LoopNIn
import Derived.LoopIn
namespace Go.Proofs.YtnjpdchmdimaaaaGreat
open Go.ChangeShapes Go.WideShapes Go.ChangeAt Go.RowKit Go.Shelf
attribute [local go_sem] Oper.semAt_some


theorem wpListIn_load_cs {F : Fence} {n : Nat} {P : Program} {ops : Array Oper} {rest : List Oper} {o : Oper} {a : Act} {w : World} {Q : Exit → Act → World → Prop} (hgd : o.guard = none) (ty : TypeId) (x : Operand) (ho : o.op = .load ty x)
  (b k : Nat) (cs : List Value) (d : TypeDesc) (hu : P.underlying ty = some d) (hd : d.isRow = true) (hi : (P.info? ty).map (·.size) = some cs.length) (hx : a.eval x = .pointer (some ⟨b, k, none⟩)) (hg : w.rangeAt b k cs)
  (h : wpListIn F n P ops Q rest (a.put o.dst (.agg cs.toArray)) w) : wpListIn F n P ops Q (o :: rest) a w := by
 refine wpListIn_plain hgd fun K hK => ?_
 unfold Oper.wpIn
 refine ⟨by simp [Oper.about, ho], ?_⟩
 rw [Oper.semAt_plain F _ _ (by rw [ho]; intro c hc'; cases hc')]
 simp only [execOp, ho, hx, Instr.loadAt, Instr.sureAddr, Sem.run_bind, Sem.run_pure, Result.andThen_ok, run_loadVar_mid w b k ty cs d hg hu hd hi]
 exact hK _ _ h
theorem wpListIn_store_cs {F : Fence} {n : Nat} {P : Program} {ops : Array Oper} {rest : List Oper} {o : Oper} {a : Act} {w : World} {Q : Exit → Act → World → Prop} (hgd : o.guard = none) (hd : o.dst = none) (ty : TypeId) (x y : Operand) (ho : o.op = .store ty x y)
  (g : Nat) (old cs : Array Value) (hi : (P.info? ty).map (·.size) = some cs.size) (h1 : cs.all (·.oneCell') = true) (hx : a.eval x = .pointer (some ⟨g, 0, none⟩)) (hy : a.eval y = .agg cs) (hg : Cs w g ty old) (hold : old.size = cs.size)
  (h : ∀ w', Cs w' g ty cs → w.grownBy w' (some g) → wpListIn F n P ops Q rest a w') : wpListIn F n P ops Q (o :: rest) a w := by
 have h' : ∀ w', Cs w' g ty cs → w.grownBy w' (some g) → wpListIn F n P ops Q rest (a.put o.dst undef) w' := by rw [hd]; exact h
 refine wpListIn_plain hgd fun K hK => ?_
 unfold Oper.wpIn
 refine ⟨by simp [Oper.about, ho], ?_⟩
 rw [Oper.semAt_plain F _ _ (by rw [ho]; intro c hc'; cases hc')]
 simp only [execOp, ho, hx, hy, Instr.storeAt, Instr.sureAddr, Sem.run_bind, Sem.run_pure, Result.andThen_ok, run_storeVar_row w g ty ty old cs hg hi hold h1]
 refine hK _ _ (h' _ ?_ ?_)
 ·exact setRow_heap w g _ _ ty (0, 0) hg
 ·exact ⟨rfl, rfl, rfl, by simp [World.setRow], fun k _ hk => setRow_other w g k _ (fun e => hk (by simp [e]))⟩
set_option maxRecDepth 100000 in
theorem wpListIn_load_ac {F : Fence} {n : Nat} {ops : Array Oper} {rest : List Oper} {o : Oper} {a : Act} {w : World} {Q : Exit → Act → World → Prop} (hgd : o.guard = none) (x : Operand) (ho : o.op = .load 79 x)
  (g k : Nat) (p : Ac) (u v : Value) (hx : a.eval x = .pointer (some ⟨g, k, none⟩)) (hg : w.rangeAt g k (acc p u v).toList) (h : wpListIn F n Tryz.prog ops Q rest (a.put o.dst (.agg (acc p u v))) w) : wpListIn F n Tryz.prog ops Q (o :: rest) a w :=
 wpListIn_load_cs hgd _ x ho g k (acc p u v).toList _ Tryz.underlying79 rfl acinfo hx hg h
set_option maxRecDepth 100000 in
theorem wpListIn_store_ac {F : Fence} {n : Nat} {ops : Array Oper} {rest : List Oper} {o : Oper} {a : Act} {w : World} {Q : Exit → Act → World → Prop} (hgd : o.guard = none) (hd : o.dst = none) (x y : Operand) (ho : o.op = .store 79 x y)
  (g : Nat) (old : Array Value) (p : Ac) (u v : Value) (hu : u.oneCell' = true) (hv : v.oneCell' = true) (hx : a.eval x = .pointer (some ⟨g, 0, none⟩)) (hy : a.eval y = .agg (acc p u v)) (hg : Cs w g 79 old) (hold : old.size = 8)
  (h : ∀ w', Ab w' g p u v → w.grownBy w' (some g) → wpListIn F n Tryz.prog ops Q rest a w') : wpListIn F n Tryz.prog ops Q (o :: rest) a w :=
 wpListIn_store_cs hgd hd _ x y ho g old (acc p u v) acinfo (acc_one p u v hu hv) hx hy hg hold h
set_option maxRecDepth 100000 in
theorem wpListIn_load_wordIn {F : Fence} {n : Nat} {ops : Array Oper} {rest : List Oper} {o : Oper} {a : Act} {w : World} {Q : Exit → Act → World → Prop} (hgd : o.guard = none) (x : Operand) (ho : o.op = .load 75 x)
  (g k m : Nat) (hx : a.eval x = .pointer (some ⟨g, k, none⟩)) (hg : w.rangeAt g k (wc m).toList) (h : wpListIn F n Tryz.prog ops Q rest (a.put o.dst (wv m)) w) : wpListIn F n Tryz.prog ops Q (o :: rest) a w :=
 wpListIn_load_cs hgd _ x ho g k (wc m).toList _ Tryz.underlying75 rfl winfo hx hg h

theorem grown_ext {W W' : World} (h : Ext W W') : W.grownBy W' none := ⟨h.os, h.tape, h.output, h.size, fun k hk _ => Below.block h k hk⟩
theorem Acs.vals {W : World} {A : Option Addr} {n c : Nat} {l : List Ac} (h : Acs W (.slice A n c) l) : ∃ U V : Nat → Value, ∀ i, i < l.length → ∃ b o, A = some ⟨b, o, none⟩ ∧ W.rangeAt b (o + i * 8) (acc (l.getD i acz) (U i) (V i)).toList ∧ Bs W (U i) (l.getD i acz).code ∧ Pks W (V i) (l.getD i acz).store ∧ (l.getD i acz).ok := by
 have h1 : ∀ i : Nat, ∃ uv : Value × Value, i < l.length → ∃ b o, A = some ⟨b, o, none⟩ ∧ W.rangeAt b (o + i * 8) (acc (l.getD i acz) uv.1 uv.2).toList ∧ Bs W uv.1 (l.getD i acz).code ∧ Pks W uv.2 (l.getD i acz).store ∧ (l.getD i acz).ok := fun i => by
  by_cases hi : i < l.length
  ·obtain ⟨b, o, u, v, h2⟩ := h.at i hi
   exact ⟨(u, v), fun _ => ⟨b, o, h2⟩⟩
  ·exact ⟨(undef, undef), fun h => absurd h hi⟩
 obtain ⟨f, hf⟩ := Classical.axiomOfChoice h1
 exact ⟨fun i => (f i).1, fun i => (f i).2, hf⟩
def upK (N : Nat) : (k : Nat) → k ≤ N → List (Fin N)
 | 0, _ => []
 | k + 1, h => upK N k (by omega) ++ [⟨k, h⟩]
theorem upK_len (N : Nat) : ∀ (k : Nat) (h : k ≤ N), (upK N k h).length = k
 | 0, _ => rfl
 | k + 1, h => by unfold upK; rw [List.length_append, upK_len N k]; rfl
def acsOf (l : List Ac) (pre : List (Fin l.length)) : List Ac := pre.map fun i => l.getD i.1 acz
theorem acsOf_snoc (l : List Ac) (pre : List (Fin l.length)) (x : Fin l.length) : acsOf l (pre ++ [x]) = acsOf l pre ++ [l.getD x.1 acz] := by simp [acsOf]
theorem acsOf_up (l : List Ac) : ∀ (k : Nat) (h : k ≤ l.length), acsOf l (upK l.length k h) = l.take k
 | 0, _ => by simp [acsOf, upK]
 | k + 1, h => by
  unfold upK
  rw [acsOf_snoc, acsOf_up l k (by omega), List.take_add_one]
  have e : l[k]? = some l[k] := List.getElem?_eq_getElem (by omega)
  rw [e]
  simp [List.getD, e]
theorem acsOf_all (l : List Ac) : acsOf l (upK l.length l.length (Nat.le_refl _)) = l := by rw [acsOf_up, List.take_length]
def acEnc (l : List Ac) (U V : Nat → Value) (i : Fin l.length) : Array Value := #[.agg (acc (l.getD i.1 acz) (U i.1) (V i.1))]

set_option maxRecDepth 100000 in
set_option maxHeartbeats 400000 in
theorem accounts_any (sv : Value) (_hsv : sv.oneCell' = true) (w : World) :
  Calls Tryz.prog 86 #[.agg #[sv]] w fun e w' => e = .returned (.func (.func 123) #[] #[.pointer (some ⟨w.heap.size, 0, none⟩)]) ∧
   Cs w' w.heap.size 24 #[sv] ∧ w'.heap.size = w.heap.size + 1 ∧ Ext w w' := by
 go_enter Tryz.func86, Tryz.ntmps86
 go_wp2
 go_ret
 exact ⟨rfl, Cs.new _ _ _ _ rfl, by simp, (Ext.refl w).alloc _⟩

set_option maxRecDepth 100000 in
set_option maxHeartbeats 1000000 in
theorem accounts1_stops (m : Nat) (hm : 1 ≤ m) (w00 w : World) (A : Option Addr) (c gS : Nat) (l : List Ac) (U V : Nat → Value) (hc : l.length ≤ c) (hcm : c ≤ maxLen)
  (hUV : ∀ i, i < l.length → ∃ b o, A = some ⟨b, o, none⟩ ∧ w00.rangeAt b (o + i * 8) (acc (l.getD i acz) (U i) (V i)).toList ∧ Bs w00 (U i) (l.getD i acz).code ∧ Pks w00 (V i) (l.getD i acz).store ∧ (l.getD i acz).ok)
  (he0 : Ext w00 w) (h1 : Cs w gS 24 #[.slice A l.length c]) :
  SeqStopsK Fence.wide m Tryz.prog 123 #[.pointer (some ⟨gS, 0, none⟩)] (acEnc l U V) (Below w00.heap.size) (fun xs => xs = upK l.length l.length (Nat.le_refl _)) (fun pre => ∃ k h, pre = upK l.length (k + 1) h) l.length w := fun lp J Jx W hW hJ hJx hY h0 => by
 refine callsIn_of_wp Tryz.func123 rfl trivial ?_ rfl
 simp only [Tryz.ntmps123, List.size_toArray, List.length_cons, List.length_nil, Nat.reduceAdd, Nat.reduceSub, Array.replicate_succ, Array.replicate_zero, List.push_toArray, List.append_toArray, List.nil_append, List.cons_append]
 have k1 : Cs W gS 24 #[.slice A l.length c] := h1.ext hW
 have hE0 : Hid (Ext w00 W) := Lib.hid (he0.trans hW)
 have c1 := k1.cell 0 _ rfl
 clear h1 he0 k1
 unfold maxLen at hcm
 have HUV := Lib.hid hUV
 clear hUV
 gi_wp2
 gi_loopw [8] (fun p wr => ∃ k : Nat, ∃ hk : k ≤ l.length, p = .int .i64 (k : Nat) ∧ Hid (Ext w00 wr) ∧ Hid (J (upK l.length k hk) wr)) (fun p _ => l.length - (intOf p).toNat)
 case atStart => exact ⟨0, by omega, rfl, hE0, Lib.hid h0⟩
 case round =>
  clear c1
  obtain ⟨k, hk, rfl, HE, HJ⟩ := hrel
  by_cases hlt : k < l.length
  ·obtain ⟨b, o, rfl, hr, hu, hv, _⟩ := HUV.out k hlt
   have HR := Lib.hid (show wr.rangeAt b (o + k * 8) (acc (l.getD k acz) (U k) (V k)).toList from fun j v hv => HE.out.cell (hr j v hv))
   have HOU := Lib.hid (bs_one hu)
   have HOV := Lib.hid (pks_one hv)
   have HYK := Lib.hid (fun W1 (he : Ext wr W1) => hY (upK l.length k hk) ⟨k, hlt⟩ W1 (hJ _ wr W1 none HJ.out (grown_ext he) (fun r e => by cases e)) (by rw [upK_len]; exact hlt))
   clear hr hu hv hY
   unfold acEnc at HYK
   dsimp only at HYK
   generalize hp : l.getD k acz = p at *
   clear hp
   generalize U k = u at *
   generalize V k = v at *
   obtain ⟨cs, hcs⟩ : ∃ cs, acc p u v = cs := ⟨_, rfl⟩
   have HCS := Lib.hid hcs
   rw [hcs] at HYK
   clear hcs
   gi_wp2_with (first
    | ((with_reducible refine wpListIn_load_ac ?_ (.tmp 10) ?_ b (o + k * 8) p u v ?_ ?_ ?_); (exact rfl); (exact rfl); (exact rfl); (exact HR.out); rw [HCS.out])
    | ((with_reducible refine wpListIn_store_ac ?_ ?_ (.tmp 4) (.tmp 11) ?_ wr.heap.size az0 p u v ?_ ?_ ?_ ?_ ?_ ?_ ?_); (exact rfl); (exact rfl); (exact rfl); (exact HOU.out); (exact HOV.out); (exact rfl); (rw [HCS.out]; exact rfl); (exact Cs.new _ _ _ _ rfl); (exact rfl); intro w4 k4 g4; have K4 := Lib.hid k4; have HE4 := Lib.hid (((Ext.refl wr).alloc _).grown g4 (Nat.le_refl _)); obtain ⟨fn, tmps, asg, bdy, hy, hR⟩ := HYK.out w4 HE4.out; have HR4 := Lib.hid hR; clear k4 g4 hR HYK)
    | ((with_reducible refine wpListIn_load_ac ?_ (.tmp 4) ?_ wr.heap.size 0 p u v ?_ ?_ ?_); (exact rfl); (exact rfl); (exact rfl); (exact K4.out.range); rw [HCS.out])
    | fail)
   have hR' := HR4.out.mono (R' := fun e W' => ∃ b : Bool, e = .returned (.bool b) ∧ ((b = true ∧ J (upK l.length (k + 1) hlt) W' ∧ Below w00.heap.size w4 W') ∨ (b = false ∧ Jx (upK l.length (k + 1) hlt) W'))) (fun e W' h => by
    rcases h with ⟨rfl, h1, h2⟩ | ⟨rfl, h1⟩
    ·exact ⟨true, rfl, .inl ⟨rfl, h1, h2⟩⟩
    ·exact ⟨false, rfl, .inr ⟨rfl, h1⟩⟩)
   have HEW := Lib.hid (HE.out.trans HE4.out)
   clear HR4 HE HJ HE4 hy HCS
   refine hR'.mono ?_
   rintro e W3 ⟨bb, rfl, hb⟩
   have HB := Lib.hid hb
   clear hb hR'
   rcases HB.out with ⟨rfl, hJ3, hk3⟩ | ⟨rfl, hJx3⟩
   ·have HJ3 := Lib.hid hJ3
    have HE3 := Lib.hid (HEW.out.below hk3 (Nat.le_refl _))
    clear HB hJ3 hk3
    gi_wp2
    exact ⟨⟨k + 1, hlt, by go_num, HE3, HJ3⟩, by simp [intOf]; omega⟩
   ·have HJ3 := Lib.hid hJx3
    clear HB hJx3
    gi_wp2
    refine bodyPost_ret (results_none rfl _ _ _) rfl ?_
    exact ⟨⟨_, rfl⟩, .inr ⟨_, ⟨k, hlt, rfl⟩, HJ3.out⟩⟩
  ·obtain rfl : k = l.length := by omega
   gi_wp2
   go_end0
   exact ⟨⟨_, rfl⟩, .inl ⟨_, rfl, HJ.out⟩⟩

theorem row_cs {B : Nat} {X Y : World} {row : Option Nat} {g : Nat} {t : TypeId} {cs : Array Value} (h : Cs X g t cs) (hg : X.grownBy Y row) (hr : ∀ r, row = some r → B ≤ r ∧ ∃ o : Obj, X.heap[r]? = some o ∧ o.isCells = false) : Cs Y g t cs :=
 Cs.kept h hg (fun e => by
  obtain ⟨_, o, ho, hc⟩ := hr g (by first | exact e | exact e.symm)
  rw [show X.heap[g]? = _ from h] at ho
  cases ho
  cases hc)
theorem row_ext {B : Nat} {w X Y : World} {row : Option Nat} (h : Ext w X) (hB : w.heap.size ≤ B) (hg : X.grownBy Y row) (hr : ∀ r, row = some r → B ≤ r ∧ ∃ o : Obj, X.heap[r]? = some o ∧ o.isCells = false) : Ext w Y :=
 Below.grown h hg h.size (fun k e => Nat.le_trans hB (hr k e).1)
theorem Acs.oks {W : World} {v : Value} {l : List Ac} (h : Acs W v l) : ∀ p ∈ l, p.ok := by
 intro p hp
 obtain ⟨i, hi, rfl⟩ := List.getElem_of_mem hp
 obtain ⟨A, c, rfl, _, _⟩ := h.len
 obtain ⟨_, _, _, _, _, _, _, _, h1⟩ := h.at i hi
 have e : l.getD i acz = l[i] := by simp [List.getD, hi]
 rwa [e] at h1
theorem keeps_ext {W W' : World} (h : Ext W W') : KeepsOthers W W' := ⟨h.size, fun _ _ hk _ => Ext.block h hk⟩
theorem keeps_cs {W W' : World} {g : Nat} {t : TypeId} {cs : Array Value} (h : Cs W g t cs) (hg : W.grownBy W' (some g)) : KeepsOthers W W' := KeepsOthers.of_grownBy hg (fun j o e ho => by
 cases e
 rw [show W.heap[g]? = _ from h] at ho
 cases ho
 rfl)
theorem ownPostG_acs {l : List Ac} {B : Nat} {w00 : World} {I : List Ac → World → Prop} {Ix : Code → List Ac → World → Prop} {pre : List (Fin l.length)} {x : Fin l.length} {W : World} (hE : Ext w00 W) {M : Nat} (hM : M ≤ W.heap.size) : ∀ (e : Exit) (a : Act) (W' : World),
  ownPostG B (Below w00.heap.size) I Ix (acsOf l pre ++ [l.getD x.1 acz]) W e a W' →
  ownPostG B (Below w00.heap.size) (fun pre W => I (acsOf l pre) W ∧ Ext w00 W ∧ M ≤ W.heap.size) (fun c pre W => Ix c (acsOf l pre) W) (pre ++ [x]) W e a W'
 | .normal, _, _, h => ⟨h.1, h.2.1, by rw [acsOf_snoc]; exact h.2.2, hE.below h.2.1 (Nat.le_refl _), Nat.le_trans hM h.1.size⟩
 | .ret, _, _, h => ⟨h.1, by show Ix _ (acsOf l (pre ++ [x])) _; rw [acsOf_snoc]; exact h.2⟩
 | .exit _, _, _, h => ⟨h.1, by show Ix _ (acsOf l (pre ++ [x])) _; rw [acsOf_snoc]; exact h.2⟩
 | .goto _, _, _, h => ⟨h.1, by show Ix _ (acsOf l (pre ++ [x])) _; rw [acsOf_snoc]; exact h.2⟩
 | .panic _, _, _, h => h
 | .outgrown, _, _, h => h
set_option maxRecDepth 100000 in
theorem range_acs {Q : Exit → Act → World → Prop} {a : Act} {w w00 : World} {g : Operand} {t : Tmp} {assign body : Code} (A : Option Addr) (c gS : Nat) (l : List Ac) (hl : Acs w00 (.slice A l.length c) l)
  (he : Ext w00 w) (hS : Cs w gS 24 #[.slice A l.length c]) (hg : a.eval g = .func (.func 123) #[] #[.pointer (some ⟨gS, 0, none⟩)])
  (I : List Ac → World → Prop) (Ix : Code → List Ac → World → Prop) (hI : OwnFrom w.heap.size I) (hIx : ∀ c, OwnFrom w.heap.size (Ix c)) (h0 : I [] w)
  (tb : Tmp)
  (hassign : ∀ (lp : Nat) (p : Ac) (u v : Value) (W : World) (K : Act → World → Prop), u.oneCell' = true → v.oneCell' = true → (∀ W', Ab W' W.heap.size p u v → Ext W W' → K { tmps := (a.tmps.setIfInBounds t (.agg (acc p u v))).setIfInBounds tb (.pointer (some ⟨W.heap.size, 0, none⟩)), defers := [] } W') →
   assign.wpIn (Fence.wide.inRound lp) 7 Tryz.prog (Exit.then K (fun _ _ _ => False)) { tmps := a.tmps.setIfInBounds t (.agg (acc p u v)), defers := [] } W)
  (hbody : ∀ (lp : Nat) (ys : List Ac) (p : Ac) (u v : Value) (B : Nat) (W : World), w.heap.size ≤ B → p ∈ l → p.ok → Bs w00 u p.code → Pks w00 v p.store → ys.length < l.length → I ys W → Ext w00 W → Ab W B p u v →
   body.wpIn (Fence.wide.inRound lp) 7 Tryz.prog (ownPostG w.heap.size (Below w00.heap.size) I Ix (ys ++ [p]) W) { tmps := (a.tmps.setIfInBounds t (.agg (acc p u v))).setIfInBounds tb (.pointer (some ⟨B, 0, none⟩)), defers := [] } W)
  (hdone : ∀ (D : Nat) (W : World), w.heap.size ≤ D → I l W → Ext w00 W → W.heap[D]? = some (.deferred (some [])) → Q .normal { a with defers := { target := .collected D, args := #[] } :: a.defers } W)
  (hstop : ∀ (D : Nat) (c : Code) (k : Nat) (W : World), w.heap.size ≤ D → k < l.length → Ix c (l.take (k + 1)) W → W.heap[D]? = some (.deferred (some [])) → c.wpIn Fence.wide 9 Tryz.prog Q { a with defers := { target := .collected D, args := #[] } :: a.defers } W) :
  (Code.rangeFunc g #[t] assign body).wpIn Fence.wide 9 Tryz.prog Q a w := by
 obtain ⟨A', c', e0, hc1, hc2⟩ := hl.len
 injection e0 with e1 e2 e3
 subst e1 e3
 obtain ⟨U, V, hUV⟩ := hl.vals
 refine wpIn_rangeFunc_ownH rfl (by decide) (gf := 123) (lb := #[.pointer (some ⟨gS, 0, none⟩)]) hg trivial (enters_of Tryz.func123 (by kernel_rfl) rfl)
  (accounts1_stops 8 (by decide) w00 w A c gS l U V hc1 hc2 hUV he hS) belowK_t (belowK_b he.size) (Below.refl _ _) (fun _ => rfl)
  (fun pre W => I (acsOf l pre) W ∧ Ext w00 W ∧ w.heap.size ≤ W.heap.size) (fun c pre W => Ix c (acsOf l pre) W)
  (fun s X Y row hs hg hr => ⟨hI _ X Y row hs.1 hg hr, Below.grown hs.2.1 hg hs.2.1.size (fun k e => Nat.le_trans he.size (hr k e).1), Nat.le_trans hs.2.2 hg.size⟩) (fun c s X Y row hs hg hr => hIx c _ X Y row hs hg hr) ⟨h0, he, Nat.le_refl _⟩
  (fun x a' W => ∃ B, w.heap.size ≤ B ∧ Ab W B (l.getD x.1 acz) (U x.1) (V x.1) ∧ a' = { tmps := (a.tmps.setIfInBounds t (.agg (acc (l.getD x.1 acz) (U x.1) (V x.1)))).setIfInBounds tb (.pointer (some ⟨B, 0, none⟩)), defers := [] })
  (fun x a' _ X Y row hs hg hr => by
   obtain ⟨B, h1, h2, h3⟩ := hs
   refine ⟨B, h1, Cs.kept h2 hg (fun e => ?_), h3⟩
   obtain ⟨_, o, ho, hc⟩ := hr B (by first | exact e | exact e.symm)
   rw [show X.heap[B]? = _ from h2] at ho
   cases ho
   cases hc) ?_ ?_ ?_ ?_
 ·intro lp pre x W K hi hK
  obtain ⟨b, o, _, _, h1, h2, _⟩ := hUV x.1 x.2
  have e : (#[t].zip (acEnc l U V x)) = #[(t, .agg (acc (l.getD x.1 acz) (U x.1) (V x.1)))] := by unfold acEnc; simp
  rw [e]
  exact hassign lp (l.getD x.1 acz) (U x.1) (V x.1) W K (bs_one h1) (pks_one h2) (fun W' h3 h4 => hK _ _ ((keeps_ext h4).from _) (h4.mono hi.2.1.size) ⟨hI _ W W' none hi.1 (grown_ext h4) (fun r e => by cases e), hi.2.1.trans h4, Nat.le_trans hi.2.2 h4.size⟩ ⟨_, hi.2.2, h3, rfl⟩)
 ·rintro lp pre x a' W _ _ hi ⟨B, hB, hA, rfl⟩ hlen
  obtain ⟨b, o, _, _, h1, h2, h3⟩ := hUV x.1 x.2
  refine wpIn_mono (hbody lp (acsOf l pre) (l.getD x.1 acz) (U x.1) (V x.1) B W hB ?_ h3 h1 h2 (by unfold acsOf; rw [List.length_map]; exact hlen) hi.1 hi.2.1 hA) (ownPostG_acs hi.2.1 hi.2.2)
  have e : l.getD x.1 acz = l[x.1] := by simp [List.getD, x.2]
  rw [e]
  exact List.getElem_mem _
 ·rintro D xs W hD rfl hi hK
  rw [acsOf_all] at hi
  exact hdone D W hD hi.1 hi.2.1 hK
 ·rintro D c pre W hD ⟨k, hk, rfl⟩ hi hK
  rw [acsOf_up] at hi
  exact hstop D c k W hD hk hi hK
end Go.Proofs.YtnjpdchmdimaaaaGreat
namespace Go.Proofs.YtnjpdchmdimaaaaGreat
open Go.ChangeShapes Go.WideShapes Go.ChangeAt Go.RowKit Go.Shelf
attribute [local go_sem] Oper.semAt_some

end Go.Proofs.YtnjpdchmdimaaaaGreat
