/- Package nonce: the nonces of an address, a range over them; Of. -/
import Derived.Test.YtepggbhibpjkpaaNoi
import Derived.Test.YtepggbhibpjkpaaStf
import Derived.Test.YtepggbhibpjkpaaInn
import Derived.RangeFuncNested
import Derived.RangeFuncBound
import Derived.RangeFuncCalls
import Derived.RangeFuncLeaves
import Derived.Shelf.Abstract
import Derived.Shelf.RegionOpen
import Derived.WalkKit
import Derived.OwnWalkIn
import Derived.TacticsInMore
import Derived.LoopNIn
import Derived.LoopIn
namespace Go.Proofs.Ytepggbhibpjkpaa
open Go.ChangeShapes Go.WideShapes Go.ChangeAt Go.RowKit Go.Shelf
attribute [local go_sem] Oper.semAt_some

set_option maxRecDepth 100000 in
theorem wpListIn_load_nn {F : Fence} {n : Nat} {ops : Array Oper} {rest : List Oper} {o : Oper} {a : Act} {w : World} {Q : Exit → Act → World → Prop} (hgd : o.guard = none) (x : Operand) (ho : o.op = .load 38 x)
    (g k : Nat) (p : Nn) (hx : a.eval x = .pointer (some ⟨g, k, none⟩)) (hg : w.rangeAt g k (nnc p).toList) (h : wpListIn F n Try.prog ops Q rest (a.put o.dst (.agg (nnc p))) w) : wpListIn F n Try.prog ops Q (o :: rest) a w :=
  wpListIn_load_cs hgd _ x ho g k (nnc p).toList _ Try.underlying38 rfl nninfo hx hg h
set_option maxRecDepth 100000 in
theorem wpListIn_load_nnG {F : Fence} {n : Nat} {ops : Array Oper} {rest : List Oper} {o : Oper} {a : Act} {w : World} {Q : Exit → Act → World → Prop} (hgd : Region.wanted o (yielded ops a.tmps) = true) (x : Operand) (ho : o.op = .load 38 x)
    (g k : Nat) (p : Nn) (hx : a.eval x = .pointer (some ⟨g, k, none⟩)) (hg : w.rangeAt g k (nnc p).toList) (h : wpListIn F n Try.prog ops Q rest (a.put o.dst (.agg (nnc p))) w) : wpListIn F n Try.prog ops Q (o :: rest) a w := by
  refine wpListIn_step fun K hK => ?_
  rw [if_pos hgd]
  unfold Oper.wpIn
  refine ⟨by simp [Oper.about, ho], ?_⟩
  rw [Oper.semAt_plain F _ _ (by rw [ho]; intro c hc'; cases hc')]
  simp only [execOp, ho, hx, Instr.loadAt, Instr.sureAddr, Sem.run_bind, Sem.run_pure, Result.andThen_ok, run_loadVar_mid w g k 38 (nnc p).toList _ hg Try.underlying38 rfl nninfo]
  exact hK _ _ h
set_option maxRecDepth 100000 in
theorem wpListIn_store_nn {F : Fence} {n : Nat} {ops : Array Oper} {rest : List Oper} {o : Oper} {a : Act} {w : World} {Q : Exit → Act → World → Prop} (hgd : o.guard = none) (hd : o.dst = none) (x y : Operand) (ho : o.op = .store 38 x y)
    (g : Nat) (old : Array Value) (p : Nn) (hx : a.eval x = .pointer (some ⟨g, 0, none⟩)) (hy : a.eval y = .agg (nnc p)) (hg : Cs w g 38 old) (hold : old.size = 6)
    (h : ∀ w', Nb6 w' g p → w.grownBy w' (some g) → wpListIn F n Try.prog ops Q rest a w') : wpListIn F n Try.prog ops Q (o :: rest) a w :=
  wpListIn_store_cs hgd hd _ x y ho g old (nnc p) nninfo (nnc_one p) hx hy hg hold h
/-! ### The nonces of an address -/
def faN (l : List Nn) (a : Nat) : List Nn := l.filter fun p => decide (p.addr = a)
def cnN (l : List Nn) (a k : Nat) : Nat := (faN (l.take k) a).length
set_option maxRecDepth 100000 in
theorem faN_app (l m : List Nn) (a : Nat) : faN (l ++ m) a = faN l a ++ faN m a := List.filter_append ..
set_option maxRecDepth 100000 in
theorem faN_split (l : List Nn) (a k : Nat) : faN l a = faN (l.take k) a ++ faN (l.drop k) a := by rw [← faN_app, List.take_append_drop]
set_option maxRecDepth 100000 in
theorem cnN_le (l : List Nn) (a k : Nat) : cnN l a k ≤ (faN l a).length := by
  rw [faN_split l a k, List.length_append]
  exact Nat.le_add_right _ _
set_option maxRecDepth 100000 in
theorem cnN_zero (l : List Nn) (a : Nat) : cnN l a 0 = 0 := rfl
set_option maxRecDepth 100000 in
theorem cnN_all (l : List Nn) (a : Nat) : cnN l a l.length = (faN l a).length := by unfold cnN; rw [List.take_length]
set_option maxRecDepth 100000 in
theorem takeN_snoc (l : List Nn) (k : Nat) (hk : k < l.length) : l.take (k + 1) = l.take k ++ [l.getD k nz0] := by
  rw [List.take_add_one, List.getElem?_eq_getElem hk, List.getD_eq_getElem?_getD, List.getElem?_eq_getElem hk]
  rfl
set_option maxRecDepth 100000 in
theorem cnN_no {l : List Nn} {a k : Nat} (hk : k < l.length) (h : (l.getD k nz0).addr ≠ a) : cnN l a (k + 1) = cnN l a k := by
  unfold cnN
  rw [takeN_snoc l k hk, faN_app]
  have : faN [l.getD k nz0] a = [] := by unfold faN; rw [List.filter_cons, if_neg (by simpa using h), List.filter_nil]
  rw [this, List.append_nil]
set_option maxRecDepth 100000 in
theorem cnN_yes {l : List Nn} {a k : Nat} (hk : k < l.length) (h : (l.getD k nz0).addr = a) : cnN l a (k + 1) = cnN l a k + 1 ∧ cnN l a k < (faN l a).length ∧ (faN l a).getD (cnN l a k) nz0 = l.getD k nz0 := by
  have h1 : faN [l.getD k nz0] a = [l.getD k nz0] := by unfold faN; rw [List.filter_cons, if_pos (by simpa using h), List.filter_nil]
  have e : cnN l a (k + 1) = cnN l a k + 1 := by
    unfold cnN
    rw [takeN_snoc l k hk, faN_app, h1, List.length_append]
    rfl
  refine ⟨e, by have := cnN_le l a (k + 1); omega, ?_⟩
  rw [faN_split l a (k + 1), takeN_snoc l k hk, faN_app, h1, List.append_assoc, List.getD_eq_getElem?_getD, show cnN l a k = (faN (l.take k) a).length from rfl, List.getElem?_append_right (Nat.le_refl _), Nat.sub_self]
  rfl
def nnsOf (l : List Nn) (pre : List (Fin l.length)) : List Nn := pre.map fun i => l.getD i.1 nz0
set_option maxRecDepth 100000 in
theorem nnsOf_snoc (l : List Nn) (pre : List (Fin l.length)) (x : Fin l.length) : nnsOf l (pre ++ [x]) = nnsOf l pre ++ [l.getD x.1 nz0] := by simp [nnsOf]
set_option maxRecDepth 100000 in
theorem nnsOf_up (l : List Nn) : ∀ (k : Nat) (h : k ≤ l.length), nnsOf l (upK l.length k h) = l.take k
  | 0, _ => by simp [nnsOf, upK]
  | k + 1, h => by
    unfold upK
    rw [nnsOf_snoc, nnsOf_up l k (by omega), takeN_snoc l k (by omega)]
set_option maxRecDepth 100000 in
theorem nnsOf_all (l : List Nn) : nnsOf l (upK l.length l.length (Nat.le_refl _)) = l := by rw [nnsOf_up, List.take_length]
def nnEnc (l : List Nn) (i : Fin l.length) : Array Value := #[.agg (nnc (l.getD i.1 nz0))]
set_option maxRecDepth 100000 in
theorem upK_cast {n k j : Nat} (h : k ≤ n) (e : j = k) (h' : j ≤ n) : upK n j h' = upK n k h := by subst e; rfl
set_option maxRecDepth 100000 in
set_option maxHeartbeats 400000 in
theorem noncesOf_any (sv : Value) (_hsv : sv.oneCell' = true) (a : Nat) (w : World) :
    Calls Try.prog 52 #[sv, .int .u64 (a : Nat)] w fun e w' => e = .returned (.func (.func 97) #[] #[.pointer (some ⟨w.heap.size, 0, none⟩), .pointer (some ⟨w.heap.size + 1, 0, none⟩)]) ∧
      Cs w' w.heap.size 22 #[sv] ∧ Cs w' (w.heap.size + 1) 27 #[.int .u64 (a : Nat)] ∧ w'.heap.size = w.heap.size + 1 + 1 ∧ Ext w w' := by
  go_enter Try.func52, Try.ntmps52
  go_wp2
  go_ret
  exact ⟨rfl, Cs.alloc (Cs.new _ _ _ _ rfl) _, Cs.new _ _ _ _ (by simp), by simp, ((Ext.refl w).alloc _).alloc _⟩
/-- What a round leaves as it was: all below, and the block of the address. -/
def KpA (N gA : Nat) (W W' : World) : Prop := Below N W W' ∧ W'.heap[gA]? = W.heap[gA]?
set_option maxRecDepth 100000 in
theorem KpA.tr {N gA : Nat} {A B C : World} (x : KpA N gA A B) (y : KpA N gA B C) : KpA N gA A C := ⟨x.1.trans y.1, y.2.trans x.2⟩
set_option maxRecDepth 100000 in
theorem KpA.putObj {N gA : Nat} {w : World} (hN : N ≤ w.heap.size) (hg : gA < w.heap.size) (W : World) (l : Nat) (o o' : Obj) (hl : w.heap.size ≤ l) (h : W.heap[l]? = some o) (h1 : o.isCells = false) (h2 : o.isWalk = false) : KpA N gA W (W.putObj l o') :=
  ⟨belowK_b hN W l o o' hl h h1 h2, (grownBy_putObj' W l o').block gA (by have := (Array.getElem?_eq_some_iff.1 h).1; omega) (some_ne (by omega))⟩
set_option maxRecDepth 100000 in
set_option maxHeartbeats 2000000 in
theorem noncesOf1_stops (m : Nat) (hm : 1 ≤ m) (w00 w : World) (A : Option Addr) (c gS gA a : Nat) (l : List Nn) (hl : Nns w00 (.slice A l.length c) l)
    (he0 : Ext w00 w) (h1 : Cs w gS 22 #[.slice A l.length c]) (h2 : Cs w gA 27 #[.int .u64 (a : Nat)]) :
    SeqStopsK Fence.wide m Try.prog 97 #[.pointer (some ⟨gS, 0, none⟩), .pointer (some ⟨gA, 0, none⟩)] (nnEnc (faN l a)) (KpA w00.heap.size gA) (fun xs => xs = upK (faN l a).length (faN l a).length (Nat.le_refl _)) (fun pre => ∃ k h, pre = upK (faN l a).length (k + 1) h) (faN l a).length w := fun lp J Jx W hW hJ hJx hY h0 => by
  refine callsIn_of_wp Try.func97 rfl trivial ?_ rfl
  simp only [Try.ntmps97, List.size_toArray, List.length_cons, List.length_nil, Nat.reduceAdd, Nat.reduceSub, Array.replicate_succ, Array.replicate_zero, List.push_toArray, List.append_toArray, List.nil_append, List.cons_append]
  have k1 : Cs W gS 22 #[.slice A l.length c] := h1.ext hW
  have HA0 := Lib.hid (show Cs W gA 27 #[.int .u64 (a : Nat)] from h2.ext hW)
  have hE0 : Hid (Ext w00 W) := Lib.hid (he0.trans hW)
  have HLL := Lib.hid (show l.length ≤ c ∧ c ≤ maxLen by obtain ⟨A', c', e, q1, q2⟩ := hl.len; injection e with _ _ e3; subst e3; exact ⟨q1, q2⟩)
  have c1 := k1.cell 0 _ rfl
  clear h1 h2 he0 k1
  have HN := Lib.hid hl
  clear hl
  gi_wp2
  gi_loopw [8] (fun p wr => ∃ k : Nat, ∃ hk : k ≤ l.length, p = .int .i64 (k : Nat) ∧ Hid (Ext w00 wr ∧ Cs wr gA 27 #[.int .u64 (a : Nat)]) ∧ Hid (J (upK (faN l a).length (cnN l a k) (cnN_le l a k)) wr)) (fun p _ => l.length - (intOf p).toNat)
  case atStart => exact ⟨0, by omega, rfl, Lib.hid ⟨hE0.out, HA0.out⟩, Lib.hid h0⟩
  case round =>
    clear c1
    obtain ⟨k, hk, rfl, HE, HJ⟩ := hrel
    by_cases hlt : k < l.length
    · obtain ⟨b, o, rfl, hr, _⟩ := HN.out.at k hlt
      have HR := Lib.hid (show wr.rangeAt b (o + k * 6) (nnc (l.getD k nz0)).toList from fun j v hv => HE.out.1.cell (hr j v hv))
      have HYK := Lib.hid (fun (hlt2 : cnN l a k < (faN l a).length) W1 (he : Ext wr W1) => hY (upK (faN l a).length (cnN l a k) (cnN_le l a k)) ⟨cnN l a k, hlt2⟩ W1 (hJ _ wr W1 none HJ.out (grown_ext he) (fun r e => by cases e)) (by rw [upK_len]; exact hlt2))
      have HYES := Lib.hid (fun h => cnN_yes (l := l) (a := a) hlt h)
      have HNO := Lib.hid (fun h => cnN_no (l := l) (a := a) hlt h)
      have HJK := Lib.hid (fun W1 (he : Ext wr W1) => hJ _ wr W1 none HJ.out (grown_ext he) (fun r e => by cases e))
      clear hr hY
      unfold nnEnc at HYK
      dsimp only at HYK
      have HLC := Lib.hid HLL.out.1
      have hlc : l.length ≤ c := HLC.out
      have hcm : c ≤ 9223372036854775807 := by have := HLL.out.2; unfold maxLen at this; omega
      by_cases hpa : (l.getD k nz0).addr = a
      · obtain ⟨hy1, hy2, hy3⟩ := HYES.out hpa
        have HY2 := Lib.hid (HYK.out hy2)
        rw [hy3] at HY2
        have HC1 := Lib.hid hy1
        have HC2 := Lib.hid hy2
        clear HYK HYES HNO hy1 hy3 HJK
        have hf : (((l.getD k nz0).addr : Int) == (a : Int)) = true := by rw [beq_iff_eq]; omega
        clear hpa
        generalize hp : l.getD k nz0 = p at *
        clear hp
        obtain ⟨cs, hcs⟩ : ∃ cs, nnc p = cs := ⟨_, rfl⟩
        have HCS := Lib.hid hcs
        rw [hcs] at HY2
        clear hcs
        gi_wp2_with (first
          | ((with_reducible refine wpListIn_load_nn ?_ (.tmp 10) ?_ b (o + k * 6) p ?_ ?_ ?_); (exact rfl); (exact rfl); (exact rfl); (exact HR.out); rw [HCS.out])
          | ((with_reducible refine wpListIn_store_nn ?_ ?_ (.tmp 5) (.tmp 11) ?_ wr.heap.size (nnc nz0) p ?_ ?_ ?_ ?_ ?_); (exact rfl); (exact rfl); (exact rfl); (exact rfl); (rw [HCS.out]; exact rfl); (exact Cs.new _ _ _ _ rfl); (exact rfl); intro w4 k4 g4; have K4 := Lib.hid (Cs.rg k4); have c4 := Nb6.addr k4; have HE4 := Lib.hid (((Ext.refl wr).alloc _).grown g4 (Nat.le_refl _)); have ca := (Cs.ext HE.out.2 HE4.out).cell 0 _ rfl; obtain ⟨fn, tmps, asg, bdy, hy, hR⟩ := HY2.out w4 HE4.out; have HR4 := Lib.hid hR; clear k4 g4 hR HY2)
          | ((with_reducible refine wpListIn_load_nnG ?_ (.tmp 5) ?_ wr.heap.size 0 p ?_ ?_ ?_); (exact rfl); (exact rfl); (exact rfl); (exact K4.out); rw [HCS.out])
          | fail)
        have hR' := HR4.out.mono (R' := fun e W' => ∃ b : Bool, e = .returned (.bool b) ∧ ((b = true ∧ J (upK (faN l a).length (cnN l a k + 1) HC2.out) W' ∧ KpA w00.heap.size gA w4 W') ∨ (b = false ∧ Jx (upK (faN l a).length (cnN l a k + 1) HC2.out) W'))) (fun e W' h => by
          rcases h with ⟨rfl, h1, h2⟩ | ⟨rfl, h1⟩
          · exact ⟨true, rfl, .inl ⟨rfl, h1, h2⟩⟩
          · exact ⟨false, rfl, .inr ⟨rfl, h1⟩⟩)
        have HEW := Lib.hid (HE.out.1.trans HE4.out)
        have HAW := Lib.hid (Cs.ext HE.out.2 HE4.out)
        clear HR4 HE HJ HE4 hy HCS
        refine hR'.mono ?_
        rintro e W3 ⟨bb, rfl, hb⟩
        have HB := Lib.hid hb
        clear hb hR'
        rcases HB.out with ⟨rfl, hJ3, hk3⟩ | ⟨rfl, hJx3⟩
        · have HJ3 := Lib.hid (show J (upK (faN l a).length (cnN l a (k + 1)) (cnN_le l a (k + 1))) W3 by rw [upK_cast HC2.out HC1.out]; exact hJ3)
          have HE3 := Lib.hid (show Ext w00 W3 ∧ Cs W3 gA 27 #[.int .u64 (a : Nat)] from ⟨HEW.out.below hk3.1 (Nat.le_refl _), hk3.2.trans HAW.out⟩)
          clear HB hJ3 hk3
          gi_wp2_with fail
          exact ⟨⟨k + 1, hlt, by go_num, HE3, HJ3⟩, by simp [intOf]; omega⟩
        · have HJ3 := Lib.hid hJx3
          clear HB hJx3
          gi_wp2_with fail
          refine bodyPost_ret (results_none rfl _ _ _) rfl ?_
          exact ⟨⟨_, rfl⟩, .inr ⟨_, ⟨cnN l a k, HC2.out, rfl⟩, HJ3.out⟩⟩
      · have HC1 := Lib.hid (HNO.out hpa)
        clear HYK HYES HNO
        have hf : (((l.getD k nz0).addr : Int) == (a : Int)) = false := by rw [beq_eq_false_iff_ne]; omega
        clear hpa
        generalize hp : l.getD k nz0 = p at *
        clear hp
        gi_wp2_with (first
          | ((with_reducible refine wpListIn_load_nn ?_ (.tmp 10) ?_ b (o + k * 6) p ?_ ?_ ?_); (exact rfl); (exact rfl); (exact rfl); (exact HR.out))
          | ((with_reducible refine wpListIn_store_nn ?_ ?_ (.tmp 5) (.tmp 11) ?_ wr.heap.size (nnc nz0) p ?_ ?_ ?_ ?_ ?_); (exact rfl); (exact rfl); (exact rfl); (exact rfl); (exact rfl); (exact Cs.new _ _ _ _ rfl); (exact rfl); intro w4 k4 g4; have c4 := Nb6.addr k4; have HE4 := Lib.hid (((Ext.refl wr).alloc _).grown g4 (Nat.le_refl _)); have ca := (Cs.ext HE.out.2 HE4.out).cell 0 _ rfl; clear k4 g4)
          | fail)
        refine ⟨(fun f hf => by cases hf), ?_⟩
        gi_wp2_with fail
        exact ⟨⟨k + 1, hlt, by go_num, Lib.hid ⟨HE.out.1.trans HE4.out, Cs.ext HE.out.2 HE4.out⟩, Lib.hid (by rw [upK_cast (cnN_le l a k) HC1.out]; exact HJK.out _ HE4.out)⟩, by simp [intOf]; omega⟩
    · obtain rfl : k = l.length := by omega
      gi_wp2
      go_end0
      refine ⟨⟨_, rfl⟩, .inl ⟨_, rfl, ?_⟩⟩
      have := HJ.out
      rwa [upK_cast (Nat.le_refl _) (cnN_all l a)] at this
set_option maxRecDepth 100000 in
theorem ownPostG_nns {l : List Nn} {B : Nat} {w00 : World} {I : List Nn → World → Prop} {Ix : Code → List Nn → World → Prop} {pre : List (Fin l.length)} {x : Fin l.length} {W : World} (hE : Ext w00 W) {M gA ad : Nat} (hM : M ≤ W.heap.size) (hA : Cs W gA 27 #[.int .u64 (ad : Nat)]) : ∀ (e : Exit) (a : Act) (W' : World),
    ownPostG B (KpA w00.heap.size gA) I Ix (nnsOf l pre ++ [l.getD x.1 nz0]) W e a W' →
    ownPostG B (KpA w00.heap.size gA) (fun pre W => I (nnsOf l pre) W ∧ Ext w00 W ∧ M ≤ W.heap.size ∧ Cs W gA 27 #[.int .u64 (ad : Nat)]) (fun c pre W => Ix c (nnsOf l pre) W) (pre ++ [x]) W e a W'
  | .normal, _, _, h => ⟨h.1, h.2.1, by rw [nnsOf_snoc]; exact h.2.2, hE.below h.2.1.1 (Nat.le_refl _), Nat.le_trans hM h.1.size, h.2.1.2.trans hA⟩
  | .ret, _, _, h => ⟨h.1, by show Ix _ (nnsOf l (pre ++ [x])) _; rw [nnsOf_snoc]; exact h.2⟩
  | .exit _, _, _, h => ⟨h.1, by show Ix _ (nnsOf l (pre ++ [x])) _; rw [nnsOf_snoc]; exact h.2⟩
  | .goto _, _, _, h => ⟨h.1, by show Ix _ (nnsOf l (pre ++ [x])) _; rw [nnsOf_snoc]; exact h.2⟩
  | .panic _, _, _, h => h
  | .outgrown, _, _, h => h
set_option maxRecDepth 100000 in
theorem range_nns {Q : Exit → Act → World → Prop} {a : Act} {w w00 : World} {g : Operand} {t : Tmp} {assign body : Code} (A : Option Addr) (c gS gA ad : Nat) (l : List Nn) (hl : Nns w00 (.slice A l.length c) l) (he : Ext w00 w)
    (hS : Cs w gS 22 #[.slice A l.length c]) (hA : Cs w gA 27 #[.int .u64 (ad : Nat)]) (hg : a.eval g = .func (.func 97) #[] #[.pointer (some ⟨gS, 0, none⟩), .pointer (some ⟨gA, 0, none⟩)])
    (I : List Nn → World → Prop) (Ix : Code → List Nn → World → Prop) (hI : OwnFrom w.heap.size I) (hIx : ∀ c, OwnFrom w.heap.size (Ix c)) (h0 : I [] w)
    (tb : Tmp)
    (hassign : ∀ (lp : Nat) (p : Nn) (W : World) (K : Act → World → Prop), (∀ W', Nb6 W' W.heap.size p → Ext W W' → K { tmps := (a.tmps.setIfInBounds t (.agg (nnc p))).setIfInBounds tb (.pointer (some ⟨W.heap.size, 0, none⟩)), defers := [] } W') →
      assign.wpIn (Fence.wide.inRound lp) 7 Try.prog (Exit.then K (fun _ _ _ => False)) { tmps := a.tmps.setIfInBounds t (.agg (nnc p)), defers := [] } W)
    (hbody : ∀ (lp : Nat) (ys : List Nn) (p : Nn) (B : Nat) (W : World), w.heap.size ≤ B → p ∈ faN l ad → p.ok → ys.length < (faN l ad).length → I ys W → Ext w00 W → Cs W gA 27 #[.int .u64 (ad : Nat)] → Nb6 W B p →
      body.wpIn (Fence.wide.inRound lp) 7 Try.prog (ownPostG w.heap.size (KpA w00.heap.size gA) I Ix (ys ++ [p]) W) { tmps := (a.tmps.setIfInBounds t (.agg (nnc p))).setIfInBounds tb (.pointer (some ⟨B, 0, none⟩)), defers := [] } W)
    (hdone : ∀ (D : Nat) (W : World), w.heap.size ≤ D → I (faN l ad) W → Ext w00 W → W.heap[D]? = some (.deferred (some [])) → Q .normal { a with defers := { target := .collected D, args := #[] } :: a.defers } W)
    (hstop : ∀ (D : Nat) (c : Code) (k : Nat) (W : World), w.heap.size ≤ D → k < (faN l ad).length → Ix c ((faN l ad).take (k + 1)) W → W.heap[D]? = some (.deferred (some [])) → c.wpIn Fence.wide 9 Try.prog Q { a with defers := { target := .collected D, args := #[] } :: a.defers } W) :
    (Code.rangeFunc g #[t] assign body).wpIn Fence.wide 9 Try.prog Q a w := by
  have hoks : ∀ p ∈ faN l ad, p.ok := fun p hp => hl.oks p (List.mem_filter.1 hp).1
  refine wpIn_rangeFunc_ownH rfl (by decide) (gf := 97) (lb := #[.pointer (some ⟨gS, 0, none⟩), .pointer (some ⟨gA, 0, none⟩)]) hg trivial (enters_of Try.func97 (by kernel_rfl) rfl)
    (noncesOf1_stops 8 (by decide) w00 w A c gS gA ad l hl he hS hA) KpA.tr (KpA.putObj he.size (Cs.lt hA)) (Below.refl _ _) (fun _ => rfl)
    (fun pre W => I (nnsOf (faN l ad) pre) W ∧ Ext w00 W ∧ w.heap.size ≤ W.heap.size ∧ Cs W gA 27 #[.int .u64 (ad : Nat)]) (fun c pre W => Ix c (nnsOf (faN l ad) pre) W)
    (fun s X Y row hs hg hr => ⟨hI _ X Y row hs.1 hg hr, Below.grown hs.2.1 hg hs.2.1.size (fun k e => Nat.le_trans he.size (hr k e).1), Nat.le_trans hs.2.2.1 hg.size, row_cs hs.2.2.2 hg hr⟩) (fun c s X Y row hs hg hr => hIx c _ X Y row hs hg hr) ⟨h0, he, Nat.le_refl _, hA⟩
    (fun x a' W => ∃ B, w.heap.size ≤ B ∧ Nb6 W B ((faN l ad).getD x.1 nz0) ∧ a' = { tmps := (a.tmps.setIfInBounds t (.agg (nnc ((faN l ad).getD x.1 nz0)))).setIfInBounds tb (.pointer (some ⟨B, 0, none⟩)), defers := [] })
    (fun x a' _ X Y row hs hg hr => by
      obtain ⟨B, h1, h2, h3⟩ := hs
      refine ⟨B, h1, Cs.kept h2 hg (fun e => ?_), h3⟩
      obtain ⟨_, o, ho, hc⟩ := hr B (by first | exact e | exact e.symm)
      rw [show X.heap[B]? = _ from h2] at ho
      cases ho
      cases hc) ?_ ?_ ?_ ?_
  · intro lp pre x W K hi hK
    have e : (#[t].zip (nnEnc (faN l ad) x)) = #[(t, .agg (nnc ((faN l ad).getD x.1 nz0)))] := by unfold nnEnc; simp
    rw [e]
    exact hassign lp ((faN l ad).getD x.1 nz0) W K (fun W' h3 h4 => hK _ _ ((keeps_ext h4).from _) ⟨h4.mono hi.2.1.size, (Ext.block h4 hi.2.2.2).trans hi.2.2.2.symm⟩ ⟨hI _ W W' none hi.1 (grown_ext h4) (fun r e => by cases e), hi.2.1.trans h4, Nat.le_trans hi.2.2.1 h4.size, Cs.ext hi.2.2.2 h4⟩ ⟨_, hi.2.2.1, h3, rfl⟩)
  · rintro lp pre x a' W _ _ hi ⟨B, hB, hB6, rfl⟩ hlen
    have e : (faN l ad).getD x.1 nz0 = (faN l ad)[x.1] := by simp [List.getD, x.2]
    have hm : (faN l ad).getD x.1 nz0 ∈ faN l ad := by rw [e]; exact List.getElem_mem _
    exact wpIn_mono (hbody lp (nnsOf (faN l ad) pre) ((faN l ad).getD x.1 nz0) B W hB hm (hoks _ hm) (by unfold nnsOf; rw [List.length_map]; exact hlen) hi.1 hi.2.1 hi.2.2.2 hB6) (ownPostG_nns hi.2.1 hi.2.2.1 hi.2.2.2)
  · rintro D xs W hD rfl hi hK
    rw [nnsOf_all] at hi
    exact hdone D W hD hi.1 hi.2.1 hK
  · rintro D c pre W hD ⟨k, hk, rfl⟩ hi hK
    rw [nnsOf_up] at hi
    exact hstop D c k W hD hk hi hK
/-! ### Of -/
def jnP (p : Nn) : Nat := jnN p.key p.nxt
def owN (l : List Nn) (a : Nat) : List Nat := if rightN l then (faN l a).map jnP else []
def OfJ (lo g5 : Nat) (ys : List Nn) (W : World) : Prop := (∀ q ∈ ys, q.ok) ∧ ∃ v, Cs W g5 42 #[v] ∧ W.ownsRow lo 29 4 v ys.length (wcs (ys.map jnP)) ∧ v.ownBlock ≠ some g5
set_option maxRecDepth 100000 in
theorem OfJ.ext {lo g5 : Nat} {ys : List Nn} {W W' : World} (h : OfJ lo g5 ys W) (he : Ext W W') : OfJ lo g5 ys W' := by
  obtain ⟨h1, v, h2, h3, h4⟩ := h
  exact ⟨h1, v, Cs.ext h2 he, own_ext h3 he, h4⟩
set_option maxRecDepth 100000 in
theorem OfJ.own {lo g5 B : Nat} : OwnFrom B (OfJ lo g5) := fun _ _ _ _ hs hg hr => by
  obtain ⟨h1, v, h2, h3, h4⟩ := hs
  exact ⟨h1, v, row_cs h2 hg hr, row_own h3 hg hr, h4⟩
/-- While a round goes: what is known of the words' slice, and of all else. -/
def OfR (lo g5 gA ad B : Nat) (p : Nn) (v0 v : Value) (n : Nat) (cs : List Value) (W0 W : World) : Prop :=
  (Cs W g5 42 #[v0] ∧ Nb6 W B p ∧ Cs W gA 27 #[.int .u64 (ad : Nat)]) ∧ (W.ownsRow lo 29 4 v n cs ∧ v.ownBlock ≠ some g5) ∧ KeepsOthers W0 W ∧ Below lo W0 W ∧ lo ≤ W0.heap.size
set_option maxRecDepth 100000 in
theorem OfR.ext {lo g5 gA ad B : Nat} {p : Nn} {v0 v : Value} {n : Nat} {cs : List Value} {W0 W W' : World} (h : OfR lo g5 gA ad B p v0 v n cs W0 W) (he : Ext W W') : OfR lo g5 gA ad B p v0 v n cs W0 W' :=
  ⟨⟨Cs.ext h.1.1 he, h.1.2.1.ext he, Cs.ext h.1.2.2 he⟩, ⟨own_ext h.2.1.1 he, h.2.1.2⟩, h.2.2.1.trans (keeps_ext he), h.2.2.2.1.trans (he.mono (Nat.le_trans h.2.2.2.2 h.2.2.1.size)), h.2.2.2.2⟩
set_option maxRecDepth 100000 in
theorem OfR.extE {lo g5 gA ad B : Nat} {p : Nn} {n : Nat} {cs : List Value} {W0 W W' : World} (h : ∃ v, OfR lo g5 gA ad B p v v n cs W0 W) (he : Ext W W') : ∃ v, OfR lo g5 gA ad B p v v n cs W0 W' := by
  obtain ⟨v, h⟩ := h
  exact ⟨v, h.ext he⟩
def Sl1 (n : Nat) (_ : World) (v : Value) : Prop := ∃ A c, v = .slice A n c
set_option maxRecDepth 100000 in
theorem Sl1.ext {n : Nat} {W W' : World} {v : Value} (h : Sl1 n W v) (_ : Ext W W') : Sl1 n W' v := h
def Wn1 (n : Nat) (W : World) (v : Value) : Prop := ∃ g, v = .slice (some ⟨g, 0, none⟩) 1 1 ∧ Cs W g 29 (wc n)
set_option maxRecDepth 100000 in
theorem Wn1.ext {n : Nat} {W W' : World} {v : Value} (h : Wn1 n W v) (he : Ext W W') : Wn1 n W' v := by
  obtain ⟨g, e, hc⟩ := h
  exact ⟨g, e, Cs.ext hc he⟩
set_option maxRecDepth 100000 in
theorem own_ne {W : World} {lo s n g : Nat} {t t' : TypeId} {v : Value} {cs : List Value} {cs' : Array Value} (h : W.ownsRow lo t s v n cs) (hg : Cs W g t' cs') (ht : t ≠ t') : some g ≠ v.ownBlock := by
  rcases h.2 with ⟨e, _⟩ | ⟨g', cap, cur, e, _, hgg, _⟩
  · rw [e]; intro e; cases e
  · rw [e]
    intro e
    injection e with e
    subst e
    rw [show W.heap[g]? = _ from hg] at hgg
    cases hgg
    exact ht rfl
set_option maxRecDepth 100000 in
theorem OfR.append {lo g5 gA ad B q : Nat} {p : Nn} {v0 v v' : Value} {n : Nat} {cs : List Value} {W0 W W' : World} (h : OfR lo g5 gA ad B p v0 v n cs W0 W) (hg : W.grownBy W' v.ownBlock) (hb : v'.ownBlock = v.ownBlock ∨ v'.ownBlock = some W.heap.size)
    (ho : W'.ownsRow lo 29 4 v' (n + 1) (cs ++ (wc q).toList)) : OfR lo g5 gA ad B p v0 v' (n + 1) (cs ++ (wc q).toList) W0 W' :=
  ⟨⟨Cs.kept h.1.1 hg (own_ne h.2.1.1 h.1.1 (by decide)), Cs.kept h.1.2.1 hg (own_ne h.2.1.1 h.1.2.1 (by decide)), Cs.kept h.1.2.2 hg (own_ne h.2.1.1 h.1.2.2 (by decide))⟩, ⟨ho, fun e => by
    rcases hb with hb | hb
    · exact h.2.1.2 (by rw [← hb]; exact e)
    · rw [hb] at e
      have := Cs.lt h.1.1
      injection e with e
      omega⟩, h.2.2.1.trans (keeps_own h.2.1.1 hg), h.2.2.2.1.grown hg (Nat.le_trans h.2.2.2.2 h.2.2.1.size) (fun k e => (h.2.1.1.lt k e).1), h.2.2.2.2⟩
set_option maxRecDepth 100000 in
theorem OfR.store {lo g5 gA ad B : Nat} {p : Nn} {v0 v : Value} {n : Nat} {cs : List Value} {W0 W : World} (h : OfR lo g5 gA ad B p v0 v n cs W0 W) (hlo : lo ≤ g5) : OfR lo g5 gA ad B p v v n cs W0 (W.setCell ⟨g5, 0, none⟩ v) := by
  have hA : gA ≠ g5 := fun e => by
    have h1 := h.1.2.2
    rw [e] at h1
    exact absurd ((show W.heap[g5]? = _ from h.1.1).symm.trans h1) (by intro e; cases e)
  have hB : B ≠ g5 := fun e => by
    have h1 := h.1.2.1
    rw [e] at h1
    exact absurd ((show W.heap[g5]? = _ from h.1.1).symm.trans h1) (by intro e; cases e)
  exact ⟨⟨by simpa using Cs.set h.1.1 0 v, Cs.kept h.1.2.1 (grown_set _ _ _ _) (some_ne hB), Cs.kept h.1.2.2 (grown_set _ _ _ _) (some_ne hA)⟩, ⟨World.ownsRow.kept h.2.1.1 (grown_set _ _ _ _) (.inr h.2.1.2), h.2.1.2⟩,
    h.2.2.1.trans (KeepsOthers.setCell W ⟨g5, 0, none⟩ v), h.2.2.2.1.setCell (p := ⟨g5, 0, none⟩) hlo _, h.2.2.2.2⟩
set_option maxRecDepth 100000 in
theorem Ws.keptD {W W' : World} {v : Value} {l : List Nat} {D : Nat} {x : Option (List Deferred)} (h : Ws W v l) (hD : W.heap[D]? = some (.deferred x)) (hg : W.grownBy W' (some D)) : Ws W' v l := by
  obtain ⟨A, c, e, h1, h2, h3, h4⟩ := h
  refine ⟨A, c, e, h1, h2, fun hp => ?_, h4⟩
  obtain ⟨b, o, ea, hc⟩ := h3 hp
  refine ⟨b, o, ea, fun i hi j hj => ?_⟩
  exact cell_kept (hc i hi j hj) hg (fun r e => by cases e; exact ⟨_, hD, rfl⟩)
set_option maxRecDepth 100000 in
theorem rs_word1 {W : World} {g n : Nat} (h : Cs W g 29 (wc n)) : Rs W 4 (.slice (some ⟨g, 0, none⟩) 1 1) 1 (wc n).toList := ⟨rfl, _, _, rfl, Nat.le_refl _, by unfold maxLen; omega, fun _ => ⟨g, 0, rfl, fun i z hz => by
  rw [Nat.zero_add]
  exact Cs.cell h i z (by rwa [Array.getElem?_toList] at hz)⟩⟩
set_option maxRecDepth 100000 in
set_option maxHeartbeats 4000000 in
theorem ofN_any (sv : Value) (l : List Nn) (a : Nat) (w : World) (hs : Nns w sv l) (_ha : a < 18446744073709551616) :
    Calls Try.prog 22 #[sv, .int .u64 (a : Nat)] w fun e w' => ∃ v, e = .returned v ∧ Ws w' v (owN l a) ∧ Ext w w' := by
  have HS := Lib.hid hs
  have HWO : Hid (owN l a = if rightN l then (faN l a).map jnP else []) := Lib.hid rfl
  obtain ⟨A, c, rfl, h1, h2⟩ := hs.len
  unfold maxLen at h2
  clear hs
  refine (callsIn_wide (n := 9)).1 ?_
  refine callsIn_of_wp_marks Try.func22 rfl trivial ?_ rfl
  simp only [Try.ntmps22, List.size_toArray, List.length_cons, List.length_nil, Nat.reduceAdd, Nat.reduceSub, Array.replicate_succ, Array.replicate_zero, List.push_toArray, List.append_toArray, List.nil_append, List.cons_append]
  gi_wp2_with fail
  refine ⟨trivial, ?_⟩
  refine (callsIn_wide.2 (checkN_any _ l _ HS.out)).mono ?_
  rintro e w1 ⟨rfl, he⟩
  have HE1 := Lib.hid he
  clear he
  cases hr : rightN l with
  | false =>
    rw [chkN_no hr]
    have HV := Lib.hid (show owN l a = [] by rw [HWO.out, hr]; rfl)
    clear hr
    gi_wp2_with fail
    exact ⟨_, results_tmp rfl _ _ _, _, rfl, by rw [HV.out]; exact ⟨none, 0, rfl, Nat.le_refl _, Nat.zero_le _, fun h => absurd h (by simp), fun i h => absurd h (by simp)⟩, HE1.out⟩
  | true =>
    rw [chkN_yes hr]
    have HV := Lib.hid (show owN l a = (faN l a).map jnP by rw [HWO.out, hr]; rfl)
    have HRR := Lib.hid hr
    clear hr
    have HLL := Lib.hid (show (faN l a).length ≤ 48 by have := List.length_filter_le (fun p : Nn => decide (p.addr = a)) l; have := right_len HRR.out; unfold faN; omega)
    have HG5 := Lib.hid (show w.heap.size ≤ w1.heap.size from HE1.out.size)
    have HJ1 : Hid (OfJ w.heap.size w1.heap.size [] (w1.alloc (.cells #[.slice none 0 0] 42))) := Lib.hid ⟨(fun q hq => nomatch hq), _, Cs.new _ _ _ _ rfl, World.ownsRow_nil _ _ _ _, fun e => by cases e⟩
    have HE2 := Lib.hid (HE1.out.alloc (.cells #[.slice none 0 0] 42))
    gi_wp2_with fail
    generalize hg5 : w1.heap.size = g5 at *
    generalize w1.alloc (.cells #[.slice none 0 0] 42) = w2 at *
    clear hg5 HE1
    refine ⟨trivial, ?_⟩
    refine (callsIn_wide.2 (noncesOf_any _ rfl a _)).mono ?_
    rintro e w3 ⟨rfl, hc, hc2, hz, he⟩
    have HJ3 := Lib.hid (HJ1.out.ext he)
    have HE3 := Lib.hid (HE2.out.trans he)
    have HE3S := Lib.hid HE3.out.size
    generalize w2.heap.size = gS at *
    generalize hga : gS + 1 = gA at *
    clear HJ1 HE2 he hz hga
    gi_wp2_with fail
    refine range_nns A c gS gA a l HS.out HE3.out hc hc2 rfl (fun ys W => OfJ w.heap.size g5 ys W) (fun _ _ _ => False) OfJ.own (fun _ _ _ _ _ h _ _ => h) HJ3.out 6 ?assign ?body ?done ?stop
    case assign =>
      intro lp p W K hK
      have HK := Lib.hid hK
      clear hK
      gi_wp2_with (first
        | ((with_reducible refine wpListIn_store_nn ?_ ?_ (.tmp 6) (.tmp 13) ?_ W.heap.size (nnc nz0) p ?_ ?_ ?_ ?_ ?_); (exact rfl); (exact rfl); (exact rfl); (exact rfl); (exact rfl); (exact Cs.new _ _ _ _ rfl); (exact rfl); intro w4 k4 g4; have K4 := Lib.hid (HK.out _ k4 (((Ext.refl W).alloc _).grown g4 (Nat.le_refl _))); clear k4 g4)
        | fail)
      exact K4.out
    case body =>
      rintro lp ys p B W0 hB hp hok hlen ⟨hq, v4, hJ1, hJ2, hJ3⟩ hE hA hP
      simp only [List.setIfInBounds_toArray, List.set_cons_zero, List.set_cons_succ]
      have HPN := Lib.hid hok.2.2
      have HQ := Lib.hid (show ∀ q ∈ ys ++ [p], q.ok from fun q hqq => by
        rcases List.mem_append.1 hqq with h | h
        · exact hq q h
        · rw [List.mem_singleton.1 h]; exact hok)
      have HLN := Lib.hid (show ys.length + 1 ≤ 1099511627776 by have := HLL.out; omega)
      have HN := Lib.hid (show (ys ++ [p]).length = ys.length + 1 by simp)
      have HW := Lib.hid (show wcs ((ys ++ [p]).map jnP) = wcs (ys.map jnP) ++ (wc (jnP p)).toList by simp [wcs])
      have HS0 := Lib.hid (show OfR w.heap.size g5 gA a B p v4 v4 ys.length (wcs (ys.map jnP)) W0 W0 from ⟨⟨hJ1, hP, hA⟩, ⟨hJ2, hJ3⟩, KeepsOthers.refl _, Below.refl _ _, hE.size⟩)
      have HA0 := Lib.hid hA
      obtain ⟨_, A4, c4, rfl, _, _, _⟩ := Rs.of_own hJ2
      clear hq hJ1 hJ2 hJ3 hE hA hP hok hlen hp hc hc2 HJ3 HE3 hB
      generalize ys.length = n at *
      generalize wcs (ys.map jnP) = cs at *
      gi_wp2_with fail
      refine wpIn_named fun a0 ha0 => ?_
      obtain ⟨fr, hfr⟩ : ∃ fr : (Nat → Value) → Act, ∀ V, fr V = ((((((((a0.put (some 14) (V 0)).put (some 15) (V 1)).put (some 16) (V 2)).put (some 17) (V 3)).put (some 18) (V 4)).put (some 19) (V 5)).put (some 20) (V 6)).put (some 21) (V 7)) := ⟨fun V => ((((((((a0.put (some 14) (V 0)).put (some 15) (V 1)).put (some 16) (V 2)).put (some 17) (V 3)).put (some 18) (V 4)).put (some 19) (V 5)).put (some 20) (V 6)).put (some 21) (V 7)), fun _ => rfl⟩
      rw [ha0] at hfr
      simp only [Act.put, List.setIfInBounds_toArray, List.set_cons_zero, List.set_cons_succ] at hfr
      have HFR := Lib.hid hfr
      clear hfr
      refine wpIn_region_inv (by kernel_rfl) (by kernel_rfl) (fun L A W => ∃ V : Nat → Value, A = fr V ∧ Vals (fun j => ([some (.slice A4 n c4), some (.pointer (some ⟨B, 1, none⟩)), some (wv p.key), some (.pointer (some ⟨B, 5, none⟩)), some (.int .u64 (p.nxt : Nat)), some (wv (jnP p)), none, none, none] : List (Option Value)).getD j none) L V ∧ (L 7 = false → OfR w.heap.size g5 gA a B p (.slice A4 n c4) (.slice A4 n c4) n cs W0 W) ∧ (L 7 = true → L 8 = false → OfR w.heap.size g5 gA a B p (.slice A4 n c4) (V 7) (n + 1) (cs ++ (wc (jnP p)).toList) W0 W) ∧ (L 8 = true → ∃ v, OfR w.heap.size g5 gA a B p v v (n + 1) (cs ++ (wc (jnP p)).toList) W0 W) ∧ (L 7 = false → L 6 = true → Wn1 (jnP p) W (V 6)) ∧ (L 8 = false → L 7 = true → Sl1 (n + 1) W (V 7))) ?_ ⟨?_, ?_, ?_, ?_, ?_, ?_, ?_, ?_, ?_, trivial⟩ ?_
      · refine ⟨fun j => a0.tmps.getD (([14, 15, 16, 17, 18, 19, 20, 21, 0] : List Nat).getD j 0) undef, ?_, Vals.no _ _ _ (far_none _ _ rfl), fun _ => HS0.out.ext (Ext.refl _).drew, fun h0 h1 => absurd h0 (by decide), fun h0 => absurd h0 (by decide), fun h0 h1 => absurd h1 (by decide), fun h0 h1 => absurd h1 (by decide)⟩
        rw [HFR.out, ha0]
        rfl
      all_goals clear ha0
      · rintro L A W K hL hC hW ⟨V, rfl, HV, s0, s1, s2, f6, f7⟩ hK
        have hB := s0 (hC.no hL 7 _ rfl rfl)
        have H := Lib.hid (show ∀ W', Ext W W' → K (fr (upd V 0 (.slice A4 n c4))) W' from fun W' he => hK _ _ ⟨upd V 0 (.slice A4 n c4), rfl, HV.up 0 _ (fun x hx => Option.some.inj hx), fun h0 => OfR.ext (s0 (by unfold More at h0; rwa [if_neg (by decide)] at h0)) he, fun h0 h1 => OfR.ext (s1 (more_ne h0 rfl) (by unfold More at h1; rwa [if_neg (by decide)] at h1)) he, fun h0 => OfR.extE (s2 (more_ne h0 rfl)) he, fun h0 h1 => Wn1.ext (f6 (by unfold More at h0; rwa [if_neg (by decide)] at h0) (more_ne h1 rfl)) he, fun h0 h1 => Sl1.ext (f7 (by unfold More at h0; rwa [if_neg (by decide)] at h0) (more_ne h1 rfl)) he⟩)
        clear hK hC hW hL HV s0 s1 s2 f6 f7
        rw [HFR.out]
        have hcl : W.cell? ⟨g5, 0, none⟩ = some (.slice A4 n c4) := hB.1.1.cell 0 _ rfl
        clear hB
        gi_wp2_with fail
        show K _ _
        have := H.out _ (Ext.refl _)
        rw [HFR.out] at this
        exact this
      · rintro L A W K hL hC hW ⟨V, rfl, HV, s0, s1, s2, f6, f7⟩ hK
        have H := Lib.hid (show ∀ W', Ext W W' → K (fr (upd V 1 (.pointer (some ⟨B, 1, none⟩)))) W' from fun W' he => hK _ _ ⟨upd V 1 (.pointer (some ⟨B, 1, none⟩)), rfl, HV.up 1 _ (fun x hx => Option.some.inj hx), fun h0 => OfR.ext (s0 (by unfold More at h0; rwa [if_neg (by decide)] at h0)) he, fun h0 h1 => OfR.ext (s1 (more_ne h0 rfl) (by unfold More at h1; rwa [if_neg (by decide)] at h1)) he, fun h0 => OfR.extE (s2 (more_ne h0 rfl)) he, fun h0 h1 => Wn1.ext (f6 (by unfold More at h0; rwa [if_neg (by decide)] at h0) (more_ne h1 rfl)) he, fun h0 h1 => Sl1.ext (f7 (by unfold More at h0; rwa [if_neg (by decide)] at h0) (more_ne h1 rfl)) he⟩)
        clear hK hC hW hL HV s0 s1 s2 f6 f7
        rw [HFR.out]
        gi_wp2_with fail
        show K _ _
        have := H.out _ (Ext.refl _)
        rw [HFR.out] at this
        exact this
      · rintro L A W K hL hC hW ⟨V, rfl, HV, s0, s1, s2, f6, f7⟩ hK
        have e1 : V 1 = .pointer (some ⟨B, 1, none⟩) := HV 1 _ rfl (hW 1 rfl)
        have hB := s0 (hC.no (hC.no (hC.no hL 5 _ rfl rfl) 6 _ rfl rfl) 7 _ rfl rfl)
        have H := Lib.hid (show ∀ W', Ext W W' → K (fr (upd V 2 (wv p.key))) W' from fun W' he => hK _ _ ⟨upd V 2 (wv p.key), rfl, HV.up 2 _ (fun x hx => Option.some.inj hx), fun h0 => OfR.ext (s0 (by unfold More at h0; rwa [if_neg (by decide)] at h0)) he, fun h0 h1 => OfR.ext (s1 (more_ne h0 rfl) (by unfold More at h1; rwa [if_neg (by decide)] at h1)) he, fun h0 => OfR.extE (s2 (more_ne h0 rfl)) he, fun h0 h1 => Wn1.ext (f6 (by unfold More at h0; rwa [if_neg (by decide)] at h0) (more_ne h1 rfl)) he, fun h0 h1 => Sl1.ext (f7 (by unfold More at h0; rwa [if_neg (by decide)] at h0) (more_ne h1 rfl)) he⟩)
        have HU := Lib.hid (show (upd V 2 (wv p.key)) 1 = .pointer (some ⟨B, 1, none⟩) from e1)
        clear hK hC hW hL HV s0 s1 s2 f6 f7
        rw [HFR.out]
        rw [e1]
        clear e1
        have HWD := Lib.hid hB.1.2.1.key
        clear hB
        refine wpListIn_load_wordIn rfl (.tmp 15) rfl B 1 p.key rfl HWD.out ?_
        show K _ _
        have := H.out _ (Ext.refl _)
        rw [HFR.out] at this
        obtain u1 := HU.out
        rw [u1] at this
        exact this
      · rintro L A W K hL hC hW ⟨V, rfl, HV, s0, s1, s2, f6, f7⟩ hK
        have H := Lib.hid (show ∀ W', Ext W W' → K (fr (upd V 3 (.pointer (some ⟨B, 5, none⟩)))) W' from fun W' he => hK _ _ ⟨upd V 3 (.pointer (some ⟨B, 5, none⟩)), rfl, HV.up 3 _ (fun x hx => Option.some.inj hx), fun h0 => OfR.ext (s0 (by unfold More at h0; rwa [if_neg (by decide)] at h0)) he, fun h0 h1 => OfR.ext (s1 (more_ne h0 rfl) (by unfold More at h1; rwa [if_neg (by decide)] at h1)) he, fun h0 => OfR.extE (s2 (more_ne h0 rfl)) he, fun h0 h1 => Wn1.ext (f6 (by unfold More at h0; rwa [if_neg (by decide)] at h0) (more_ne h1 rfl)) he, fun h0 h1 => Sl1.ext (f7 (by unfold More at h0; rwa [if_neg (by decide)] at h0) (more_ne h1 rfl)) he⟩)
        clear hK hC hW hL HV s0 s1 s2 f6 f7
        rw [HFR.out]
        gi_wp2_with fail
        show K _ _
        have := H.out _ (Ext.refl _)
        rw [HFR.out] at this
        exact this
      · rintro L A W K hL hC hW ⟨V, rfl, HV, s0, s1, s2, f6, f7⟩ hK
        have e3 : V 3 = .pointer (some ⟨B, 5, none⟩) := HV 3 _ rfl (hW 3 rfl)
        have hB := s0 (hC.no (hC.no (hC.no hL 5 _ rfl rfl) 6 _ rfl rfl) 7 _ rfl rfl)
        have H := Lib.hid (show ∀ W', Ext W W' → K (fr (upd V 4 (.int .u64 (p.nxt : Nat)))) W' from fun W' he => hK _ _ ⟨upd V 4 (.int .u64 (p.nxt : Nat)), rfl, HV.up 4 _ (fun x hx => Option.some.inj hx), fun h0 => OfR.ext (s0 (by unfold More at h0; rwa [if_neg (by decide)] at h0)) he, fun h0 h1 => OfR.ext (s1 (more_ne h0 rfl) (by unfold More at h1; rwa [if_neg (by decide)] at h1)) he, fun h0 => OfR.extE (s2 (more_ne h0 rfl)) he, fun h0 h1 => Wn1.ext (f6 (by unfold More at h0; rwa [if_neg (by decide)] at h0) (more_ne h1 rfl)) he, fun h0 h1 => Sl1.ext (f7 (by unfold More at h0; rwa [if_neg (by decide)] at h0) (more_ne h1 rfl)) he⟩)
        have HU := Lib.hid (show (upd V 4 (.int .u64 (p.nxt : Nat))) 3 = .pointer (some ⟨B, 5, none⟩) from e3)
        clear hK hC hW hL HV s0 s1 s2 f6 f7
        rw [HFR.out]
        rw [e3]
        clear e3
        have hcl := hB.1.2.1.nxt
        clear hB
        gi_wp2_with fail
        show K _ _
        have := H.out _ (Ext.refl _)
        rw [HFR.out] at this
        obtain u3 := HU.out
        rw [u3] at this
        exact this
      · rintro L A W K hL hC hW ⟨V, rfl, HV, s0, s1, s2, f6, f7⟩ hK
        have e2 : V 2 = wv p.key := HV 2 _ rfl (hW 2 rfl)
        have e4 : V 4 = .int .u64 (p.nxt : Nat) := HV 4 _ rfl (hW 4 rfl)
        have hB := s0 (hC.no (hC.no hL 6 _ rfl rfl) 7 _ rfl rfl)
        have H := Lib.hid (show ∀ W', Ext W W' → K (fr (upd V 5 (wv (jnP p)))) W' from fun W' he => hK _ _ ⟨upd V 5 (wv (jnP p)), rfl, HV.up 5 _ (fun x hx => Option.some.inj hx), fun h0 => OfR.ext (s0 (by unfold More at h0; rwa [if_neg (by decide)] at h0)) he, fun h0 h1 => OfR.ext (s1 (more_ne h0 rfl) (by unfold More at h1; rwa [if_neg (by decide)] at h1)) he, fun h0 => OfR.extE (s2 (more_ne h0 rfl)) he, fun h0 h1 => Wn1.ext (f6 (by unfold More at h0; rwa [if_neg (by decide)] at h0) (more_ne h1 rfl)) he, fun h0 h1 => Sl1.ext (f7 (by unfold More at h0; rwa [if_neg (by decide)] at h0) (more_ne h1 rfl)) he⟩)
        have HU := Lib.hid (show (upd V 5 (wv (jnP p))) 2 = wv p.key ∧ (upd V 5 (wv (jnP p))) 4 = .int .u64 (p.nxt : Nat) from ⟨e2, e4⟩)
        clear hK hC hW hL HV s0 s1 s2 f6 f7
        rw [HFR.out]
        rw [e2, e4]
        clear e2 e4
        clear hB
        gi_wp2_with fail
        refine ⟨trivial, ?_⟩
        refine (CallsIn.inRound _ (callsIn_wide.2 (joined_any p.key p.nxt _ HPN.out))).mono ?_
        rintro e wx ⟨rfl, he⟩
        have := H.out _ he
        clear H
        gi_wp2_with fail
        show K _ _
        rw [HFR.out] at this
        obtain ⟨u2, u4⟩ := HU.out
        rw [u2, u4] at this
        exact this
      · rintro L A W K hL hC hW ⟨V, rfl, HV, s0, s1, s2, f6, f7⟩ hK
        have e5 : V 5 = wv (jnP p) := HV 5 _ rfl (hW 5 rfl)
        have hB := s0 (hC.no hL 7 _ rfl rfl)
        have H := Lib.hid (show ∀ v W', Ext W W' → (Wn1 (jnP p) W' v) → K (fr (upd V 6 v)) W' from fun v W' he hp => hK _ _ ⟨upd V 6 v, rfl, HV.up 6 _ (fun x hx => absurd hx (by intro h; cases h)), fun h0 => OfR.ext (s0 (by unfold More at h0; rwa [if_neg (by decide)] at h0)) he, fun h0 h1 => OfR.ext (s1 (more_ne h0 rfl) (by unfold More at h1; rwa [if_neg (by decide)] at h1)) he, fun h0 => OfR.extE (s2 (more_ne h0 rfl)) he, fun h0 h1 => hp, fun h0 h1 => Sl1.ext (f7 (by unfold More at h0; rwa [if_neg (by decide)] at h0) (more_ne h1 rfl)) he⟩)
        have HU := Lib.hid (show ∀ v, (upd V 6 v) 5 = wv (jnP p) from fun v => e5)
        clear hK hC hW hL HV s0 s1 s2 f6 f7
        rw [HFR.out]
        rw [e5]
        clear e5
        clear hB
        refine wpListIn_build_one rfl (.tmp 19) 42 29 rfl Try.underlying42 _ 4 32 winfo3 (by decide) (by decide) (wc (jnP p)) rfl rfl ?_
        show K _ _
        have := H.out (.slice (some ⟨W.heap.size, 0, none⟩) 1 1) _ ((Ext.refl W).alloc (.cells (wc (jnP p)) 29)) (⟨_, rfl, Cs.new _ _ _ _ rfl⟩)
        rw [HFR.out] at this
        obtain u5 := HU.out _
        rw [u5] at this
        exact this
      · rintro L A W K hL hC hW ⟨V, rfl, HV, s0, s1, s2, f6, f7⟩ hK
        have e0 : V 0 = .slice A4 n c4 := HV 0 _ rfl (hW 0 rfl)
        have hB := s0 hL
        have q6 := f6 hL (hW 6 rfl)
        obtain ⟨g6, e6, z6⟩ := q6
        have H := Lib.hid (show ∀ v W', (OfR w.heap.size g5 gA a B p (.slice A4 n c4) v (n + 1) (cs ++ (wc (jnP p)).toList) W0 W') → (Sl1 (n + 1) W' v) → K (fr (upd V 7 v)) W' from fun v W' hA hp => hK _ _ ⟨upd V 7 v, rfl, HV.up 7 _ (fun x hx => absurd hx (by intro h; cases h)), fun h0 => absurd h0 (by unfold More; rw [if_pos rfl]; simp), fun h0 h1 => hA, fun h0 => absurd (more_ne h0 rfl) (by rw [(hC.no hL 8 _ rfl rfl)]; simp), fun h0 h1 => absurd h0 (by unfold More; rw [if_pos rfl]; simp), fun h0 h1 => hp⟩)
        have HU := Lib.hid (show ∀ v, (upd V 7 v) 0 = .slice A4 n c4 ∧ (upd V 7 v) 6 = .slice (some ⟨g6, 0, none⟩) 1 1 from fun v => ⟨e0, e6⟩)
        clear hK hC hW hL HV s0 s1 s2 f6 f7
        rw [HFR.out]
        rw [e0, e6]
        clear e0 e6
        have HB := Lib.hid hB
        have Z6 := Lib.hid (rs_word1 z6)
        clear hB z6
        refine wpListIn_append_row rfl (.tmp 14) (.tmp 20) 42 rfl w.heap.size 29 Try.underlying42 _ 4 32 winfo3 rfl (by decide) (.slice A4 n c4) n cs rfl HB.out.2.1.1 (.slice (some ⟨g6, 0, none⟩) 1 1) 1 (wc (jnP p)).toList rfl Z6.out (wc_ones _) HLN.out (by decide) (Nat.le_trans HB.out.2.2.2.2 HB.out.2.2.1.size) ?_
        intro v5 w5 o5 g5' b5
        have HA := Lib.hid (HB.out.append g5' b5 o5)
        have HP : Hid (Sl1 (n + 1) w5 v5) := Lib.hid (by obtain ⟨_, A, c, e, _⟩ := Rs.of_own o5; exact ⟨A, c, e⟩)
        clear o5 g5' b5
        show K _ _
        have := H.out _ _ HA.out HP.out
        rw [HFR.out] at this
        obtain ⟨u0, u6⟩ := HU.out _
        rw [u0, u6] at this
        exact this
      · rintro L A W K hL hC hW ⟨V, rfl, HV, s0, s1, s2, f6, f7⟩ hK
        have hB := s1 (hW 7 rfl) hL
        have q7 := f7 hL (hW 7 rfl)
        obtain ⟨A7, c7, e7⟩ := q7
        have H := Lib.hid (show ∀ W', (∃ v, OfR w.heap.size g5 gA a B p v v (n + 1) (cs ++ (wc (jnP p)).toList) W0 W') → K (fr (V)) W' from fun W' hA => hK _ _ ⟨V, rfl, HV.st 8 rfl, fun h0 => absurd (show L 7 = false by unfold More at h0; rwa [if_neg (by decide)] at h0) (by rw [(hW 7 rfl)]; simp), fun h0 h1 => absurd h1 (by unfold More; rw [if_pos rfl]; simp), fun h0 => hA, fun h0 h1 => absurd (show L 7 = false by unfold More at h0; rwa [if_neg (by decide)] at h0) (by rw [(hW 7 rfl)]; simp), fun h0 h1 => absurd h0 (by unfold More; rw [if_pos rfl]; simp)⟩)
        have HU := Lib.hid (show (V) 7 = .slice A7 (n + 1) c7 from e7)
        clear hK hC hW hL HV s0 s1 s2 f6 f7
        rw [HFR.out]
        rw [e7]
        clear e7
        have HB := Lib.hid hB
        have hc : W.cell? ⟨g5, 0, none⟩ = some (.slice A4 n c4) := hB.1.1.cell 0 _ rfl
        have hf : W.frozen? ⟨g5, 0, none⟩ = false := hB.1.1.frozen 0
        clear hB
        gi_wp2_with fail
        have HA : Hid (∃ v, OfR w.heap.size g5 gA a B p v v (n + 1) (cs ++ (wc (jnP p)).toList) W0 (W.setCell ⟨g5, 0, none⟩ (.slice A7 (n + 1) c7))) := Lib.hid ⟨_, by have h := HB.out; rw [HU.out] at h; exact h.store HG5.out⟩
        show K _ _
        have := H.out _ HA.out
        rw [HFR.out] at this
        obtain u7 := HU.out
        rw [u7] at this
        exact this
      · rintro L A W hL ⟨V, rfl, HV, s0, s1, s2, f6, f7⟩
        have e0 : V 0 = .slice A4 n c4 := HV 0 _ rfl (hL 0 (by simp))
        have e1 : V 1 = .pointer (some ⟨B, 1, none⟩) := HV 1 _ rfl (hL 1 (by simp))
        have e2 : V 2 = wv p.key := HV 2 _ rfl (hL 2 (by simp))
        have e3 : V 3 = .pointer (some ⟨B, 5, none⟩) := HV 3 _ rfl (hL 3 (by simp))
        have e4 : V 4 = .int .u64 (p.nxt : Nat) := HV 4 _ rfl (hL 4 (by simp))
        have e5 : V 5 = wv (jnP p) := HV 5 _ rfl (hL 5 (by simp))
        have hA := s2 (hL 8 (by simp))
        rw [HFR.out]
        rw [e0, e1, e2, e3, e4, e5]
        clear hL HV HFR e0 e1 e2 e3 e4 e5 s0 s1 s2 f6 f7
        obtain ⟨v7, hA⟩ := hA
        have HAA := Lib.hid hA
        clear hA
        gi_wp2_with fail
        exact ⟨HAA.out.2.2.1.from _, ⟨HAA.out.2.2.2.1, (show W.heap[gA]? = _ from HAA.out.1.2.2).trans HA0.out.symm⟩, HQ.out, v7, HAA.out.1.1, by rw [HN.out, HW.out]; exact HAA.out.2.1.1, HAA.out.2.1.2⟩
    case done =>
      rintro D W hD ⟨hq, v4, hJ1, hJ2, hJ3⟩ hE hK
      have HWS := Lib.hid (show Ws W v4 ((faN l a).map jnP) from own_ws hJ2 (by simp) (fun x hx => by
        obtain ⟨q, hqq, rfl⟩ := List.mem_map.1 hx
        exact jnN_lt _ _ (hq q hqq).2.2))
      have c5 : W.cell? ⟨g5, 0, none⟩ = some v4 := hJ1.cell 0 _ rfl
      have HK := Lib.hid hK
      have HEE := Lib.hid hE
      clear hq hJ1 hJ2 hJ3 hE hK HJ3 HE3 hc hc2
      have HDL := Lib.hid (show w.heap.size ≤ D by have := HE3S.out; omega)
      gi_wp2_with fail
      refine ⟨by simp, .inl ⟨_, _, rfl, run_takeDeferred HK.out, ?_⟩⟩
      have hp := grownBy_putObj' W D (.deferred none)
      exact ⟨_, results_tmp rfl _ _ _, _, rfl, by rw [HV.out]; exact Ws.keptD HWS.out HK.out hp, HEE.out.grown hp HDL.out⟩
    case stop =>
      rintro D c k W _ _ h _
      exact h.elim
end Go.Proofs.Ytepggbhibpjkpaa
