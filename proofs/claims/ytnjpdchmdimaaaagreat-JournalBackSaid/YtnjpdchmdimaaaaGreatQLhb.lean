/- Package ledger: which rows may be; tellers. -/
import Derived.Test.YtnjpdchmdimaaaaGreatQPka
import Derived.Test.YtnjpdchmdimaaaaGreatQInw
import Derived.Test.YtnjpdchmdimaaaaGreatQByt
import Derived.Test.YtnjpdchmdimaaaaGreatQWsq
import Derived.IntWalk
import Derived.Outline
import Derived.OwnWalk
import Derived.Laws.CopyRow
import Derived.ChangeKeysEq
import Derived.Laws.StructEq
namespace Go.Proofs.YtnjpdchmdimaaaaGreat
open Go.ChangeShapes Go.WideShapes Go.ChangeAt Go.RowKit Go.Shelf

structure Hd where
 addr : Nat
 dep : Nat
 stk : Nat
 dly : Nat
 fre : Nat
def hz0 : Hd := ⟨0, 0, 0, 0, 0⟩
def Hd.ok (h : Hd) : Prop := h.addr < 18446744073709551616 ∧ h.dep < M256 ∧ h.stk < M256 ∧ h.dly < 18446744073709551616 ∧ h.fre < 18446744073709551616
def Hd.eqB (p q : Hd) : Bool := p.addr == q.addr && (p.dep == q.dep && (p.stk == q.stk && (p.dly == q.dly && p.fre == q.fre)))
theorem Hd.eqB_iff (p q : Hd) : p.eqB q = true ↔ p = q := by
 cases p; cases q
 simp [Hd.eqB]
theorem Hd.eqB_self (p : Hd) : p.eqB p = true := (Hd.eqB_iff p p).2 rfl
instance : DecidableEq Hd := fun p q => if h : p.eqB q = true then isTrue ((Hd.eqB_iff p q).1 h) else isFalse fun e => h ((Hd.eqB_iff p q).2 e)
def hdc (h : Hd) : Array Value := #[.int .u64 (h.addr : Nat), lv (lb h.dep 0), lv (lb h.dep 1), lv (lb h.dep 2), lv (lb h.dep 3), lv (lb h.stk 0), lv (lb h.stk 1), lv (lb h.stk 2), lv (lb h.stk 3), .int .u64 (h.dly : Nat), .int .u64 (h.fre : Nat)]
theorem hdc_one (h : Hd) : (hdc h).all (·.oneCell') = true := by simp [hdc, lv, Value.oneCell']
theorem hdc_ones (h : Hd) : ∀ u ∈ (hdc h).toList, u.oneCell' = true := fun u hu => Array.all_eq_true_iff_forall_mem.1 (hdc_one h) u (by simpa using hu)
def HdR (cs : List Value) (h : Hd) : Prop := h.ok ∧ cs = (hdc h).toList
def Hds (W : World) (v : Value) (l : List Hd) : Prop := Sl W 11 HdR v l
theorem Hds.ext {W W' : World} {v : Value} {l : List Hd} (h : Hds W v l) (he : Ext W W') : Hds W' v l := Sl.mono h (fun _ _ hc => he.cell hc) fun _ _ h => h
theorem Hds.len {W : World} {v : Value} {l : List Hd} (h : Hds W v l) : ∃ A c, v = .slice A l.length c ∧ l.length ≤ c ∧ c ≤ maxLen := by
 obtain ⟨A, c, e, h1, h2, _⟩ := h
 exact ⟨A, c, e, h1, h2⟩
theorem Hds.nil (W : World) : Hds W (.slice none 0 0) [] := ⟨none, 0, rfl, Nat.le_refl _, Nat.zero_le _, fun h => absurd h (by simp)⟩
theorem Hds.at {W : World} {A : Option Addr} {n c : Nat} {l : List Hd} (h : Hds W (.slice A n c) l) (i : Nat) (hi : i < l.length) : ∃ b o, A = some ⟨b, o, none⟩ ∧ W.rangeAt b (o + i * 11) (hdc (l.getD i hz0)).toList ∧ (l.getD i hz0).ok := by
 obtain ⟨A', c', e, _, _, h3⟩ := h
 injection e with e1 e2 e3
 subst e1
 obtain ⟨b, o, rfl, hc⟩ := h3 (by omega)
 obtain ⟨cs, _, ⟨k0, rfl⟩, k3⟩ := hc i _ (List.getElem?_eq_getElem hi)
 have e : l.getD i hz0 = l[i] := by simp [List.getD, List.getElem?_eq_getElem hi]
 rw [e]
 exact ⟨b, o, rfl, k3, k0⟩
theorem Hds.oks {W : World} {v : Value} {l : List Hd} (h : Hds W v l) : ∀ p ∈ l, p.ok := by
 intro p hp
 obtain ⟨A, c, rfl, _, _⟩ := h.len
 obtain ⟨i, hi, e⟩ := List.getElem_of_mem hp
 obtain ⟨_, _, _, _, h3⟩ := h.at i hi
 rw [List.getD_eq_getElem?_getD, List.getElem?_eq_getElem hi, Option.getD_some, e] at h3
 exact h3
set_option maxRecDepth 100000 in
theorem hdinfo : (Tryz.prog.info? 109).map (·.size) = some 11 := by kernel_rfl
set_option maxRecDepth 100000 in
theorem hdinfo3 : (Tryz.prog.info? 109).map (fun i => (i.zero, i.size, i.bytes)) = some (some (.agg (hdc hz0)), 11, 88) := by kernel_rfl
def Hb (W : World) (g : Nat) (h : Hd) : Prop := Cs W g 109 (hdc h)
theorem Hb.ext {W W' : World} {g : Nat} {h : Hd} (k : Hb W g h) (he : Ext W W') : Hb W' g h := Cs.ext k he
theorem Cs.rg {W : World} {g : Nat} {t : TypeId} {cs : Array Value} (h : Cs W g t cs) : W.rangeAt g 0 cs.toList := fun j x hx => by
 rw [Nat.zero_add]
 exact Cs.cell h j x (by rwa [Array.getElem?_toList] at hx)
theorem hd_dep {W : World} {b o : Nat} {h : Hd} (k : W.rangeAt b o (hdc h).toList) : W.rangeAt b (o + 1) (wc h.dep).toList := fun j x hx => by
 have hj : j < 4 := by have := (List.getElem?_eq_some_iff.1 hx).1; simpa [wc] using this
 have := k (1 + j) x (by
  match j, hj with
  | 0, _ => exact hx
  | 1, _ => exact hx
  | 2, _ => exact hx
  | 3, _ => exact hx)
 rwa [show o + 1 + j = o + (1 + j) by omega]
theorem hd_stk {W : World} {b o : Nat} {h : Hd} (k : W.rangeAt b o (hdc h).toList) : W.rangeAt b (o + 5) (wc h.stk).toList := fun j x hx => by
 have hj : j < 4 := by have := (List.getElem?_eq_some_iff.1 hx).1; simpa [wc] using this
 have := k (5 + j) x (by
  match j, hj with
  | 0, _ => exact hx
  | 1, _ => exact hx
  | 2, _ => exact hx
  | 3, _ => exact hx)
 rwa [show o + 5 + j = o + (5 + j) by omega]
theorem Hb.dep {W : World} {g : Nat} {h : Hd} (k : Hb W g h) : W.rangeAt g 1 (wc h.dep).toList := by have := hd_dep (Cs.rg k); rwa [Nat.zero_add] at this
theorem Hb.stk {W : World} {g : Nat} {h : Hd} (k : Hb W g h) : W.rangeAt g 5 (wc h.stk).toList := by have := hd_stk (Cs.rg k); rwa [Nat.zero_add] at this
theorem Hb.addr {W : World} {g : Nat} {h : Hd} (k : Hb W g h) : W.cell? ⟨g, 0, none⟩ = some (.int .u64 (h.addr : Nat)) := Cs.cell k 0 _ rfl
theorem Hb.dly {W : World} {g : Nat} {h : Hd} (k : Hb W g h) : W.cell? ⟨g, 9, none⟩ = some (.int .u64 (h.dly : Nat)) := Cs.cell k 9 _ rfl
theorem Hb.fre {W : World} {g : Nat} {h : Hd} (k : Hb W g h) : W.cell? ⟨g, 10, none⟩ = some (.int .u64 (h.fre : Nat)) := Cs.cell k 10 _ rfl
set_option maxRecDepth 100000 in
theorem wpList_load_hd {ops : Array Oper} {rest : List Oper} {o : Oper} {a : Act} {w : World} {Q : Exit → Act → World → Prop} (hgd : Region.wanted o (yielded ops a.tmps) = true) (x : Operand) (ho : o.op = .load 109 x)
  (g k : Nat) (p : Hd) (hx : a.eval x = .pointer (some ⟨g, k, none⟩)) (hg : w.rangeAt g k (hdc p).toList) (h : wpList Tryz.prog ops Q rest (a.put o.dst (.agg (hdc p))) w) : wpList Tryz.prog ops Q (o :: rest) a w := by
 refine wpList_step fun K hK => ?_
 rw [if_pos hgd]
 refine wp_load_mid 109 x ho g k hx (hdc p).toList _ hg Tryz.underlying109 rfl hdinfo ?_
 exact hK _ _ h

def layC (cur : Array Value) (k : Nat) (cs : Array Value) : Array Value := (cur.toList.take k ++ cs.toList ++ cur.toList.drop (k + cs.size)).toArray
theorem wpList_store_in {P : Program} {ops : Array Oper} {rest : List Oper} {o : Oper} {a : Act} {w : World} {Q : Exit → Act → World → Prop} (hgd : o.guard = none) (hd : o.dst = none) (ty : TypeId) (x y : Operand) (ho : o.op = .store ty x y)
  (g k : Nat) (t : TypeId) (cur cells : Array Value) (hx : a.eval x = .pointer (some ⟨g, k, none⟩)) (hy : a.eval y = .agg cells) (hg : Cs w g t cur) (hi : (P.info? ty).map (·.size) = some cells.size) (hb : k + cells.size ≤ cur.size) (h1 : cells.all (·.oneCell') = true)
  (h : ∀ w', Cs w' g t (layC cur k cells) → w.grownBy w' (some g) → wpList P ops Q rest a w') : wpList P ops Q (o :: rest) a w := by
 have h' : ∀ w', Cs w' g t (layC cur k cells) → w.grownBy w' (some g) → wpList P ops Q rest (a.put o.dst undef) w' := by rw [hd]; exact h
 have hrun := run_storeVar_elem (P := P) w g k t ty cur cells hg hi hb h1
 refine wpList_plain hgd fun K hK => ?_
 unfold Oper.wp execOp
 simp only [ho, hx, hy, Instr.storeAt, Instr.sureAddr, Sem.run_bind, Sem.run_pure, Result.andThen_ok, hrun]
 exact hK _ _ (h' _ (setRow_heap w g _ _ t (0, 0) hg) ⟨rfl, rfl, rfl, by simp [World.setRow], fun q _ hq => setRow_other w g q _ (fun e => hq (by simp [e]))⟩)
set_option maxRecDepth 100000 in
theorem run_part_dep (p : Hd) (w : World) : (part 75 (hdc p) 1).run Tryz.prog w = .ok (.agg (wc p.dep)) w := by
 have hi : ∃ i, Tryz.prog.info? 75 = some i ∧ i.size = 4 := ⟨_, rfl, rfl⟩
 obtain ⟨i, h1, h2⟩ := hi
 simp [part, isAgg, run_underlying Tryz.underlying75, sizeOf, typeInfo, h1, h2, hdc, wc]
set_option maxRecDepth 100000 in
theorem run_part_stk (p : Hd) (w : World) : (part 75 (hdc p) 5).run Tryz.prog w = .ok (.agg (wc p.stk)) w := by
 have hi : ∃ i, Tryz.prog.info? 75 = some i ∧ i.size = 4 := ⟨_, rfl, rfl⟩
 obtain ⟨i, h1, h2⟩ := hi
 simp [part, isAgg, run_underlying Tryz.underlying75, sizeOf, typeInfo, h1, h2, hdc, wc]
set_option maxRecDepth 100000 in
theorem run_eqItems_wordH (d a b : Nat) (w : World) : ∀ is : List Nat, (∀ i ∈ is, i < 4) → (Op.eqItems (d + 1) 44 1 (wc a) (wc b) is).run Tryz.prog w = .ok (is.all fun i => lb a i == lb b i) w
 | [], _ => by simp [Op.eqItems]
 | i :: is, h => by
  have ih := run_eqItems_wordH d a b w is (fun j hj => h j (List.mem_cons_of_mem _ hj))
  simp only [Op.eqItems, Sem.run_bind, run_part_word a i (h i List.mem_cons_self), run_part_word b i (h i List.mem_cons_self), Result.andThen_ok, lv, run_equalIn_int w d _ _ _ _ _ Tryz.underlying44]
  by_cases hb : lb a i = lb b i
  ·have : ((lb a i : Int) == (lb b i : Int)) = true := by simp [hb]
   rw [this]
   simp [ih, hb]
  ·have : ((lb a i : Int) == (lb b i : Int)) = false := by simp; omega
   rw [this]
   simp [hb]
set_option maxRecDepth 100000 in
theorem run_eq_wordH (a b : Nat) (ha : a < M256) (hb : b < M256) (w : World) : (Op.equalIn 9999 75 (.agg (wc a)) (.agg (wc b))).run Tryz.prog w = .ok (a == b) w := by
 obtain ⟨i, hi⟩ := wu_info
 have h := run_equalIn_array w 9998 (wc a) (wc b) Tryz.underlying75 hi
 rw [wu_cells, run_eqItems_wordH 9997 a b w (List.range 4) (fun i hi => List.mem_range.1 hi), all_lb a b ha hb] at h
 exact h
set_option maxRecDepth 100000 in
theorem addr_plain : Tryz.prog.plainKey 45 = true := by kernel_rfl
set_option maxRecDepth 100000 in
theorem run_part_addr (p : Hd) (w : World) : (part 45 (hdc p) 0).run Tryz.prog w = .ok (.int .u64 (p.addr : Nat)) w := run_part_plain w addr_plain rfl
set_option maxRecDepth 100000 in
theorem run_part_dly (p : Hd) (w : World) : (part 44 (hdc p) 9).run Tryz.prog w = .ok (.int .u64 (p.dly : Nat)) w := run_part_plain w wu_plain rfl
set_option maxRecDepth 100000 in
theorem run_part_fre (p : Hd) (w : World) : (part 44 (hdc p) 10).run Tryz.prog w = .ok (.int .u64 (p.fre : Nat)) w := run_part_plain w wu_plain rfl
set_option maxRecDepth 100000 in
theorem held_fields : ∃ f0 f1 f2 f3 f4 : Field, (Tryz.prog.fieldsOf 109).toList = [f0, f1, f2, f3, f4] ∧ (f0.type = 45 ∧ f0.offset = 0 ∧ f0.name ≠ "_") ∧ (f1.type = 75 ∧ f1.offset = 1 ∧ f1.name ≠ "_") ∧ (f2.type = 75 ∧ f2.offset = 5 ∧ f2.name ≠ "_") ∧ (f3.type = 44 ∧ f3.offset = 9 ∧ f3.name ≠ "_") ∧ (f4.type = 44 ∧ f4.offset = 10 ∧ f4.name ≠ "_") :=
 ⟨_, _, _, _, _, rfl, ⟨rfl, rfl, by decide⟩, ⟨rfl, rfl, by decide⟩, ⟨rfl, rfl, by decide⟩, ⟨rfl, rfl, by decide⟩, ⟨rfl, rfl, by decide⟩⟩
theorem int_beq (a b : Nat) : ((a : Int) == (b : Int)) = (a == b) := by
 rw [Bool.eq_iff_iff, beq_iff_eq, beq_iff_eq]
 omega
set_option maxRecDepth 100000 in
theorem run_eq_held_in (p q : Hd) (hp : p.ok) (hq : q.ok) (w : World) : (Op.equalIn 10000 109 (.agg (hdc p)) (.agg (hdc q))).run Tryz.prog w = .ok (p.eqB q) w := by
 rw [run_equalIn_struct w 9999 109 _ _ Tryz.underlying109 (by kernel_rfl)]
 obtain ⟨f0, f1, f2, f3, f4, h, ⟨t0, o0, n0⟩, ⟨t1, o1, n1⟩, ⟨t2, o2, n2⟩, ⟨t3, o3, n3⟩, ⟨t4, o4, n4⟩⟩ := held_fields
 rw [h]
 unfold Hd.eqB
 simp only [Op.eqFields, t0, o0, n0, t1, o1, n1, t2, o2, n2, t3, o3, n3, t4, o4, n4, ne_eq, not_false_eq_true, if_true, Sem.run_bind, run_part_addr, Result.andThen_ok, run_equalIn_int w 9998 _ _ _ _ _ Tryz.underlying45, int_beq]
 cases p.addr == q.addr with
 | false => simp
 | true =>
  simp only [Bool.not_true, Bool.false_eq_true, if_false, Sem.run_bind, run_part_dep, Result.andThen_ok, run_eq_wordH p.dep q.dep hp.2.1 hq.2.1, Bool.true_and]
  cases p.dep == q.dep with
  | false => simp
  | true =>
   simp only [Bool.not_true, Bool.false_eq_true, if_false, Sem.run_bind, run_part_stk, Result.andThen_ok, run_eq_wordH p.stk q.stk hp.2.2.1 hq.2.2.1, Bool.true_and]
   cases p.stk == q.stk with
   | false => simp
   | true =>
    simp only [Bool.not_true, Bool.false_eq_true, if_false, Sem.run_bind, run_part_dly, Result.andThen_ok, run_equalIn_int w 9998 _ _ _ _ _ Tryz.underlying44, int_beq, Bool.true_and]
    cases p.dly == q.dly with
    | false => simp
    | true =>
     simp only [Bool.not_true, Bool.false_eq_true, if_false, Sem.run_bind, run_part_fre, Result.andThen_ok, run_equalIn_int w 9998 _ _ _ _ _ Tryz.underlying44, int_beq, Bool.true_and]
     cases p.fre == q.fre <;> simp
set_option maxRecDepth 100000 in
theorem held_guard : Tryz.prog.eqGuardType Tryz.prog.depth 109 = false := by kernel_rfl
set_option maxRecDepth 100000 in
theorem wpList_eql_hd {ops : Array Oper} {rest : List Oper} {o : Oper} {a : Act} {w : World} {Q : Exit → Act → World → Prop} (hgd : Region.wanted o (yielded ops a.tmps) = true) (x y : Operand) (ho : o.op = .binOp .eql 109 x y 109)
  (p q : Hd) (hp : p.ok) (hq : q.ok) (hx : a.eval x = .agg (hdc p)) (hy : a.eval y = .agg (hdc q)) (h : wpList Tryz.prog ops Q rest (a.put o.dst (.bool (p.eqB q))) w) : wpList Tryz.prog ops Q (o :: rest) a w := by
 refine wpList_step fun K hK => ?_
 rw [if_pos hgd]
 unfold Oper.wp
 simp only [execOp, ho, hx, hy, Sem.run_bind, run_eqGuard_agg w .eql 109 x y (hdc p) (hdc q) held_guard, Result.andThen_ok, run_eql_struct, run_eq_held_in p q hp hq]
 exact hK _ _ h
end Go.Proofs.YtnjpdchmdimaaaaGreat
namespace Go.Proofs.YtnjpdchmdimaaaaGreat
open Go.ChangeShapes Go.WideShapes Go.ChangeAt Go.RowKit Go.Shelf

def Hd.rowB (h : Hd) : Bool := if h.stk = 0 then decide (h.dep ≠ 0) && (decide (h.dly = 0) && decide (h.fre = 0)) else decide (0 < h.dly) && (decide (h.dly ≤ 1073741824) && decide (h.fre ≤ 1100585369600))
set_option maxRecDepth 100000 in
set_option maxHeartbeats 1000000 in
theorem mayBeH_any (h : Hd) (w : World) (hok : h.ok) : Calls Tryz.prog 91 #[.agg (hdc h)] w fun e w' => e = .returned (.bool h.rowB) ∧ Ext w w' := by
 have HK : Hid (Hb (w.alloc (.cells (hdc h) 109)) w.heap.size h) := Lib.hid (Cs.new _ _ _ _ rfl)
 have HE := Lib.hid ((Ext.refl w).alloc (.cells (hdc h) 109))
 have hc9 := HK.out.dly
 have hc10 := HK.out.fre
 have HD := Lib.hid HK.out.dep
 have HS := Lib.hid HK.out.stk
 have HM : Hid (h.rowB = if h.stk = 0 then decide (h.dep ≠ 0) && (decide (h.dly = 0) && decide (h.fre = 0)) else decide (0 < h.dly) && (decide (h.dly ≤ 1073741824) && decide (h.fre ≤ 1100585369600))) := Lib.hid rfl
 obtain ⟨_, o1, o2, _, _⟩ := hok
 have HO1 := Lib.hid o1
 have HO2 := Lib.hid o2
 obtain ⟨cs, hcs⟩ : ∃ cs, hdc h = cs := ⟨_, rfl⟩
 rw [hcs] at hc9 hc10 HD HS HE HK ⊢
 clear hcs o1 o2
 obtain ⟨addr, dep, stk, dly, fre⟩ := h
 dsimp only at *
 go_enter Tryz.func91, Tryz.ntmps91
 by_cases c0 : stk = 0
 ·have f0_0 : (stk == 0) = true := by rw [beq_iff_eq]; exact c0
  have C0 := Lib.hid c0
  clear c0
  by_cases c1 : dep = 0
  ·have f1_0 : (dep == 0) = true := by rw [beq_iff_eq]; exact c1
   have f1_1 : (dep != 0) = false := by rw [c1]; rfl
   have C1 := Lib.hid c1
   clear c1
   go_wp2_with (first
    | ((with_reducible refine wpList_load_wordIn ?_ (.tmp 3) ?_ w.heap.size 5 (stk) ?_ ?_ ?_); (exact rfl); (exact rfl); (exact rfl); (exact HS.out))
    | ((with_reducible refine wpList_eql_word ?_ (.tmp 4) (.tmp 5) ?_ (stk) (0) HO2.out (by decide) ?_ ?_ ?_); (exact rfl); (exact rfl); (exact rfl); (exact rfl))
    | ((with_reducible refine wpList_load_wordIn ?_ (.tmp 7) ?_ w.heap.size 1 (dep) ?_ ?_ ?_); (exact rfl); (exact rfl); (exact rfl); (exact HD.out))
    | ((with_reducible refine wpList_neq_word ?_ (.tmp 8) (.tmp 9) ?_ (dep) (0) HO1.out (by decide) ?_ ?_ ?_); (exact rfl); (exact rfl); (exact rfl); (exact rfl)))
   go_ret
   exact ⟨by rw [HM.out]; simp [C0.out, C1.out], HE.out⟩
  ·have f1_0 : (dep == 0) = false := by rw [beq_eq_false_iff_ne]; exact c1
   have f1_1 : (dep != 0) = true := by simpa using c1
   have C1 := Lib.hid c1
   clear c1
   by_cases c2 : dly = 0
   ·have f2_0 : (((dly : Nat) : Int) == 0) = true := by rw [beq_iff_eq]; omega
    have f2_1 : (dly == 0) = true := by rw [beq_iff_eq]; exact c2
    have C2 := Lib.hid c2
    clear c2
    by_cases c3 : fre = 0
    ·have f3_0 : (((fre : Nat) : Int) == 0) = true := by rw [beq_iff_eq]; omega
     have f3_1 : (fre == 0) = true := by rw [beq_iff_eq]; exact c3
     have C3 := Lib.hid c3
     clear c3
     go_wp2_with (first
      | ((with_reducible refine wpList_load_wordIn ?_ (.tmp 3) ?_ w.heap.size 5 (stk) ?_ ?_ ?_); (exact rfl); (exact rfl); (exact rfl); (exact HS.out))
      | ((with_reducible refine wpList_eql_word ?_ (.tmp 4) (.tmp 5) ?_ (stk) (0) HO2.out (by decide) ?_ ?_ ?_); (exact rfl); (exact rfl); (exact rfl); (exact rfl))
      | ((with_reducible refine wpList_load_wordIn ?_ (.tmp 7) ?_ w.heap.size 1 (dep) ?_ ?_ ?_); (exact rfl); (exact rfl); (exact rfl); (exact HD.out))
      | ((with_reducible refine wpList_neq_word ?_ (.tmp 8) (.tmp 9) ?_ (dep) (0) HO1.out (by decide) ?_ ?_ ?_); (exact rfl); (exact rfl); (exact rfl); (exact rfl)))
     go_ret
     exact ⟨by rw [HM.out]; simp [C0.out, C1.out, C2.out, C3.out], HE.out⟩
    ·have f3_0 : (((fre : Nat) : Int) == 0) = false := by rw [beq_eq_false_iff_ne]; omega
     have f3_1 : (fre == 0) = false := by rw [beq_eq_false_iff_ne]; exact c3
     have C3 := Lib.hid c3
     clear c3
     go_wp2_with (first
      | ((with_reducible refine wpList_load_wordIn ?_ (.tmp 3) ?_ w.heap.size 5 (stk) ?_ ?_ ?_); (exact rfl); (exact rfl); (exact rfl); (exact HS.out))
      | ((with_reducible refine wpList_eql_word ?_ (.tmp 4) (.tmp 5) ?_ (stk) (0) HO2.out (by decide) ?_ ?_ ?_); (exact rfl); (exact rfl); (exact rfl); (exact rfl))
      | ((with_reducible refine wpList_load_wordIn ?_ (.tmp 7) ?_ w.heap.size 1 (dep) ?_ ?_ ?_); (exact rfl); (exact rfl); (exact rfl); (exact HD.out))
      | ((with_reducible refine wpList_neq_word ?_ (.tmp 8) (.tmp 9) ?_ (dep) (0) HO1.out (by decide) ?_ ?_ ?_); (exact rfl); (exact rfl); (exact rfl); (exact rfl)))
     go_ret
     exact ⟨by rw [HM.out]; simp [C0.out, C1.out, C2.out, C3.out], HE.out⟩
   ·have f2_0 : (((dly : Nat) : Int) == 0) = false := by rw [beq_eq_false_iff_ne]; omega
    have f2_1 : (dly == 0) = false := by rw [beq_eq_false_iff_ne]; exact c2
    have C2 := Lib.hid c2
    clear c2
    go_wp2_with (first
     | ((with_reducible refine wpList_load_wordIn ?_ (.tmp 3) ?_ w.heap.size 5 (stk) ?_ ?_ ?_); (exact rfl); (exact rfl); (exact rfl); (exact HS.out))
     | ((with_reducible refine wpList_eql_word ?_ (.tmp 4) (.tmp 5) ?_ (stk) (0) HO2.out (by decide) ?_ ?_ ?_); (exact rfl); (exact rfl); (exact rfl); (exact rfl))
     | ((with_reducible refine wpList_load_wordIn ?_ (.tmp 7) ?_ w.heap.size 1 (dep) ?_ ?_ ?_); (exact rfl); (exact rfl); (exact rfl); (exact HD.out))
     | ((with_reducible refine wpList_neq_word ?_ (.tmp 8) (.tmp 9) ?_ (dep) (0) HO1.out (by decide) ?_ ?_ ?_); (exact rfl); (exact rfl); (exact rfl); (exact rfl)))
    go_ret
    exact ⟨by rw [HM.out]; simp [C0.out, C1.out, C2.out], HE.out⟩
 ·have f0_0 : (stk == 0) = false := by rw [beq_eq_false_iff_ne]; exact c0
  have C0 := Lib.hid c0
  clear c0
  by_cases c1 : 0 < dly
  ·have f1_0 : (decide ((0 : Int) < ((dly : Nat) : Int))) = true := decide_eq_true (by omega)
   have f1_1 : (decide (0 < dly)) = true := decide_eq_true (by omega)
   have C1 := Lib.hid c1
   clear c1
   by_cases c2 : dly ≤ 1073741824
   ·have f2_0 : (decide (((dly : Nat) : Int) ≤ 1073741824)) = true := decide_eq_true (by omega)
    have f2_1 : (decide (dly ≤ 1073741824)) = true := decide_eq_true (by omega)
    have C2 := Lib.hid c2
    clear c2
    by_cases c3 : fre ≤ 1100585369600
    ·have f3_0 : (decide (((fre : Nat) : Int) ≤ 1100585369600)) = true := decide_eq_true (by omega)
     have f3_1 : (decide (fre ≤ 1100585369600)) = true := decide_eq_true (by omega)
     have C3 := Lib.hid c3
     clear c3
     go_wp2_with (first
      | ((with_reducible refine wpList_load_wordIn ?_ (.tmp 3) ?_ w.heap.size 5 (stk) ?_ ?_ ?_); (exact rfl); (exact rfl); (exact rfl); (exact HS.out))
      | ((with_reducible refine wpList_eql_word ?_ (.tmp 4) (.tmp 5) ?_ (stk) (0) HO2.out (by decide) ?_ ?_ ?_); (exact rfl); (exact rfl); (exact rfl); (exact rfl))
      | ((with_reducible refine wpList_load_wordIn ?_ (.tmp 7) ?_ w.heap.size 1 (dep) ?_ ?_ ?_); (exact rfl); (exact rfl); (exact rfl); (exact HD.out))
      | ((with_reducible refine wpList_neq_word ?_ (.tmp 8) (.tmp 9) ?_ (dep) (0) HO1.out (by decide) ?_ ?_ ?_); (exact rfl); (exact rfl); (exact rfl); (exact rfl)))
     go_ret
     exact ⟨by rw [HM.out]; simp [C0.out, C1.out, C2.out, C3.out], HE.out⟩
    ·have f3_0 : (decide (((fre : Nat) : Int) ≤ 1100585369600)) = false := decide_eq_false (by omega)
     have f3_1 : (decide (fre ≤ 1100585369600)) = false := decide_eq_false (by omega)
     have C3 := Lib.hid c3
     clear c3
     go_wp2_with (first
      | ((with_reducible refine wpList_load_wordIn ?_ (.tmp 3) ?_ w.heap.size 5 (stk) ?_ ?_ ?_); (exact rfl); (exact rfl); (exact rfl); (exact HS.out))
      | ((with_reducible refine wpList_eql_word ?_ (.tmp 4) (.tmp 5) ?_ (stk) (0) HO2.out (by decide) ?_ ?_ ?_); (exact rfl); (exact rfl); (exact rfl); (exact rfl))
      | ((with_reducible refine wpList_load_wordIn ?_ (.tmp 7) ?_ w.heap.size 1 (dep) ?_ ?_ ?_); (exact rfl); (exact rfl); (exact rfl); (exact HD.out))
      | ((with_reducible refine wpList_neq_word ?_ (.tmp 8) (.tmp 9) ?_ (dep) (0) HO1.out (by decide) ?_ ?_ ?_); (exact rfl); (exact rfl); (exact rfl); (exact rfl)))
     go_ret
     exact ⟨by rw [HM.out]; simp [C0.out, C1.out, C2.out, C3.out], HE.out⟩
   ·have f2_0 : (decide (((dly : Nat) : Int) ≤ 1073741824)) = false := decide_eq_false (by omega)
    have f2_1 : (decide (dly ≤ 1073741824)) = false := decide_eq_false (by omega)
    have C2 := Lib.hid c2
    clear c2
    go_wp2_with (first
     | ((with_reducible refine wpList_load_wordIn ?_ (.tmp 3) ?_ w.heap.size 5 (stk) ?_ ?_ ?_); (exact rfl); (exact rfl); (exact rfl); (exact HS.out))
     | ((with_reducible refine wpList_eql_word ?_ (.tmp 4) (.tmp 5) ?_ (stk) (0) HO2.out (by decide) ?_ ?_ ?_); (exact rfl); (exact rfl); (exact rfl); (exact rfl))
     | ((with_reducible refine wpList_load_wordIn ?_ (.tmp 7) ?_ w.heap.size 1 (dep) ?_ ?_ ?_); (exact rfl); (exact rfl); (exact rfl); (exact HD.out))
     | ((with_reducible refine wpList_neq_word ?_ (.tmp 8) (.tmp 9) ?_ (dep) (0) HO1.out (by decide) ?_ ?_ ?_); (exact rfl); (exact rfl); (exact rfl); (exact rfl)))
    go_ret
    exact ⟨by rw [HM.out]; simp [C0.out, C1.out, C2.out], HE.out⟩
  ·have f1_0 : (decide ((0 : Int) < ((dly : Nat) : Int))) = false := decide_eq_false (by omega)
   have f1_1 : (decide (0 < dly)) = false := decide_eq_false (by omega)
   have C1 := Lib.hid c1
   clear c1
   go_wp2_with (first
    | ((with_reducible refine wpList_load_wordIn ?_ (.tmp 3) ?_ w.heap.size 5 (stk) ?_ ?_ ?_); (exact rfl); (exact rfl); (exact rfl); (exact HS.out))
    | ((with_reducible refine wpList_eql_word ?_ (.tmp 4) (.tmp 5) ?_ (stk) (0) HO2.out (by decide) ?_ ?_ ?_); (exact rfl); (exact rfl); (exact rfl); (exact rfl))
    | ((with_reducible refine wpList_load_wordIn ?_ (.tmp 7) ?_ w.heap.size 1 (dep) ?_ ?_ ?_); (exact rfl); (exact rfl); (exact rfl); (exact HD.out))
    | ((with_reducible refine wpList_neq_word ?_ (.tmp 8) (.tmp 9) ?_ (dep) (0) HO1.out (by decide) ?_ ?_ ?_); (exact rfl); (exact rfl); (exact rfl); (exact rfl)))
   go_ret
   exact ⟨by rw [HM.out]; simp [C0.out, C1.out], HE.out⟩
end Go.Proofs.YtnjpdchmdimaaaaGreat
