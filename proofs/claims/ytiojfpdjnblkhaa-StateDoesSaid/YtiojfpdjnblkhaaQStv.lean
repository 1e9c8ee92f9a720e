/- Package state: slots, accounts, states that are the same. -/
import Derived.Test.YtiojfpdjnblkhaaQStb
import Derived.Test.YtiojfpdjnblkhaaQByt
import Derived.ChangeKeysEq
import Derived.Laws.StructEq
namespace Go.Proofs.Ytiojfpdjnblkhaa
open Go.ChangeShapes Go.WideShapes Go.ChangeAt Go.RowKit Go.Shelf

set_option maxRecDepth 100000 in
theorem run_part_key (p : Nat × Nat) (w : World) : (part 31 (pkc p) 0).run Try.prog w = .ok (.agg (wc p.1)) w := by
 have hi : ∃ i, Try.prog.info? 31 = some i ∧ i.size = 4 := ⟨_, rfl, rfl⟩
 obtain ⟨i, h1, h2⟩ := hi
 simp [part, isAgg, run_underlying Try.underlying31, sizeOf, typeInfo, h1, h2, pkc, wc]
set_option maxRecDepth 100000 in
theorem run_part_val (p : Nat × Nat) (w : World) : (part 31 (pkc p) 4).run Try.prog w = .ok (.agg (wc p.2)) w := by
 have hi : ∃ i, Try.prog.info? 31 = some i ∧ i.size = 4 := ⟨_, rfl, rfl⟩
 obtain ⟨i, h1, h2⟩ := hi
 simp [part, isAgg, run_underlying Try.underlying31, sizeOf, typeInfo, h1, h2, pkc, wc]
set_option maxRecDepth 100000 in
theorem run_eqItems_word_in (d a b : Nat) (w : World) : ∀ is : List Nat, (∀ i ∈ is, i < 4) → (Op.eqItems (d + 1) 28 1 (wc a) (wc b) is).run Try.prog w = .ok (is.all fun i => lb a i == lb b i) w
 | [], _ => by simp [Op.eqItems]
 | i :: is, h => by
  have ih := run_eqItems_word_in d a b w is (fun j hj => h j (List.mem_cons_of_mem _ hj))
  simp only [Op.eqItems, Sem.run_bind, run_part_word a i (h i List.mem_cons_self), run_part_word b i (h i List.mem_cons_self), Result.andThen_ok, lv, run_equalIn_int w d _ _ _ _ _ Try.underlying28]
  by_cases hb : lb a i = lb b i
  ·have : ((lb a i : Int) == (lb b i : Int)) = true := by simp [hb]
   rw [this]
   simp [ih, hb]
  ·have : ((lb a i : Int) == (lb b i : Int)) = false := by simp; omega
   rw [this]
   simp [hb]
set_option maxRecDepth 100000 in
theorem run_eq_word_in (a b : Nat) (ha : a < M256) (hb : b < M256) (w : World) : (Op.equalIn 9999 31 (.agg (wc a)) (.agg (wc b))).run Try.prog w = .ok (a == b) w := by
 obtain ⟨i, hi⟩ := wu_info
 have h := run_equalIn_array w 9998 (wc a) (wc b) Try.underlying31 hi
 rw [wu_cells, run_eqItems_word_in 9997 a b w (List.range 4) (fun i hi => List.mem_range.1 hi), all_lb a b ha hb] at h
 exact h
set_option maxRecDepth 100000 in
theorem pair_fields : ∃ f0 f1 : Field, (Try.prog.fieldsOf 33).toList = [f0, f1] ∧ f0.type = 31 ∧ f0.offset = 0 ∧ f1.type = 31 ∧ f1.offset = 4 ∧ f0.name ≠ "_" ∧ f1.name ≠ "_" := ⟨_, _, rfl, rfl, rfl, rfl, rfl, by decide, by decide⟩
set_option maxRecDepth 100000 in
theorem run_eq_pair_in (p q : Nat × Nat) (hp : p.1 < M256 ∧ p.2 < M256) (hq : q.1 < M256 ∧ q.2 < M256) (w : World) : (Op.equalIn 10000 33 (.agg (pkc p)) (.agg (pkc q))).run Try.prog w = .ok (p == q) w := by
 rw [run_equalIn_struct w 9999 33 _ _ Try.underlying33 (by kernel_rfl)]
 obtain ⟨f0, f1, h, t0, o0, t1, o1, n0, n1⟩ := pair_fields
 rw [h]
 have e : (p == q) = (p.1 == q.1 && p.2 == q.2) := by cases p; cases q; rfl
 simp only [Op.eqFields, t0, o0, t1, o1, n0, n1, ne_eq, not_false_eq_true, if_true, Sem.run_bind, run_part_key, Result.andThen_ok, run_eq_word_in p.1 q.1 hp.1 hq.1, e]
 cases p.1 == q.1 with
 | false => simp
 | true =>
  simp only [Bool.not_true, Bool.false_eq_true, if_false, Sem.run_bind, run_part_val, Result.andThen_ok, run_eq_word_in p.2 q.2 hp.2 hq.2, Bool.true_and]
  cases p.2 == q.2 <;> simp
set_option maxRecDepth 100000 in
theorem run_neq_pair (p q : Nat × Nat) (hp : p.1 < M256 ∧ p.2 < M256) (hq : q.1 < M256 ∧ q.2 < M256) (w : World) : (binOp .neq 33 (.agg (pkc p)) (.agg (pkc q))).run Try.prog w = .ok (.bool (p != q)) w := by
 rw [run_neq_struct, run_eq_pair_in p q hp hq]
 rfl
set_option maxRecDepth 100000 in
theorem pair_guard : Try.prog.eqGuardType Try.prog.depth 33 = false := by kernel_rfl
set_option maxRecDepth 100000 in
theorem wpList_neq_pair {ops : Array Oper} {rest : List Oper} {o : Oper} {a : Act} {w : World} {Q : Exit → Act → World → Prop} (hgd : Region.wanted o (yielded ops a.tmps) = true) (x y : Operand) (ho : o.op = .binOp .neq 33 x y 33)
  (p q : Nat × Nat) (hp : p.1 < M256 ∧ p.2 < M256) (hq : q.1 < M256 ∧ q.2 < M256) (hx : a.eval x = .agg (pkc p)) (hy : a.eval y = .agg (pkc q)) (h : wpList Try.prog ops Q rest (a.put o.dst (.bool (p != q))) w) : wpList Try.prog ops Q (o :: rest) a w := by
 refine wpList_step fun K hK => ?_
 rw [if_pos hgd]
 unfold Oper.wp
 simp only [execOp, ho, hx, hy, Sem.run_bind, run_eqGuard_agg w .neq 33 x y (pkc p) (pkc q) pair_guard, Result.andThen_ok, run_neq_pair p q hp hq]
 exact hK _ _ h
theorem lst_ne {α : Type} [BEq α] [LawfulBEq α] (a b : List α) (k : Nat) (d : α) (hn : (a.getD k d == b.getD k d) = false) : (a == b) = false := by
 rw [beq_eq_false_iff_ne]
 rintro rfl
 simp at hn
theorem lst_eq {α : Type} [BEq α] [LawfulBEq α] (a b : List α) (d : α) (hl : a.length = b.length) (h : ∀ i, i < a.length → a.getD i d = b.getD i d) : (a == b) = true := by
 rw [beq_iff_eq]
 apply List.ext_getElem hl
 intro i h1 h2
 have := h i h1
 rwa [List.getD, List.getElem?_eq_getElem h1, List.getD, List.getElem?_eq_getElem h2] at this
def Ac.eqB (p q : Ac) : Bool := decide (p.addr = q.addr) && (decide (p.bal = q.bal) && (decide (p.nonce = q.nonce) && ((p.code == q.code) && (p.store == q.store))))
theorem Ac.eqB_iff (p q : Ac) : p.eqB q = true ↔ p = q := by
 obtain ⟨a, b, c, d, e⟩ := p
 obtain ⟨a', b', c', d', e'⟩ := q
 unfold Ac.eqB
 simp [Ac.mk.injEq]
def eqL : List Ac → List Ac → Bool
 | [], [] => true
 | p :: l, q :: m => p.eqB q && eqL l m
 | _, _ => false
theorem eqL_iff : ∀ (l m : List Ac), eqL l m = true ↔ l = m
 | [], [] => by simp [eqL]
 | [], _ :: _ => by simp [eqL]
 | _ :: _, [] => by simp [eqL]
 | p :: l, q :: m => by
  unfold eqL
  rw [Bool.and_eq_true, Ac.eqB_iff, eqL_iff l m, List.cons.injEq]
theorem eqL_len (l m : List Ac) (h : l.length ≠ m.length) : eqL l m = false := by
 cases e : eqL l m with
 | false => rfl
 | true => exact absurd (congrArg List.length ((eqL_iff l m).1 e)) h
theorem eqL_ne (l m : List Ac) (k : Nat) (h : (l.getD k acz).eqB (m.getD k acz) = false) : eqL l m = false := by
 cases e : eqL l m with
 | false => rfl
 | true =>
  rw [(eqL_iff l m).1 e, (Ac.eqB_iff _ _).2 rfl] at h
  cases h
theorem eqL_all (l m : List Ac) (hl : l.length = m.length) (h : ∀ i, i < l.length → l.getD i acz = m.getD i acz) : eqL l m = true := by
 rw [eqL_iff]
 apply List.ext_getElem hl
 intro i h1 h2
 have := h i h1
 rwa [List.getD, List.getElem?_eq_getElem h1, List.getD, List.getElem?_eq_getElem h2] at this
end Go.Proofs.Ytiojfpdjnblkhaa
