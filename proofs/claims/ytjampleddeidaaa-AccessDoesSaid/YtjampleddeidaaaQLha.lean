/- Package ledger: rows, tellers, in memory; two rows that are the same. -/
import Derived.Test.YtjampleddeidaaaQPka
import Derived.Test.YtjampleddeidaaaQInw
import Derived.Test.YtjampleddeidaaaQByt
import Derived.Test.YtjampleddeidaaaQWsq
import Derived.IntWalk
import Derived.Outline
import Derived.OwnWalk
import Derived.Laws.CopyRow
import Derived.ChangeKeysEq
import Derived.Laws.StructEq
namespace Go.Proofs.Ytjampleddeidaaa
open Go.ChangeShapes Go.WideShapes Go.ChangeAt Go.RowKit Go.Shelf

structure Hd where
  addr : Nat
  dep : Nat
  stk : Nat
  dly : Nat
  fre : Nat
def hz0 : Hd := ⟨0, 0, 0, 0, 0⟩
def Hd.eqB (p q : Hd) : Bool := p.addr == q.addr && (p.dep == q.dep && (p.stk == q.stk && (p.dly == q.dly && p.fre == q.fre)))
set_option maxRecDepth 100000 in
theorem Hd.eqB_iff (p q : Hd) : p.eqB q = true ↔ p = q := by
  cases p; cases q
  simp [Hd.eqB]
set_option maxRecDepth 100000 in
theorem Hd.eqB_self (p : Hd) : p.eqB p = true := (Hd.eqB_iff p p).2 rfl
instance : DecidableEq Hd := fun p q => if h : p.eqB q = true then isTrue ((Hd.eqB_iff p q).1 h) else isFalse fun e => h ((Hd.eqB_iff p q).2 e)
def hdc (h : Hd) : Array Value := #[.int .u64 (h.addr : Nat), lv (lb h.dep 0), lv (lb h.dep 1), lv (lb h.dep 2), lv (lb h.dep 3), lv (lb h.stk 0), lv (lb h.stk 1), lv (lb h.stk 2), lv (lb h.stk 3), .int .u64 (h.dly : Nat), .int .u64 (h.fre : Nat)]
set_option maxRecDepth 100000 in
theorem Cs.rg {W : World} {g : Nat} {t : TypeId} {cs : Array Value} (h : Cs W g t cs) : W.rangeAt g 0 cs.toList := fun j x hx => by
  rw [Nat.zero_add]
  exact Cs.cell h j x (by rwa [Array.getElem?_toList] at hx)
def layC (cur : Array Value) (k : Nat) (cs : Array Value) : Array Value := (cur.toList.take k ++ cs.toList ++ cur.toList.drop (k + cs.size)).toArray
set_option maxRecDepth 100000 in
theorem wpList_store_in {P : Program} {ops : Array Oper} {rest : List Oper} {o : Oper} {a : Act} {w : World} {Q : Exit → Act → World → Prop} (hgd : o.guard = none) (hd : o.dst = none) (ty : TypeId) (x y : Operand) (ho : o.op = .store ty x y)
    (g k : Nat) (t : TypeId) (cur cells : Array Value) (hx : a.eval x = .pointer (some ⟨g, k, none⟩)) (hy : a.eval y = .agg cells) (hg : Cs w g t cur) (hi : (P.info? ty).map (·.size) = some cells.size) (hb : k + cells.size ≤ cur.size) (h1 : cells.all (·.oneCell') = true)
    (h : ∀ w', Cs w' g t (layC cur k cells) → w.grownBy w' (some g) → wpList P ops Q rest a w') : wpList P ops Q (o :: rest) a w := by
  have h' : ∀ w', Cs w' g t (layC cur k cells) → w.grownBy w' (some g) → wpList P ops Q rest (a.put o.dst undef) w' := by rw [hd]; exact h
  have hrun := run_storeVar_elem (P := P) w g k t ty cur cells hg hi hb h1
  refine wpList_plain hgd fun K hK => ?_
  unfold Oper.wp execOp
  simp only [ho, hx, hy, Instr.storeAt, Instr.sureAddr, Sem.run_bind, Sem.run_pure, Result.andThen_ok, hrun]
  exact hK _ _ (h' _ (setRow_heap w g _ _ t (0, 0) hg) ⟨rfl, rfl, rfl, by simp [World.setRow], fun q _ hq => setRow_other w g q _ (fun e => hq (by simp [e]))⟩)
set_option maxRecDepth 100000 in
theorem run_eqItems_wordH (d a b : Nat) (w : World) : ∀ is : List Nat, (∀ i ∈ is, i < 4) → (Op.eqItems (d + 1) 27 1 (wc a) (wc b) is).run Try.prog w = .ok (is.all fun i => lb a i == lb b i) w
  | [], _ => by simp [Op.eqItems]
  | i :: is, h => by
    have ih := run_eqItems_wordH d a b w is (fun j hj => h j (List.mem_cons_of_mem _ hj))
    simp only [Op.eqItems, Sem.run_bind, run_part_word a i (h i List.mem_cons_self), run_part_word b i (h i List.mem_cons_self), Result.andThen_ok, lv, run_equalIn_int w d _ _ _ _ _ Try.underlying27]
    by_cases hb : lb a i = lb b i
    · have : ((lb a i : Int) == (lb b i : Int)) = true := by simp [hb]
      rw [this]
      simp [ih, hb]
    · have : ((lb a i : Int) == (lb b i : Int)) = false := by simp; omega
      rw [this]
      simp [hb]
set_option maxRecDepth 100000 in
theorem addr_plain : Try.prog.plainKey 28 = true := by kernel_rfl
set_option maxRecDepth 100000 in
theorem int_beq (a b : Nat) : ((a : Int) == (b : Int)) = (a == b) := by
  rw [Bool.eq_iff_iff, beq_iff_eq, beq_iff_eq]
  omega
end Go.Proofs.Ytjampleddeidaaa
