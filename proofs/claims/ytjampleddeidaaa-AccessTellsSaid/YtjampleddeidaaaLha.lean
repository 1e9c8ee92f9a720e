/- Package ledger: rows, tellers, in memory; two rows that are the same. -/
import Derived.Test.YtjampleddeidaaaPka
import Derived.Test.YtjampleddeidaaaInw
import Derived.Test.YtjampleddeidaaaByt
import Derived.Test.YtjampleddeidaaaWsq
import Derived.IntWalk
import Derived.Outline
import Derived.OwnWalk
import Derived.Laws.CopyRow
import Derived.ChangeKeysEq
import Derived.Laws.StructEq
namespace Go.Proofs.Ytjampleddeidaaa
open Go.ChangeShapes Go.WideShapes Go.ChangeAt Go.RowKit Go.Shelf

/-! ### Rows -/
/-- What is held for an address. -/
structure Hd where
  addr : Nat
  dep : Nat
  stk : Nat
  dly : Nat
  fre : Nat
def hz0 : Hd := ⟨0, 0, 0, 0, 0⟩
def Hd.ok (h : Hd) : Prop := h.addr < 18446744073709551616 ∧ h.dep < M256 ∧ h.stk < M256 ∧ h.dly < 18446744073709551616 ∧ h.fre < 18446744073709551616
def Hd.eqB (p q : Hd) : Bool := p.addr == q.addr && (p.dep == q.dep && (p.stk == q.stk && (p.dly == q.dly && p.fre == q.fre)))
set_option maxRecDepth 100000 in
theorem Hd.eqB_iff (p q : Hd) : p.eqB q = true ↔ p = q := by
  cases p; cases q
  simp [Hd.eqB]
set_option maxRecDepth 100000 in
theorem Hd.eqB_self (p : Hd) : p.eqB p = true := (Hd.eqB_iff p p).2 rfl
instance : DecidableEq Hd := fun p q => if h : p.eqB q = true then isTrue ((Hd.eqB_iff p q).1 h) else isFalse fun e => h ((Hd.eqB_iff p q).2 e)
/-- The cells of a row. -/
def hdc (h : Hd) : Array Value := #[.int .u64 (h.addr : Nat), lv (lb h.dep 0), lv (lb h.dep 1), lv (lb h.dep 2), lv (lb h.dep 3), lv (lb h.stk 0), lv (lb h.stk 1), lv (lb h.stk 2), lv (lb h.stk 3), .int .u64 (h.dly : Nat), .int .u64 (h.fre : Nat)]
set_option maxRecDepth 100000 in
theorem hdc_one (h : Hd) : (hdc h).all (·.oneCell') = true := by simp [hdc, lv, Value.oneCell']
set_option maxRecDepth 100000 in
theorem hdc_ones (h : Hd) : ∀ u ∈ (hdc h).toList, u.oneCell' = true := fun u hu => Array.all_eq_true_iff_forall_mem.1 (hdc_one h) u (by simpa using hu)
/-- The cells cs read as the row h. -/
def HdR (cs : List Value) (h : Hd) : Prop := h.ok ∧ cs = (hdc h).toList
/-- The slice v reads as the rows l. -/
def Hds (W : World) (v : Value) (l : List Hd) : Prop := Sl W 11 HdR v l
set_option maxRecDepth 100000 in
theorem Hds.ext {W W' : World} {v : Value} {l : List Hd} (h : Hds W v l) (he : Ext W W') : Hds W' v l := Sl.mono h (fun _ _ hc => he.cell hc) fun _ _ h => h
set_option maxRecDepth 100000 in
theorem Hds.len {W : World} {v : Value} {l : List Hd} (h : Hds W v l) : ∃ A c, v = .slice A l.length c ∧ l.length ≤ c ∧ c ≤ maxLen := by
  obtain ⟨A, c, e, h1, h2, _⟩ := h
  exact ⟨A, c, e, h1, h2⟩
set_option maxRecDepth 100000 in
theorem Hds.nil (W : World) : Hds W (.slice none 0 0) [] := ⟨none, 0, rfl, Nat.le_refl _, Nat.zero_le _, fun h => absurd h (by simp)⟩
set_option maxRecDepth 100000 in
theorem Hds.at {W : World} {A : Option Addr} {n c : Nat} {l : List Hd} (h : Hds W (.slice A n c) l) (i : Nat) (hi : i < l.length) : ∃ b o, A = some ⟨b, o, none⟩ ∧ W.rangeAt b (o + i * 11) (hdc (l.getD i hz0)).toList ∧ (l.getD i hz0).ok := by
  obtain ⟨A', c', e, _, _, h3⟩ := h
  injection e with e1 e2 e3
  subst e1
  obtain ⟨b, o, rfl, hc⟩ := h3 (by omega)
  obtain ⟨cs, _, ⟨k0, rfl⟩, k3⟩ := hc i _ (List.getElem?_eq_getElem hi)
  have e : l.getD i hz0 = l[i] := by simp [List.getD, List.getElem?_eq_getElem hi]
  rw [e]
  exact ⟨b, o, rfl, k3, k0⟩
set_option maxRecDepth 100000 in
theorem Hds.oks {W : World} {v : Value} {l : List Hd} (h : Hds W v l) : ∀ p ∈ l, p.ok := by
  intro p hp
  obtain ⟨A, c, rfl, _, _⟩ := h.len
  obtain ⟨i, hi, e⟩ := List.getElem_of_mem hp
  obtain ⟨_, _, _, _, h3⟩ := h.at i hi
  rw [List.getD_eq_getElem?_getD, List.getElem?_eq_getElem hi, Option.getD_some, e] at h3
  exact h3
set_option maxRecDepth 100000 in
theorem Cs.rg {W : World} {g : Nat} {t : TypeId} {cs : Array Value} (h : Cs W g t cs) : W.rangeAt g 0 cs.toList := fun j x hx => by
  rw [Nat.zero_add]
  exact Cs.cell h j x (by rwa [Array.getElem?_toList] at hx)
set_option maxRecDepth 100000 in
theorem hd_addr {W : World} {b o : Nat} {h : Hd} (k : W.rangeAt b o (hdc h).toList) : W.cell? ⟨b, o, none⟩ = some (.int .u64 (h.addr : Nat)) := k 0 _ rfl
set_option maxRecDepth 100000 in
theorem hd_dep {W : World} {b o : Nat} {h : Hd} (k : W.rangeAt b o (hdc h).toList) : W.rangeAt b (o + 1) (wc h.dep).toList := fun j x hx => by
  have hj : j < 4 := by have := (List.getElem?_eq_some_iff.1 hx).1; simpa [wc] using this
  have := k (1 + j) x (by
    match j, hj with
    | 0, _ => exact hx
    | 1, _ => exact hx
    | 2, _ => exact hx
    | 3, _ => exact hx)
  rwa [show o + 1 + j = o + (1 + j) by omega]
set_option maxRecDepth 100000 in
theorem hd_stk {W : World} {b o : Nat} {h : Hd} (k : W.rangeAt b o (hdc h).toList) : W.rangeAt b (o + 5) (wc h.stk).toList := fun j x hx => by
  have hj : j < 4 := by have := (List.getElem?_eq_some_iff.1 hx).1; simpa [wc] using this
  have := k (5 + j) x (by
    match j, hj with
    | 0, _ => exact hx
    | 1, _ => exact hx
    | 2, _ => exact hx
    | 3, _ => exact hx)
  rwa [show o + 5 + j = o + (5 + j) by omega]
/-- A teller's cells: a row, and the slice of all rows. -/
def tlc (h : Hd) (v : Value) : Array Value := #[.int .u64 (h.addr : Nat), lv (lb h.dep 0), lv (lb h.dep 1), lv (lb h.dep 2), lv (lb h.dep 3), lv (lb h.stk 0), lv (lb h.stk 1), lv (lb h.stk 2), lv (lb h.stk 3), .int .u64 (h.dly : Nat), .int .u64 (h.fre : Nat), v]
set_option maxRecDepth 100000 in
theorem tlc_one (h : Hd) (v : Value) (hv : v.oneCell' = true) : (tlc h v).all (·.oneCell') = true := by simpa [tlc, lv, Value.oneCell'] using hv
/-- Cells laid over those of a block. -/
def layC (cur : Array Value) (k : Nat) (cs : Array Value) : Array Value := (cur.toList.take k ++ cs.toList ++ cur.toList.drop (k + cs.size)).toArray
set_option maxRecDepth 100000 in
/-- A value of some cells is stored into the midst of a block. -/
theorem wpList_store_in {P : Program} {ops : Array Oper} {rest : List Oper} {o : Oper} {a : Act} {w : World} {Q : Exit → Act → World → Prop} (hgd : o.guard = none) (hd : o.dst = none) (ty : TypeId) (x y : Operand) (ho : o.op = .store ty x y)
    (g k : Nat) (t : TypeId) (cur cells : Array Value) (hx : a.eval x = .pointer (some ⟨g, k, none⟩)) (hy : a.eval y = .agg cells) (hg : Cs w g t cur) (hi : (P.info? ty).map (·.size) = some cells.size) (hb : k + cells.size ≤ cur.size) (h1 : cells.all (·.oneCell') = true)
    (h : ∀ w', Cs w' g t (layC cur k cells) → w.grownBy w' (some g) → wpList P ops Q rest a w') : wpList P ops Q (o :: rest) a w := by
  have h' : ∀ w', Cs w' g t (layC cur k cells) → w.grownBy w' (some g) → wpList P ops Q rest (a.put o.dst undef) w' := by rw [hd]; exact h
  have hrun := run_storeVar_elem (P := P) w g k t ty cur cells hg hi hb h1
  refine wpList_plain hgd fun K hK => ?_
  unfold Oper.wp execOp
  simp only [ho, hx, hy, Instr.storeAt, Instr.sureAddr, Sem.run_bind, Sem.run_pure, Result.andThen_ok, hrun]
  exact hK _ _ (h' _ (setRow_heap w g _ _ t (0, 0) hg) ⟨rfl, rfl, rfl, by simp [World.setRow], fun q _ hq => setRow_other w g q _ (fun e => hq (by simp [e]))⟩)
set_option maxRecDepth 100000 in
theorem layC_hd (p q : Hd) (v : Value) : layC (tlc p v) 0 (hdc q) = tlc q v := rfl
set_option maxRecDepth 100000 in
theorem layC_dep (p : Hd) (n : Nat) (v : Value) : layC (tlc p v) 1 (wc n) = tlc { p with dep := n } v := rfl
set_option maxRecDepth 100000 in
theorem layC_stk (p : Hd) (n : Nat) (v : Value) : layC (tlc p v) 5 (wc n) = tlc { p with stk := n } v := rfl
set_option maxRecDepth 100000 in
theorem set_dly (p : Hd) (n : Nat) (v : Value) : (tlc p v).setIfInBounds 9 (.int .u64 (n : Nat)) = tlc { p with dly := n } v := rfl
set_option maxRecDepth 100000 in
theorem set_fre (p : Hd) (n : Nat) (v : Value) : (tlc p v).setIfInBounds 10 (.int .u64 (n : Nat)) = tlc { p with fre := n } v := rfl

/-! ### Two rows -/
set_option maxRecDepth 100000 in
theorem run_part_dep (p : Hd) (w : World) : (part 30 (hdc p) 1).run Try.prog w = .ok (.agg (wc p.dep)) w := by
  have hi : ∃ i, Try.prog.info? 30 = some i ∧ i.size = 4 := ⟨_, rfl, rfl⟩
  obtain ⟨i, h1, h2⟩ := hi
  simp [part, isAgg, run_underlying Try.underlying30, sizeOf, typeInfo, h1, h2, hdc, wc]
set_option maxRecDepth 100000 in
theorem run_part_stk (p : Hd) (w : World) : (part 30 (hdc p) 5).run Try.prog w = .ok (.agg (wc p.stk)) w := by
  have hi : ∃ i, Try.prog.info? 30 = some i ∧ i.size = 4 := ⟨_, rfl, rfl⟩
  obtain ⟨i, h1, h2⟩ := hi
  simp [part, isAgg, run_underlying Try.underlying30, sizeOf, typeInfo, h1, h2, hdc, wc]
set_option maxRecDepth 100000 in
theorem run_eqItems_wordH (d a b : Nat) (w : World) : ∀ is : List Nat, (∀ i ∈ is, i < 4) → (Op.eqItems (d + 1) 27 1 (wc a) (wc b) is).run Try.prog w = .ok (is.all fun i => lb a i == lb b i) w
  | [], _ => by simp [Op.eqItems]
  | i :: is, h => by
    have ih := run_eqItems_wordH d a b w is (fun j hj => h j (List.mem_cons_of_mem _ hj))
    simp only [Op.eqItems, Sem.run_bind, run_part_word a i (h i List.mem_cons_self), run_part_word b i (h i List.mem_cons_self), Result.andThen_ok, lv, run_equalIn_int w d _ _ _ _ _ Try.underlying27]
    by_cases hb : lb a i = lb b i
    · have : ((lb a i : Int) == (lb b i : Int)) = true := by simp [hb]
      rw [this]
      simp [ih, hb]
    · have : ((lb a i : Int) == (lb b i : Int)) = false := by simp; omega
      rw [this]
      simp [hb]
set_option maxRecDepth 100000 in
theorem run_eq_wordH (a b : Nat) (ha : a < M256) (hb : b < M256) (w : World) : (Op.equalIn 9999 30 (.agg (wc a)) (.agg (wc b))).run Try.prog w = .ok (a == b) w := by
  obtain ⟨i, hi⟩ := wu_info
  have h := run_equalIn_array w 9998 (wc a) (wc b) Try.underlying30 hi
  rw [wu_cells, run_eqItems_wordH 9997 a b w (List.range 4) (fun i hi => List.mem_range.1 hi), all_lb a b ha hb] at h
  exact h
set_option maxRecDepth 100000 in
theorem addr_plain : Try.prog.plainKey 28 = true := by kernel_rfl
set_option maxRecDepth 100000 in
theorem run_part_addr (p : Hd) (w : World) : (part 28 (hdc p) 0).run Try.prog w = .ok (.int .u64 (p.addr : Nat)) w := run_part_plain w addr_plain rfl
set_option maxRecDepth 100000 in
theorem run_part_dly (p : Hd) (w : World) : (part 27 (hdc p) 9).run Try.prog w = .ok (.int .u64 (p.dly : Nat)) w := run_part_plain w wu_plain rfl
set_option maxRecDepth 100000 in
theorem run_part_fre (p : Hd) (w : World) : (part 27 (hdc p) 10).run Try.prog w = .ok (.int .u64 (p.fre : Nat)) w := run_part_plain w wu_plain rfl
set_option maxRecDepth 100000 in
theorem int_beq (a b : Nat) : ((a : Int) == (b : Int)) = (a == b) := by
  rw [Bool.eq_iff_iff, beq_iff_eq, beq_iff_eq]
  omega
end Go.Proofs.Ytjampleddeidaaa
