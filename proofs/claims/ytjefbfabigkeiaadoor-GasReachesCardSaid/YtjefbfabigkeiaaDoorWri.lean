/- The bits of a word, told from the highest one on: the function over which Div, Bytes and Text range. Words in memory, within a fence; and the contract of Div. Div is the division of numbers. Contract of Bytes: a row that a loop over bits collects. Contract of Text: digits that a loop over bits collects. -/
import Derived.Test.YtjefbfabigkeiaaDoorWre
import Derived.RangeFuncNested
import Derived.RangeFuncBound
import Derived.RangeFuncCalls
import Derived.RangeFuncLeaves
import Derived.RangeFuncWrites
import Derived.Shelf.Abstract
import Derived.Shelf.RegionOpen
import Derived.OwnWalkIn
import Derived.TacticsInMore
import Derived.LoopNIn
import Derived.LoopIn
import Derived.Test.YtjefbfabigkeiaaDoorByt
import Derived.RangeFuncBox
import Derived.Maps.AppendAt
import Derived.Shelf.Bytes.SlSmallAll
import Derived.WalkSpells
import Derived.Lib.SliceRun
namespace Go.Proofs.YtjefbfabigkeiaaDoor
open Go.RowKit Go.Shelf
attribute [local go_sem] Oper.semAt_some

/-- The place of the bits that come in the round k. -/
def dAt (wd k : Nat) : Nat := 256 - wd * (k + 1)
/-- The bits that come in the round k. -/
def dBits (n wd k : Nat) : Nat := n / 2 ^ dAt wd k % 2 ^ wd
/-- What the round k is handed. -/
def dEnc (n wd : Nat) (k : Nat) : Array Value := #[.int .i64 (dAt wd k : Nat), .int .u64 (dBits n wd k : Nat)]
/-- Two blocks stay. -/
def Kp2 (g h : Nat) (W W' : World) : Prop := W'.heap[g]? = W.heap[g]? ∧ W'.heap[h]? = W.heap[h]?

set_option maxRecDepth 100000 in
theorem down_pick (n t wd k N : Nat) (hw1 : 1 ≤ wd) (hw2 : wd ≤ 32) (hd : 64 % wd = 0) (hN : wd * N = 256) (hq : t + wd + wd * k = 256) :
    (dAt wd k = t ∧ k < N) ∧ lb n (t / 64) / 2 ^ (t % 64) % 2 ^ wd = dBits n wd k := by
  have e1 : wd * (k + 1) = wd * k + wd := Nat.mul_succ _ _
  have e2 : dAt wd k = t := by unfold dAt; omega
  have e3 : wd * (k + 1) ≤ wd * N := by omega
  have e4 : k + 1 ≤ N := Nat.le_of_mul_le_mul_left e3 (by omega)
  have d1 : wd ∣ 64 := Nat.dvd_of_mod_eq_zero hd
  have d2 : wd ∣ t := by
    have : wd ∣ 256 := ⟨N, hN.symm⟩
    have h3 : t = wd * N - wd * (k + 1) := by omega
    rw [h3, ← Nat.mul_sub]
    exact ⟨_, rfl⟩
  have d3 : t % 64 + wd ≤ 64 := by
    have h1 : wd ∣ t % 64 := (Nat.dvd_mod_iff d1).2 d2
    have h2 : t % 64 < 64 := Nat.mod_lt _ (by decide)
    obtain ⟨a, ha⟩ := h1
    obtain ⟨b, hb⟩ := d1
    rw [ha] at h2 ⊢
    rw [hb] at h2 ⊢
    have : a < b := Nat.lt_of_mul_lt_mul_left h2
    calc wd * a + wd = wd * (a + 1) := (Nat.mul_succ _ _).symm
      _ ≤ wd * b := Nat.mul_le_mul_left _ this
  refine ⟨⟨e2, by omega⟩, ?_⟩
  unfold dBits
  rw [e2, lb_div n (t / 64) (t % 64) wd d3]
  congr 3
  omega

end Go.Proofs.YtjefbfabigkeiaaDoor
namespace Go.Proofs.YtjefbfabigkeiaaDoor
open Go.RowKit Go.Shelf
attribute [local go_sem] Oper.semAt_some

set_option maxRecDepth 100000 in
theorem wpListIn_load_word {F : Fence} {n : Nat} {P : Program} {ops : Array Oper} {rest : List Oper} {o : Oper} {a : Act} {w : World} {Q : Exit → Act → World → Prop} (hgd : o.guard = none) (ty e : TypeId) (x : Operand) (ho : o.op = .load ty x)
    (hu : P.underlying ty = some (.array 4 e)) (hi : (P.info? ty).map (·.size) = some 4) (g m : Nat) (hx : a.eval x = .pointer (some ⟨g, 0, none⟩)) (hg : Wd w g ty m)
    (h : wpListIn F n P ops Q rest (a.put o.dst (wv m)) w) : wpListIn F n P ops Q (o :: rest) a w := by
  refine wpListIn_plain hgd fun K hK => ?_
  unfold Oper.wpIn
  refine ⟨by simp [Oper.about, ho], ?_⟩
  rw [Oper.semAt_plain F _ _ (by rw [ho]; intro c hc'; cases hc')]
  simp only [execOp, ho, hx, Instr.loadAt, Instr.sureAddr, Sem.run_bind, Sem.run_pure, Result.andThen_ok, run_loadVar_row w g ty ty (wc m) (0, 0) _ hg hu rfl hi]
  exact hK _ _ h

set_option maxRecDepth 100000 in
theorem wpListIn_store_word {F : Fence} {n : Nat} {P : Program} {ops : Array Oper} {rest : List Oper} {o : Oper} {a : Act} {w : World} {Q : Exit → Act → World → Prop} (hgd : o.guard = none) (hd : o.dst = none) (ty : TypeId) (x y : Operand) (ho : o.op = .store ty x y)
    (hi : (P.info? ty).map (·.size) = some 4) (g : Nat) (old : Array Value) (m : Nat) (hx : a.eval x = .pointer (some ⟨g, 0, none⟩)) (hy : a.eval y = wv m) (hg : Cs w g ty old) (hold : old.size = 4)
    (h : ∀ w', Wd w' g ty m → w.grownBy w' (some g) → wpListIn F n P ops Q rest a w') : wpListIn F n P ops Q (o :: rest) a w := by
  have h' : ∀ w', Wd w' g ty m → w.grownBy w' (some g) → wpListIn F n P ops Q rest (a.put o.dst undef) w' := by rw [hd]; exact h
  refine wpListIn_plain hgd fun K hK => ?_
  unfold Oper.wpIn
  refine ⟨by simp [Oper.about, ho], ?_⟩
  rw [Oper.semAt_plain F _ _ (by rw [ho]; intro c hc'; cases hc')]
  have hi' : (P.info? ty).map (·.size) = some (wc m).size := hi
  simp only [execOp, ho, hx, hy, wv, Instr.storeAt, Instr.sureAddr, Sem.run_bind, Sem.run_pure, Result.andThen_ok, run_storeVar_row w g ty ty old (wc m) hg hi' hold (wc_one m)]
  refine hK _ _ (h' _ ?_ ?_)
  · exact setRow_heap w g _ _ ty (0, 0) hg
  · exact ⟨rfl, rfl, rfl, by simp [World.setRow], fun k _ hk => setRow_other w g k _ (fun e => hk (by simp [e]))⟩

set_option maxRecDepth 100000 in
theorem wpListIn_eql_word {F : Fence} {n : Nat} {ops : Array Oper} {rest : List Oper} {o : Oper} {a : Act} {w : World} {Q : Exit → Act → World → Prop} (hgd : o.guard = none) (x y : Operand) (ho : o.op = .binOp .eql 36 x y 36)
    (k m : Nat) (hn : k < M256) (hm : m < M256) (hx : a.eval x = wv k) (hy : a.eval y = wv m) (h : wpListIn F n Tryd.prog ops Q rest (a.put o.dst (.bool (k == m))) w) : wpListIn F n Tryd.prog ops Q (o :: rest) a w := by
  refine wpListIn_plain hgd fun K hK => ?_
  unfold Oper.wpIn
  refine ⟨by simp [Oper.about, ho], ?_⟩
  rw [Oper.semAt_plain F _ _ (by rw [ho]; intro c hc'; cases hc')]
  simp only [execOp, ho, hx, hy, wv, Sem.run_bind, run_guard_eql, Result.andThen_ok, run_eql_word k m hn hm]
  exact hK _ _ h

/-- What a round of a loop over bits leaves: whatever is no cells, and the two blocks g and h. -/
def Stp (g h : Nat) (W W' : World) : Prop := KeepsOthers W W' ∧ Kp2 g h W W'
set_option maxRecDepth 100000 in
theorem Stp.refl (g h : Nat) (W : World) : Stp g h W W := ⟨KeepsOthers.refl W, rfl, rfl⟩
set_option maxRecDepth 100000 in
theorem Stp.trans {g h : Nat} {A B C : World} (x : Stp g h A B) (y : Stp g h B C) : Stp g h A C := ⟨x.1.trans y.1, y.2.1.trans x.2.1, y.2.2.trans x.2.2⟩
set_option maxRecDepth 100000 in
theorem Stp.ext {g h : Nat} {W W' : World} (he : Ext W W') (hg : g < W.heap.size) (hh : h < W.heap.size) : Stp g h W W' :=
  ⟨KeepsOthers.of_grownBy (grown_of_ext he none) (fun j o e => by cases e), Below.block he g hg, Below.block he h hh⟩
set_option maxRecDepth 100000 in
theorem Stp.put {g h b : Nat} {t : TypeId} {cs : Array Value} {W W' : World} (hr : W.grownBy W' (some b)) (hc : Cs W b t cs) (hg : g < W.heap.size) (hh : h < W.heap.size) (n1 : g ≠ b) (n2 : h ≠ b) : Stp g h W W' :=
  ⟨KeepsOthers.of_grownBy hr (fun j o e ho => by injection e with e; subst e; unfold Cs at hc; rw [hc] at ho; injection ho with ho; subst ho; rfl), hr.block g hg (by intro e; injection e with e; exact n1 e), hr.block h hh (by intro e; injection e with e; exact n2 e)⟩

set_option maxRecDepth 100000 in
theorem Kp2.tr {g h : Nat} {A B C : World} (x : Kp2 g h A B) (y : Kp2 g h B C) : Kp2 g h A C := ⟨y.1.trans x.1, y.2.trans x.2⟩
set_option maxRecDepth 100000 in
theorem Kp2.putObj {g h B : Nat} (hg : g < B) (hh : h < B) (W : World) (l : Nat) (o o' : Obj) (hl : B ≤ l) (_ : W.heap[l]? = some o) (_ : o.isCells = false) (_ : o.isWalk = false) : Kp2 g h W (W.putObj l o') :=
  ⟨World.putObj_heap_other (by omega), World.putObj_heap_other (by omega)⟩

set_option maxRecDepth 100000 in
theorem two_laid {W : World} {g h : Nat} {t : TypeId} {m m' : Nat} (hg : Cs W g t (wc m)) (hh : Cs W h t (wc m')) (hne : g ≠ h) (q r : Nat) (Y : World)
    (hY : Y = ((((((((W.setCell ⟨g, 0, none⟩ (.int .u64 (lb q 0 : Nat))).setCell ⟨g, 1, none⟩ (.int .u64 (lb q 1 : Nat))).setCell ⟨g, 2, none⟩ (.int .u64 (lb q 2 : Nat))).setCell ⟨g, 3, none⟩ (.int .u64 (lb q 3 : Nat))).setCell ⟨h, 0, none⟩ (.int .u64 (lb r 0 : Nat))).setCell ⟨h, 1, none⟩ (.int .u64 (lb r 1 : Nat))).setCell ⟨h, 2, none⟩ (.int .u64 (lb r 2 : Nat))).setCell ⟨h, 3, none⟩ (.int .u64 (lb r 3 : Nat))).drew) :
    Wd Y g t q ∧ Wd Y h t r ∧ KeepsOthers W Y ∧ ∀ a : World, Ext a W → a.heap.size ≤ g → a.heap.size ≤ h → Ext a Y := by
  subst hY
  refine ⟨?_, ?_, ?_, ?_⟩
  · have h1 := (((hg.set 0 (.int .u64 (lb q 0 : Nat))).set 1 (.int .u64 (lb q 1 : Nat))).set 2 (.int .u64 (lb q 2 : Nat))).set 3 (.int .u64 (lb q 3 : Nat))
    exact ((((h1.kept (grown_set _ h 0 _) (some_ne hne)).kept (grown_set _ h 1 _) (some_ne hne)).kept (grown_set _ h 2 _) (some_ne hne)).kept (grown_set _ h 3 _) (some_ne hne)).drew
  · have h1 := (((hh.kept (grown_set _ g 0 (.int .u64 (lb q 0 : Nat))) (some_ne hne.symm)).kept (grown_set _ g 1 (.int .u64 (lb q 1 : Nat))) (some_ne hne.symm)).kept (grown_set _ g 2 (.int .u64 (lb q 2 : Nat))) (some_ne hne.symm)).kept (grown_set _ g 3 (.int .u64 (lb q 3 : Nat))) (some_ne hne.symm)
    exact ((((h1.set 0 _).set 1 _).set 2 _).set 3 _).drew
  · exact ((((((((KeepsOthers.setCell _ _ _).trans (KeepsOthers.setCell _ _ _)).trans (KeepsOthers.setCell _ _ _)).trans (KeepsOthers.setCell _ _ _)).trans (KeepsOthers.setCell _ _ _)).trans (KeepsOthers.setCell _ _ _)).trans (KeepsOthers.setCell _ _ _)).trans (KeepsOthers.setCell _ _ _)).trans (KeepsOthers.drew _)
  · intro a he h1 h2
    exact ((((((((he.grown (grown_set _ _ _ _) h1).grown (grown_set _ _ _ _) h1).grown (grown_set _ _ _ _) h1).grown (grown_set _ _ _ _) h1).grown (grown_set _ _ _ _) h2).grown (grown_set _ _ _ _) h2).grown (grown_set _ _ _ _) h2).grown (grown_set _ _ _ _) h2).drew

/-- One round of a division: what was there, and what is left. -/
def divS (a b : Nat) (s : Nat × Nat) (k : Nat) : Nat × Nat :=
  if b ≤ ((s.2 + s.2) % M256 ||| dBits a 1 k * 2 ^ 0) then (s.1 ||| 1 * 2 ^ dAt 1 k, (((s.2 + s.2) % M256 ||| dBits a 1 k * 2 ^ 0) + M256 - b) % M256) else (s.1, (s.2 + s.2) % M256 ||| dBits a 1 k * 2 ^ 0)
/-- What the rounds of pre come to. -/
def divL (a b : Nat) (pre : List Nat) : Nat × Nat := pre.foldl (divS a b) (0, 0)
set_option maxRecDepth 100000 in
theorem divL_snoc (a b : Nat) (pre : List Nat) (k : Nat) : divL a b (pre ++ [k]) = divS a b (divL a b pre) k := by simp [divL]

set_option maxRecDepth 100000 in
theorem dBits_lt (n wd k : Nat) : dBits n wd k < 2 ^ wd := Nat.mod_lt _ (Nat.two_pow_pos _)
set_option maxRecDepth 100000 in
theorem divR_lt (a r k : Nat) : (r % M256 ||| dBits a 1 k * 2 ^ 0) < M256 := by
  have h := dBits_lt a 1 k
  rw [M256_pow]
  refine Nat.or_lt_two_pow (Nat.mod_lt _ (Nat.two_pow_pos _)) ?_
  have : (2 : Nat) ^ 1 ≤ 2 ^ 256 := Nat.pow_le_pow_right (by decide) (by decide)
  omega
set_option maxRecDepth 100000 in
theorem divS_lt (a b : Nat) (s : Nat × Nat) (k : Nat) (h1 : s.1 < M256) (_h2 : s.2 < M256) : (divS a b s k).1 < M256 ∧ (divS a b s k).2 < M256 := by
  unfold divS
  split
  · refine ⟨?_, Nat.mod_lt _ (by decide)⟩
    rw [M256_pow] at *
    refine Nat.or_lt_two_pow h1 ?_
    rw [Nat.one_mul]
    exact Nat.pow_lt_pow_right (by decide) (by unfold dAt; omega)
  · exact ⟨h1, divR_lt _ _ _⟩
set_option maxRecDepth 100000 in
theorem divL_lt (a b : Nat) (pre : List Nat) : (divL a b pre).1 < M256 ∧ (divL a b pre).2 < M256 := by
  unfold divL
  suffices h : ∀ s : Nat × Nat, s.1 < M256 → s.2 < M256 → (pre.foldl (divS a b) s).1 < M256 ∧ (pre.foldl (divS a b) s).2 < M256 from h (0, 0) (by decide) (by decide)
  induction pre with
  | nil => exact fun s h1 h2 => ⟨h1, h2⟩
  | cons k pre ih => exact fun s h1 h2 => ih _ (divS_lt a b s k h1 h2).1 (divS_lt a b s k h1 h2).2

/-- What lies between two rounds of a division that began at w. -/
def DvI (w : World) (b q r : Nat) (W : World) : Prop :=
  w.heap.size + 8 ≤ W.heap.size ∧ Wd W (w.heap.size + 1) 36 b ∧ Cs W (w.heap.size + 1 + 1) 36 (wc 0) ∧ Cs W (w.heap.size + 1 + 1 + 1) 36 (wc 0) ∧ Wd W (w.heap.size + 1 + 1 + 1 + 1) 36 q ∧ Wd W (w.heap.size + 1 + 1 + 1 + 1 + 1) 36 r ∧ Ext w W
set_option maxRecDepth 100000 in
theorem DvI.ext {w : World} {b q r : Nat} {W W' : World} (h : DvI w b q r W) (he : Ext W W') : DvI w b q r W' := by
  obtain ⟨h0, h1, h2, h3, h4, h5, h6⟩ := h
  exact ⟨Nat.le_trans h0 he.size, h1.ext he, h2.ext he, h3.ext he, h4.ext he, h5.ext he, h6.trans he⟩
set_option maxRecDepth 100000 in
theorem DvI.far {w : World} {b q r : Nat} {W W' : World} {row : Option Nat} (h : DvI w b q r W) (he : W.grownBy W' row) (hg : ∀ g, row = some g → w.heap.size + 8 ≤ g) : DvI w b q r W' := by
  obtain ⟨h0, h1, h2, h3, h4, h5, h6⟩ := h
  have hn : ∀ j, j < w.heap.size + 8 → some j ≠ row := fun j hj e => by have := hg j e.symm; omega
  exact ⟨Nat.le_trans h0 he.size, h1.kept he (hn _ (by omega)), h2.kept he (hn _ (by omega)), h3.kept he (hn _ (by omega)), h4.kept he (hn _ (by omega)), h5.kept he (hn _ (by omega)), Below.grown h6 he h6.size (fun j hj => by have := hg j hj; omega)⟩
set_option maxRecDepth 100000 in
theorem DvI.setR {w : World} {b q r r' : Nat} {W W' : World} (h : DvI w b q r W) (he : W.grownBy W' (some (w.heap.size + 1 + 1 + 1 + 1 + 1))) (hr : Wd W' (w.heap.size + 1 + 1 + 1 + 1 + 1) 36 r') : DvI w b q r' W' := by
  obtain ⟨h0, h1, h2, h3, h4, h5, h6⟩ := h
  exact ⟨Nat.le_trans h0 he.size, h1.kept he (some_ne (by omega)), h2.kept he (some_ne (by omega)), h3.kept he (some_ne (by omega)), h4.kept he (some_ne (by omega)), hr, h6.grown he (by omega)⟩
set_option maxRecDepth 100000 in
theorem DvI.setQ {w : World} {b q r q' : Nat} {W W' : World} (h : DvI w b q r W) (he : W.grownBy W' (some (w.heap.size + 1 + 1 + 1 + 1))) (hr : Wd W' (w.heap.size + 1 + 1 + 1 + 1) 36 q') : DvI w b q' r W' := by
  obtain ⟨h0, h1, h2, h3, h4, h5, h6⟩ := h
  exact ⟨Nat.le_trans h0 he.size, h1.kept he (some_ne (by omega)), h2.kept he (some_ne (by omega)), h3.kept he (some_ne (by omega)), hr, h5.kept he (some_ne (by omega)), h6.grown he (by omega)⟩
set_option maxRecDepth 100000 in
theorem DvI.own {w : World} {b : Nat} {B : Nat} (hB : w.heap.size + 8 ≤ B) (f : List Nat → Nat × Nat) : OwnFrom B (fun pre W => DvI w b (f pre).1 (f pre).2 W) := by
  intro s A A' row h hg hr
  exact h.far hg (fun g e => Nat.le_trans hB (hr g e).1)

end Go.Proofs.YtjefbfabigkeiaaDoor
namespace Go.Proofs.YtjefbfabigkeiaaDoor
open Go.RowKit Go.Shelf

set_option maxRecDepth 100000 in
theorem dAt_one (k : Nat) : dAt 1 k = 255 - k := by unfold dAt; omega

set_option maxRecDepth 100000 in
theorem divS_step (a b k q r m : Nat) (hb : 0 < b) (hbM : b < M256) (ha : a < M256) (hm : m = a / 2 ^ (255 - k)) (hq : q = m / 2 / b * 2 ^ (255 - k + 1)) (hr : r = m / 2 % b) :
    divS a b (q, r) k = (m / b * 2 ^ (255 - k), m % b) := by
  have hbit : dBits a 1 k = m % 2 := by unfold dBits; rw [dAt_one, ← hm]
  have hml : m ≤ a := by rw [hm]; exact Nat.div_le_self _ _
  have hrb : r < b := by rw [hr]; exact Nat.mod_lt _ hb
  have hrm : r ≤ m / 2 := by rw [hr]; exact Nat.mod_le _ _
  have e1 : (r + r) % M256 ||| dBits a 1 k * 2 ^ 0 = 2 * r + m % 2 := by
    rw [hbit, Nat.pow_zero, Nat.mul_one, Nat.mod_eq_of_lt (by unfold M256 at *; omega), ← Nat.two_mul]
    exact (Nat.two_pow_add_eq_or_of_lt (i := 1) (b := m % 2) (by omega) r).symm
  have hdm : m = b * (2 * (m / 2 / b)) + (2 * r + m % 2) := by
    have h1 := Nat.div_add_mod m 2
    have h2 := Nat.div_add_mod (m / 2) b
    rw [← hr] at h2
    rw [Nat.mul_left_comm]
    omega
  generalize hQ : m / 2 / b = Q at *
  unfold divS
  simp only [e1]
  rw [dAt_one]
  by_cases hle : b ≤ 2 * r + m % 2
  · rw [if_pos hle]
    have hdiv : m / b = 2 * Q + 1 ∧ m % b = 2 * r + m % 2 - b := (Nat.div_mod_unique hb).2 ⟨by rw [Nat.mul_add, Nat.mul_one]; omega, by omega⟩
    have e2 : q ||| 1 * 2 ^ (255 - k) = q + 1 * 2 ^ (255 - k) := by
      refine or_free (255 - k) 1 q 1 ?_ (by decide)
      rw [hq, Nat.pow_succ, Nat.mul_comm (2 ^ (255 - k)), ← Nat.mul_assoc, Nat.mul_div_cancel _ (Nat.two_pow_pos _), Nat.pow_one, Nat.mul_mod_left]
    have e3 : (2 * r + m % 2 + M256 - b) % M256 = 2 * r + m % 2 - b := by
      rw [show 2 * r + m % 2 + M256 - b = 2 * r + m % 2 - b + M256 by omega, Nat.add_mod_right, Nat.mod_eq_of_lt (by unfold M256 at *; omega)]
    rw [e2, e3, hdiv.1, hdiv.2, hq, Nat.pow_succ]
    congr 1
    rw [Nat.add_mul, Nat.mul_comm (2 ^ (255 - k)), ← Nat.mul_assoc, Nat.mul_comm Q]
  · rw [if_neg hle]
    have hdiv : m / b = 2 * Q ∧ m % b = 2 * r + m % 2 := (Nat.div_mod_unique hb).2 ⟨by omega, by omega⟩
    rw [hdiv.1, hdiv.2, hq, Nat.pow_succ]
    congr 1
    rw [Nat.mul_comm (2 ^ (255 - k)), ← Nat.mul_assoc, Nat.mul_comm Q]

set_option maxRecDepth 100000 in
theorem divL_range (a b : Nat) (ha : a < M256) (hb : 0 < b) (hbM : b < M256) : ∀ k, k ≤ 256 → divL a b (List.range k) = (a / 2 ^ (256 - k) / b * 2 ^ (256 - k), a / 2 ^ (256 - k) % b)
  | 0, _ => by
    have : a / 2 ^ 256 = 0 := Nat.div_eq_of_lt ha
    simp [divL, this]
  | k + 1, h => by
    have ih := divL_range a b ha hb hbM k (by omega)
    rw [List.range_succ, divL_snoc, ih, show 256 - k = 255 - k + 1 by omega, show 256 - (k + 1) = 255 - k by omega]
    have e : a / 2 ^ (255 - k + 1) = a / 2 ^ (255 - k) / 2 := by rw [Nat.div_div_eq_div_mul, Nat.pow_succ]
    exact divS_step a b k _ _ _ hb hbM ha rfl (by rw [e]) (by rw [e])

set_option maxRecDepth 100000 in
theorem divL_all (a b : Nat) (ha : a < M256) (hb : 0 < b) (hbM : b < M256) : divL a b (List.range 256) = (a / b, a % b) := by
  rw [divL_range a b ha hb hbM 256 (by omega)]
  simp

/-- How many times, and what is left: two noughts, where b is 0. -/
def quoN (a b : Nat) : Nat := a / b
def remN (a b : Nat) : Nat := if b = 0 then 0 else a % b

end Go.Proofs.YtjefbfabigkeiaaDoor
namespace Go.Proofs.YtjefbfabigkeiaaDoor
open Go.RowKit Go.Shelf
attribute [local go_sem] Oper.semAt_some


/-- A row of the call's own: the block gr with room for cap bytes, of which those of l are there; and its variable's box. -/
def RwI (w : World) (N0 Bt gr cap : Nat) (l : List UInt8) (W : World) : Prop :=
  N0 ≤ W.heap.size ∧ Cs W Bt 22 #[.slice (some ⟨gr, 0, none⟩) l.length cap] ∧ Own W w.heap.size 5 (.slice (some ⟨gr, 0, none⟩) l.length cap) l ∧ Ext w W

set_option maxRecDepth 100000 in
theorem RwI.row {w : World} {N0 Bt gr cap : Nat} {l : List UInt8} {W : World} (h : RwI w N0 Bt gr cap l W) : ∃ cs, Cs W gr 5 cs := by
  rcases h.2.2.1.2 with ⟨e, _⟩ | ⟨g, c, cur, e, _, hg, _⟩
  · cases e
  · injection e with e1 e2 e3
    injection e1 with e1
    injection e1 with e1
    subst e1
    exact ⟨cur, hg⟩
set_option maxRecDepth 100000 in
theorem RwI.ext {w : World} {N0 Bt gr cap : Nat} {l : List UInt8} {W W' : World} (h : RwI w N0 Bt gr cap l W) (he : Ext W W') : RwI w N0 Bt gr cap l W' := ⟨Nat.le_trans h.1 he.size, h.2.1.ext he, h.2.2.1.ext he, h.2.2.2.trans he⟩
set_option maxRecDepth 100000 in
theorem RwI.far {w : World} {N0 Bt gr cap : Nat} {l : List UInt8} {W W' : World} {row : Option Nat} (h : RwI w N0 Bt gr cap l W) (he : W.grownBy W' row) (h1 : some Bt ≠ row) (h2 : some gr ≠ row) (h3 : ∀ g, row = some g → w.heap.size ≤ g) : RwI w N0 Bt gr cap l W' :=
  ⟨Nat.le_trans h.1 he.size, h.2.1.kept he h1, World.ownsRow.kept h.2.2.1 he (.inr h2), Below.grown h.2.2.2 he h.2.2.2.size h3⟩
set_option maxRecDepth 100000 in
theorem RwI.own {w : World} {N0 Bt gr cap B : Nat} (hB1 : Bt < B) (hB2 : gr < B) (hB3 : w.heap.size ≤ B) (f : List Nat → List UInt8) : OwnFrom B (fun pre W => RwI w N0 Bt gr cap (f pre) W) := by
  intro s A A' row h hg hr
  exact h.far hg (fun e => by have := (hr _ e.symm).1; omega) (fun e => by have := (hr _ e.symm).1; omega) (fun g e => by have := (hr _ e).1; omega)

set_option maxRecDepth 100000 in
/-- A byte is put behind the row, and the variable is set. -/
theorem RwI.push {w : World} {N0 Bt gr cap : Nat} {l : List UInt8} {W w2 : World} (h : RwI w N0 Bt gr cap l W) (o : Obj) (c : UInt8) (hne : Bt ≠ gr) (hBt : w.heap.size ≤ Bt) (hgr : w.heap.size ≤ gr)
    (ho : w2.ownsRow w.heap.size 5 1 (.slice (some ⟨gr, 0, none⟩) (l.length + 1) cap) (l.length + 1) (l.map bv ++ [bv c])) (hg : (W.alloc o).grownBy w2 (some gr)) :
    RwI w N0 Bt gr cap (l ++ [c]) (w2.setCell ⟨Bt, 0, none⟩ (.slice (some ⟨gr, 0, none⟩) (l.length + 1) cap)) ∧ (∀ g h : Nat, g < W.heap.size → h < W.heap.size → g ≠ Bt → g ≠ gr → h ≠ Bt → h ≠ gr → Stp g h W (w2.setCell ⟨Bt, 0, none⟩ (.slice (some ⟨gr, 0, none⟩) (l.length + 1) cap))) ∧
      w2.cell? ⟨Bt, 0, none⟩ = some (.slice (some ⟨gr, 0, none⟩) l.length cap) ∧ w2.frozen? ⟨Bt, 0, none⟩ = false := by
  have hb := (h.2.1.alloc o).kept hg (some_ne hne)
  have hlen : (l ++ [c]).length = l.length + 1 := by simp
  obtain ⟨cs, hcs⟩ := h.row
  have hsz : N0 ≤ w2.heap.size := by have h1 := h.1; have h2 := hg.size; simp at h2; omega
  refine ⟨⟨Nat.le_trans hsz (by simp), ?_, ?_, ?_⟩, ?_, hb.cell 0 _ rfl, hb.frozen 0⟩
  · rw [hlen]
    exact hb.set 0 _
  · unfold Own
    rw [hlen, List.map_append]
    exact World.ownsRow.kept ho (grown_set w2 Bt 0 _) (.inr (some_ne hne.symm))
  · exact ((h.2.2.2.alloc o).grown hg hgr).grown (grown_set w2 Bt 0 _) hBt
  · intro g h' h1 h2 n1 n2 n3 n4
    have e1 : W.heap.size ≤ (W.alloc o).heap.size := by simp
    have e2 := hg.size
    exact ((Stp.ext ((Ext.refl W).alloc o) h1 h2).trans (Stp.put hg (hcs.alloc o) (by omega) (by omega) n2 n4)).trans (Stp.put (grown_set w2 Bt 0 _) hb (by omega) (by omega) n1 n3)

/-- The bytes that the rounds of pre bring. -/
def bytL (n : Nat) (pre : List Nat) : List UInt8 := pre.map fun k => UInt8.ofNat (dBits n 8 k)
set_option maxRecDepth 100000 in
theorem bytL_snoc (n : Nat) (pre : List Nat) (k : Nat) : bytL n (pre ++ [k]) = bytL n pre ++ [UInt8.ofNat (dBits n 8 k)] := by simp [bytL]
set_option maxRecDepth 100000 in
theorem bytL_len (n : Nat) (pre : List Nat) : (bytL n pre).length = pre.length := by simp [bytL]


end Go.Proofs.YtjefbfabigkeiaaDoor
namespace Go.Proofs.YtjefbfabigkeiaaDoor
open Go.RowKit Go.Shelf
attribute [local go_sem] Oper.semAt_some

/-- The digit of a number below 16. -/
def dgt (y : Nat) : UInt8 := if y < 10 then UInt8.ofNat (48 + y) else UInt8.ofNat (87 + y)

/-- What a round adds to the digits. -/
def txtS (n : Nat) (l : List UInt8) (k : Nat) : List UInt8 := if dBits n 4 k ≠ 0 ∨ l ≠ [] ∨ dAt 4 k = 0 then l ++ [dgt (dBits n 4 k)] else l
def txtL (n : Nat) (pre : List Nat) : List UInt8 := pre.foldl (txtS n) []
set_option maxRecDepth 100000 in
theorem txtL_snoc (n : Nat) (pre : List Nat) (k : Nat) : txtL n (pre ++ [k]) = txtS n (txtL n pre) k := by simp [txtL]
set_option maxRecDepth 100000 in
theorem txtS_len (n : Nat) (l : List UInt8) (k : Nat) : (txtS n l k).length ≤ l.length + 1 := by unfold txtS; split <;> simp
set_option maxRecDepth 100000 in
theorem txtL_len (n : Nat) (pre : List Nat) : (txtL n pre).length ≤ pre.length := by
  unfold txtL
  suffices h : ∀ s : List UInt8, (pre.foldl (txtS n) s).length ≤ s.length + pre.length by simpa using h []
  induction pre with
  | nil => simp
  | cons k pre ih =>
    intro s
    have h1 := ih (txtS n s k)
    have h2 := txtS_len n s k
    simp only [List.foldl_cons, List.length_cons]
    omega

set_option maxRecDepth 100000 in
theorem idx_digit (y : Nat) (hy : y < 16) (w : World) : (Instr.index 9 (.string ⟨#[48, 49, 50, 51, 52, 53, 54, 55, 56, 57, 97, 98, 99, 100, 101, 102]⟩) (.int .u64 (y : Nat))).run Tryd.prog w = .ok (.int .u8 ((dgt y).toNat : Int)) w := by
  have h : y = 0 ∨ y = 1 ∨ y = 2 ∨ y = 3 ∨ y = 4 ∨ y = 5 ∨ y = 6 ∨ y = 7 ∨ y = 8 ∨ y = 9 ∨ y = 10 ∨ y = 11 ∨ y = 12 ∨ y = 13 ∨ y = 14 ∨ y = 15 := by omega
  rcases h with rfl | rfl | rfl | rfl | rfl | rfl | rfl | rfl | rfl | rfl | rfl | rfl | rfl | rfl | rfl | rfl <;> rfl

set_option maxRecDepth 100000 in
theorem RwI.drew {w : World} {N0 Bt gr cap : Nat} {l : List UInt8} {W : World} (h : RwI w N0 Bt gr cap l W) : RwI w N0 Bt gr cap l W.drew := h.ext (Ext.refl W).drew

set_option maxRecDepth 100000 in
/-- A byte is laid behind the row where there is room, and the variable is set. -/
theorem RwI.lay {w : World} {N0 Bt gr cap : Nat} {l : List UInt8} {W : World} (h : RwI w N0 Bt gr cap l W) (o : Obj) (c : UInt8) (hne : Bt ≠ gr) (hBt : w.heap.size ≤ Bt) (hgr : w.heap.size ≤ gr) (hl : l.length < cap) :
    RwI w N0 Bt gr cap (l ++ [c]) (((W.alloc o).setCell ⟨gr, l.length, none⟩ (bv c)).setCell ⟨Bt, 0, none⟩ (.slice (some ⟨gr, 0, none⟩) (l.length + 1) cap)) ∧
      (∀ g h : Nat, g < W.heap.size → h < W.heap.size → g ≠ Bt → g ≠ gr → h ≠ Bt → h ≠ gr → Stp g h W (((W.alloc o).setCell ⟨gr, l.length, none⟩ (bv c)).setCell ⟨Bt, 0, none⟩ (.slice (some ⟨gr, 0, none⟩) (l.length + 1) cap))) ∧
      (∃ u, W.cell? ⟨gr, l.length, none⟩ = some u) ∧ W.frozen? ⟨gr, l.length, none⟩ = false := by
  have hown := h.2.2.1
  rcases hown.2 with ⟨e, _⟩ | ⟨g, c', cur, e, hb, hg, hnc, hcm, hcs, htake⟩
  · cases e
  · injection e with e1 e2 e3
    injection e1 with e1
    injection e1 with e1
    subst e1
    subst e3
    have hrow : Cs W gr 5 cur := hg
    have hlt : l.length < cur.size := by rw [hcs]; omega
    refine ⟨(h.push o c hne hBt hgr ?_ (grown_set _ gr l.length (bv c))).1, (h.push o c hne hBt hgr ?_ (grown_set _ gr l.length (bv c))).2.1, ⟨cur[l.length], hrow.cell _ _ (Array.getElem?_eq_getElem hlt)⟩, hrow.frozen _⟩
    all_goals
      refine ⟨by simp, .inr ⟨gr, cap, cur.setIfInBounds l.length (bv c), rfl, hb, (hrow.alloc o).set l.length (bv c), by omega, hcm, by simpa using hcs, ?_⟩⟩
      rw [Array.toList_setIfInBounds, Nat.mul_one, List.take_set, List.take_succ_eq_append_getElem (by simpa using hlt)]
      rw [Nat.mul_one] at htake
      rw [htake]
      rw [List.set_append_right _ _ (by simp)]
      simp

end Go.Proofs.YtjefbfabigkeiaaDoor
