/- Words in memory, within a fence; and the contract of Div. -/
import Derived.Test.YtmojbekihbmdfaaWrf
namespace Go.Proofs.Ytmojbekihbmdfaa
open Go.RowKit Go.Shelf
attribute [local go_sem] Oper.semAt_some

set_option maxRecDepth 100000 in
theorem wpListIn_load_word {F : Fence} {n : Nat} {P : Program} {ops : Array Oper} {rest : List Oper} {o : Oper} {a : Act} {w : World} {Q : Exit → Act → World → Prop} (hgd : o.guard = none) (ty e : TypeId) (x : Operand) (ho : o.op = .load ty x)
    (hu : P.underlying ty = some (.array 4 e)) (hi : (P.info? ty).map (·.size) = some 4) (g m : Nat) (hx : a.eval x = .pointer (some ⟨g, 0, none⟩)) (hg : Wd w g ty m)
    (h : wpListIn F n P ops Q rest (a.put o.dst (wv m)) w) : wpListIn F n P ops Q (o :: rest) a w := by
  refine wpListIn_plain hgd fun K hK => ?_
  unfold Oper.wpIn
  refine ⟨by simp [Oper.about, ho], ?_⟩
  rw [Oper.semAt_plain F _ _ (by rw [ho]; intro c hc'; cases hc')]
  simp only [execOp, ho, hx, Instr.loadAt, Instr.sureAddr, Sem.run_bind, Sem.run_pure, Result.andThen_ok, run_loadVar_row w g ty ty (wc m) (0, 0) _ hg hu rfl hi]
  exact hK _ _ h

set_option maxRecDepth 100000 in
theorem wpListIn_store_word {F : Fence} {n : Nat} {P : Program} {ops : Array Oper} {rest : List Oper} {o : Oper} {a : Act} {w : World} {Q : Exit → Act → World → Prop} (hgd : o.guard = none) (hd : o.dst = none) (ty : TypeId) (x y : Operand) (ho : o.op = .store ty x y)
    (hi : (P.info? ty).map (·.size) = some 4) (g : Nat) (old : Array Value) (m : Nat) (hx : a.eval x = .pointer (some ⟨g, 0, none⟩)) (hy : a.eval y = wv m) (hg : Cs w g ty old) (hold : old.size = 4)
    (h : ∀ w', Wd w' g ty m → w.grownBy w' (some g) → wpListIn F n P ops Q rest a w') : wpListIn F n P ops Q (o :: rest) a w := by
  have h' : ∀ w', Wd w' g ty m → w.grownBy w' (some g) → wpListIn F n P ops Q rest (a.put o.dst undef) w' := by rw [hd]; exact h
  refine wpListIn_plain hgd fun K hK => ?_
  unfold Oper.wpIn
  refine ⟨by simp [Oper.about, ho], ?_⟩
  rw [Oper.semAt_plain F _ _ (by rw [ho]; intro c hc'; cases hc')]
  have hi' : (P.info? ty).map (·.size) = some (wc m).size := hi
  simp only [execOp, ho, hx, hy, wv, Instr.storeAt, Instr.sureAddr, Sem.run_bind, Sem.run_pure, Result.andThen_ok, run_storeVar_row w g ty ty old (wc m) hg hi' hold (wc_one m)]
  refine hK _ _ (h' _ ?_ ?_)
  · exact setRow_heap w g _ _ ty (0, 0) hg
  · exact ⟨rfl, rfl, rfl, by simp [World.setRow], fun k _ hk => setRow_other w g k _ (fun e => hk (by simp [e]))⟩

set_option maxRecDepth 100000 in
theorem wpListIn_eql_word {F : Fence} {n : Nat} {ops : Array Oper} {rest : List Oper} {o : Oper} {a : Act} {w : World} {Q : Exit → Act → World → Prop} (hgd : o.guard = none) (x y : Operand) (ho : o.op = .binOp .eql 31 x y 31)
    (k m : Nat) (hn : k < M256) (hm : m < M256) (hx : a.eval x = wv k) (hy : a.eval y = wv m) (h : wpListIn F n Try.prog ops Q rest (a.put o.dst (.bool (k == m))) w) : wpListIn F n Try.prog ops Q (o :: rest) a w := by
  refine wpListIn_plain hgd fun K hK => ?_
  unfold Oper.wpIn
  refine ⟨by simp [Oper.about, ho], ?_⟩
  rw [Oper.semAt_plain F _ _ (by rw [ho]; intro c hc'; cases hc')]
  simp only [execOp, ho, hx, hy, wv, Sem.run_bind, run_guard_eql, Result.andThen_ok, run_eql_word k m hn hm]
  exact hK _ _ h

/-- What a round of a loop over bits leaves: whatever is no cells, and the two blocks g and h. -/
def Stp (g h : Nat) (W W' : World) : Prop := KeepsOthers W W' ∧ Kp2 g h W W'
set_option maxRecDepth 100000 in
theorem Stp.refl (g h : Nat) (W : World) : Stp g h W W := ⟨KeepsOthers.refl W, rfl, rfl⟩
set_option maxRecDepth 100000 in
theorem Stp.trans {g h : Nat} {A B C : World} (x : Stp g h A B) (y : Stp g h B C) : Stp g h A C := ⟨x.1.trans y.1, y.2.1.trans x.2.1, y.2.2.trans x.2.2⟩
set_option maxRecDepth 100000 in
theorem Stp.ext {g h : Nat} {W W' : World} (he : Ext W W') (hg : g < W.heap.size) (hh : h < W.heap.size) : Stp g h W W' :=
  ⟨KeepsOthers.of_grownBy (grown_of_ext he none) (fun j o e => by cases e), Below.block he g hg, Below.block he h hh⟩
set_option maxRecDepth 100000 in
theorem Stp.put {g h b : Nat} {t : TypeId} {cs : Array Value} {W W' : World} (hr : W.grownBy W' (some b)) (hc : Cs W b t cs) (hg : g < W.heap.size) (hh : h < W.heap.size) (n1 : g ≠ b) (n2 : h ≠ b) : Stp g h W W' :=
  ⟨KeepsOthers.of_grownBy hr (fun j o e ho => by injection e with e; subst e; unfold Cs at hc; rw [hc] at ho; injection ho with ho; subst ho; rfl), hr.block g hg (by intro e; injection e with e; exact n1 e), hr.block h hh (by intro e; injection e with e; exact n2 e)⟩

set_option maxRecDepth 100000 in
theorem Kp2.tr {g h : Nat} {A B C : World} (x : Kp2 g h A B) (y : Kp2 g h B C) : Kp2 g h A C := ⟨y.1.trans x.1, y.2.trans x.2⟩
set_option maxRecDepth 100000 in
theorem Kp2.putObj {g h B : Nat} (hg : g < B) (hh : h < B) (W : World) (l : Nat) (o o' : Obj) (hl : B ≤ l) (_ : W.heap[l]? = some o) (_ : o.isCells = false) (_ : o.isWalk = false) : Kp2 g h W (W.putObj l o') :=
  ⟨World.putObj_heap_other (by omega), World.putObj_heap_other (by omega)⟩

set_option maxRecDepth 100000 in
theorem two_laid {W : World} {g h : Nat} {t : TypeId} {m m' : Nat} (hg : Cs W g t (wc m)) (hh : Cs W h t (wc m')) (hne : g ≠ h) (q r : Nat) (Y : World)
    (hY : Y = ((((((((W.setCell ⟨g, 0, none⟩ (.int .u64 (lb q 0 : Nat))).setCell ⟨g, 1, none⟩ (.int .u64 (lb q 1 : Nat))).setCell ⟨g, 2, none⟩ (.int .u64 (lb q 2 : Nat))).setCell ⟨g, 3, none⟩ (.int .u64 (lb q 3 : Nat))).setCell ⟨h, 0, none⟩ (.int .u64 (lb r 0 : Nat))).setCell ⟨h, 1, none⟩ (.int .u64 (lb r 1 : Nat))).setCell ⟨h, 2, none⟩ (.int .u64 (lb r 2 : Nat))).setCell ⟨h, 3, none⟩ (.int .u64 (lb r 3 : Nat))).drew) :
    Wd Y g t q ∧ Wd Y h t r ∧ KeepsOthers W Y ∧ ∀ a : World, Ext a W → a.heap.size ≤ g → a.heap.size ≤ h → Ext a Y := by
  subst hY
  refine ⟨?_, ?_, ?_, ?_⟩
  · have h1 := (((hg.set 0 (.int .u64 (lb q 0 : Nat))).set 1 (.int .u64 (lb q 1 : Nat))).set 2 (.int .u64 (lb q 2 : Nat))).set 3 (.int .u64 (lb q 3 : Nat))
    exact ((((h1.kept (grown_set _ h 0 _) (some_ne hne)).kept (grown_set _ h 1 _) (some_ne hne)).kept (grown_set _ h 2 _) (some_ne hne)).kept (grown_set _ h 3 _) (some_ne hne)).drew
  · have h1 := (((hh.kept (grown_set _ g 0 (.int .u64 (lb q 0 : Nat))) (some_ne hne.symm)).kept (grown_set _ g 1 (.int .u64 (lb q 1 : Nat))) (some_ne hne.symm)).kept (grown_set _ g 2 (.int .u64 (lb q 2 : Nat))) (some_ne hne.symm)).kept (grown_set _ g 3 (.int .u64 (lb q 3 : Nat))) (some_ne hne.symm)
    exact ((((h1.set 0 _).set 1 _).set 2 _).set 3 _).drew
  · exact ((((((((KeepsOthers.setCell _ _ _).trans (KeepsOthers.setCell _ _ _)).trans (KeepsOthers.setCell _ _ _)).trans (KeepsOthers.setCell _ _ _)).trans (KeepsOthers.setCell _ _ _)).trans (KeepsOthers.setCell _ _ _)).trans (KeepsOthers.setCell _ _ _)).trans (KeepsOthers.setCell _ _ _)).trans (KeepsOthers.drew _)
  · intro a he h1 h2
    exact ((((((((he.grown (grown_set _ _ _ _) h1).grown (grown_set _ _ _ _) h1).grown (grown_set _ _ _ _) h1).grown (grown_set _ _ _ _) h1).grown (grown_set _ _ _ _) h2).grown (grown_set _ _ _ _) h2).grown (grown_set _ _ _ _) h2).grown (grown_set _ _ _ _) h2).drew

/-- One round of a division: what was there, and what is left. -/
def divS (a b : Nat) (s : Nat × Nat) (k : Nat) : Nat × Nat :=
  if b ≤ ((s.2 + s.2) % M256 ||| dBits a 1 k * 2 ^ 0) then (s.1 ||| 1 * 2 ^ dAt 1 k, (((s.2 + s.2) % M256 ||| dBits a 1 k * 2 ^ 0) + M256 - b) % M256) else (s.1, (s.2 + s.2) % M256 ||| dBits a 1 k * 2 ^ 0)
/-- What the rounds of pre come to. -/
def divL (a b : Nat) (pre : List Nat) : Nat × Nat := pre.foldl (divS a b) (0, 0)
set_option maxRecDepth 100000 in
theorem divL_snoc (a b : Nat) (pre : List Nat) (k : Nat) : divL a b (pre ++ [k]) = divS a b (divL a b pre) k := by simp [divL]

set_option maxRecDepth 100000 in
theorem dBits_lt (n wd k : Nat) : dBits n wd k < 2 ^ wd := Nat.mod_lt _ (Nat.two_pow_pos _)
set_option maxRecDepth 100000 in
theorem divR_lt (a r k : Nat) : (r % M256 ||| dBits a 1 k * 2 ^ 0) < M256 := by
  have h := dBits_lt a 1 k
  rw [M256_pow]
  refine Nat.or_lt_two_pow (Nat.mod_lt _ (Nat.two_pow_pos _)) ?_
  have : (2 : Nat) ^ 1 ≤ 2 ^ 256 := Nat.pow_le_pow_right (by decide) (by decide)
  omega
set_option maxRecDepth 100000 in
theorem divS_lt (a b : Nat) (s : Nat × Nat) (k : Nat) (h1 : s.1 < M256) (_h2 : s.2 < M256) : (divS a b s k).1 < M256 ∧ (divS a b s k).2 < M256 := by
  unfold divS
  split
  · refine ⟨?_, Nat.mod_lt _ (by decide)⟩
    rw [M256_pow] at *
    refine Nat.or_lt_two_pow h1 ?_
    rw [Nat.one_mul]
    exact Nat.pow_lt_pow_right (by decide) (by unfold dAt; omega)
  · exact ⟨h1, divR_lt _ _ _⟩
set_option maxRecDepth 100000 in
theorem divL_lt (a b : Nat) (pre : List Nat) : (divL a b pre).1 < M256 ∧ (divL a b pre).2 < M256 := by
  unfold divL
  suffices h : ∀ s : Nat × Nat, s.1 < M256 → s.2 < M256 → (pre.foldl (divS a b) s).1 < M256 ∧ (pre.foldl (divS a b) s).2 < M256 from h (0, 0) (by decide) (by decide)
  induction pre with
  | nil => exact fun s h1 h2 => ⟨h1, h2⟩
  | cons k pre ih => exact fun s h1 h2 => ih _ (divS_lt a b s k h1 h2).1 (divS_lt a b s k h1 h2).2

/-- What lies between two rounds of a division that began at w. -/
def DvI (w : World) (b q r : Nat) (W : World) : Prop :=
  w.heap.size + 8 ≤ W.heap.size ∧ Wd W (w.heap.size + 1) 31 b ∧ Cs W (w.heap.size + 1 + 1) 31 (wc 0) ∧ Cs W (w.heap.size + 1 + 1 + 1) 31 (wc 0) ∧ Wd W (w.heap.size + 1 + 1 + 1 + 1) 31 q ∧ Wd W (w.heap.size + 1 + 1 + 1 + 1 + 1) 31 r ∧ Ext w W
set_option maxRecDepth 100000 in
theorem DvI.ext {w : World} {b q r : Nat} {W W' : World} (h : DvI w b q r W) (he : Ext W W') : DvI w b q r W' := by
  obtain ⟨h0, h1, h2, h3, h4, h5, h6⟩ := h
  exact ⟨Nat.le_trans h0 he.size, h1.ext he, h2.ext he, h3.ext he, h4.ext he, h5.ext he, h6.trans he⟩
set_option maxRecDepth 100000 in
theorem DvI.far {w : World} {b q r : Nat} {W W' : World} {row : Option Nat} (h : DvI w b q r W) (he : W.grownBy W' row) (hg : ∀ g, row = some g → w.heap.size + 8 ≤ g) : DvI w b q r W' := by
  obtain ⟨h0, h1, h2, h3, h4, h5, h6⟩ := h
  have hn : ∀ j, j < w.heap.size + 8 → some j ≠ row := fun j hj e => by have := hg j e.symm; omega
  exact ⟨Nat.le_trans h0 he.size, h1.kept he (hn _ (by omega)), h2.kept he (hn _ (by omega)), h3.kept he (hn _ (by omega)), h4.kept he (hn _ (by omega)), h5.kept he (hn _ (by omega)), Below.grown h6 he h6.size (fun j hj => by have := hg j hj; omega)⟩
set_option maxRecDepth 100000 in
theorem DvI.setR {w : World} {b q r r' : Nat} {W W' : World} (h : DvI w b q r W) (he : W.grownBy W' (some (w.heap.size + 1 + 1 + 1 + 1 + 1))) (hr : Wd W' (w.heap.size + 1 + 1 + 1 + 1 + 1) 31 r') : DvI w b q r' W' := by
  obtain ⟨h0, h1, h2, h3, h4, h5, h6⟩ := h
  exact ⟨Nat.le_trans h0 he.size, h1.kept he (some_ne (by omega)), h2.kept he (some_ne (by omega)), h3.kept he (some_ne (by omega)), h4.kept he (some_ne (by omega)), hr, h6.grown he (by omega)⟩
set_option maxRecDepth 100000 in
theorem DvI.setQ {w : World} {b q r q' : Nat} {W W' : World} (h : DvI w b q r W) (he : W.grownBy W' (some (w.heap.size + 1 + 1 + 1 + 1))) (hr : Wd W' (w.heap.size + 1 + 1 + 1 + 1) 31 q') : DvI w b q' r W' := by
  obtain ⟨h0, h1, h2, h3, h4, h5, h6⟩ := h
  exact ⟨Nat.le_trans h0 he.size, h1.kept he (some_ne (by omega)), h2.kept he (some_ne (by omega)), h3.kept he (some_ne (by omega)), hr, h5.kept he (some_ne (by omega)), h6.grown he (by omega)⟩
set_option maxRecDepth 100000 in
theorem DvI.own {w : World} {b : Nat} {B : Nat} (hB : w.heap.size + 8 ≤ B) (f : List Nat → Nat × Nat) : OwnFrom B (fun pre W => DvI w b (f pre).1 (f pre).2 W) := by
  intro s A A' row h hg hr
  exact h.far hg (fun g e => Nat.le_trans hB (hr g e).1)

end Go.Proofs.Ytmojbekihbmdfaa
