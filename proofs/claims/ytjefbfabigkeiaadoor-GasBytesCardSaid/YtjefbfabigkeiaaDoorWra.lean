/- Words: numbers below 2^256 as values of four limbs; plain mathematics, and laws of memory that no program's number is named in. -/
import Derived.WalkKit
import Derived.Handy
import Derived.Laws.Rows
import Derived.Laws.Tables
import Derived.Laws.Externs
import Derived.Lib.Hide
import Derived.Test.YtjefbfabigkeiaaDoorByt
namespace Go.Proofs.YtjefbfabigkeiaaDoor
open Go.RowKit

theorem some_ne {a b : Nat} (h : a ≠ b) : some a ≠ some b := fun e => h (by injection e)

/-- The limb of n at the place i. -/
def lb (n i : Nat) : Nat := n / 18446744073709551616 ^ i % 18446744073709551616

theorem lb_lt (n i : Nat) : lb n i < 18446744073709551616 := Nat.mod_lt _ (by decide)

/-- A limb as a cell's value. -/
def lv (x : Nat) : Value := .int .u64 (x : Int)

/-- The four cells of a word. -/
def wc (n : Nat) : Array Value := #[lv (lb n 0), lv (lb n 1), lv (lb n 2), lv (lb n 3)]

/-- A word as a value. -/
def wv (n : Nat) : Value := .agg (wc n)

/-- The word of four limbs. -/
def ofL (a b c d : Nat) : Nat := a + 18446744073709551616 * b + 340282366920938463463374607431768211456 * c + 6277101735386680763835789423207666416102355444464034512896 * d

/-- 2^256. -/
def M256 : Nat := 115792089237316195423570985008687907853269984665640564039457584007913129639936

theorem ofL_lt (a b c d : Nat) (ha : a < 18446744073709551616) (hb : b < 18446744073709551616) (hc : c < 18446744073709551616) (hd : d < 18446744073709551616) : ofL a b c d < M256 := by
  unfold ofL M256; omega

theorem lb0 (n : Nat) : lb n 0 = n % 18446744073709551616 := by simp [lb]
theorem lb1 (n : Nat) : lb n 1 = n / 18446744073709551616 % 18446744073709551616 := by simp [lb]
theorem lb2 (n : Nat) : lb n 2 = n / 340282366920938463463374607431768211456 % 18446744073709551616 := by simp [lb]
theorem lb3 (n : Nat) : lb n 3 = n / 6277101735386680763835789423207666416102355444464034512896 % 18446744073709551616 := by simp [lb]

theorem ofL_lb (n : Nat) (h : n < M256) : ofL (lb n 0) (lb n 1) (lb n 2) (lb n 3) = n := by
  rw [lb0, lb1, lb2, lb3]; unfold ofL; unfold M256 at h; omega

theorem lb_ofL (a b c d : Nat) (ha : a < 18446744073709551616) (hb : b < 18446744073709551616) (hc : c < 18446744073709551616) (hd : d < 18446744073709551616) :
    lb (ofL a b c d) 0 = a ∧ lb (ofL a b c d) 1 = b ∧ lb (ofL a b c d) 2 = c ∧ lb (ofL a b c d) 3 = d := by
  rw [lb0, lb1, lb2, lb3]; unfold ofL; omega

theorem wc_ofL (a b c d : Nat) (ha : a < 18446744073709551616) (hb : b < 18446744073709551616) (hc : c < 18446744073709551616) (hd : d < 18446744073709551616) : wc (ofL a b c d) = #[lv a, lv b, lv c, lv d] := by
  obtain ⟨h0, h1, h2, h3⟩ := lb_ofL a b c d ha hb hc hd
  unfold wc
  rw [h0, h1, h2, h3]

theorem lb_inj (a b : Nat) (ha : a < M256) (hb : b < M256) (h : ∀ i, i < 4 → lb a i = lb b i) : a = b := by
  rw [← ofL_lb a ha, ← ofL_lb b hb, h 0 (by omega), h 1 (by omega), h 2 (by omega), h 3 (by omega)]

theorem wc_size (n : Nat) : (wc n).size = 4 := rfl
theorem wc_one (n : Nat) : (wc n).all (·.oneCell') = true := by simp [wc, lv, Value.oneCell']
theorem wc_zero : wc 0 = #[.int .u64 0, .int .u64 0, .int .u64 0, .int .u64 0] := rfl
theorem wc_get (n i : Nat) (h : i < 4) : (wc n)[i]? = some (lv (lb n i)) := by
  match i, h with
  | 0, _ => rfl
  | 1, _ => rfl
  | 2, _ => rfl
  | 3, _ => rfl

/-- The block g is a word of its own, n. -/
def Wd (w : World) (g : Nat) (t : TypeId) (n : Nat) : Prop := w.heap[g]? = some (.cells (wc n) t (0, 0))

theorem Wd.lt {w : World} {g : Nat} {t : TypeId} {n : Nat} (h : Wd w g t n) : g < w.heap.size := (Array.getElem?_eq_some_iff.1 h).1
theorem Wd.cell {w : World} {g : Nat} {t : TypeId} {n : Nat} (h : Wd w g t n) (i : Nat) (hi : i < 4) : w.cell? ⟨g, i, none⟩ = some (.int .u64 (lb n i : Nat)) := by
  rw [cell_of_row w g i _ t (0, 0) h]; exact wc_get n i hi
theorem Wd.frozen {w : World} {g : Nat} {t : TypeId} {n : Nat} (h : Wd w g t n) (i : Nat) : w.frozen? ⟨g, i, none⟩ = false := frozen_of_row w g i _ t h
theorem Wd.ext {w w' : World} {g : Nat} {t : TypeId} {n : Nat} (h : Wd w g t n) (he : Ext w w') : Wd w' g t n := he.block h
theorem Wd.kept {w w' : World} {g : Nat} {t : TypeId} {n : Nat} {row : Option Nat} (h : Wd w g t n) (he : w.grownBy w' row) (hne : some g ≠ row) : Wd w' g t n := (he.block g h.lt hne).trans h


/-- The block g holds just these cells. -/
def Cs (w : World) (g : Nat) (t : TypeId) (cs : Array Value) : Prop := w.heap[g]? = some (.cells cs t (0, 0))
theorem Cs.lt {w : World} {g : Nat} {t : TypeId} {cs : Array Value} (h : Cs w g t cs) : g < w.heap.size := (Array.getElem?_eq_some_iff.1 h).1
theorem Cs.cell {w : World} {g : Nat} {t : TypeId} {cs : Array Value} (h : Cs w g t cs) (i : Nat) (v : Value) (hi : cs[i]? = some v) : w.cell? ⟨g, i, none⟩ = some v := by
  rw [cell_of_row w g i _ t (0, 0) h]; exact hi
theorem Cs.frozen {w : World} {g : Nat} {t : TypeId} {cs : Array Value} (h : Cs w g t cs) (i : Nat) : w.frozen? ⟨g, i, none⟩ = false := frozen_of_row w g i _ t h
theorem Cs.ext {w w' : World} {g : Nat} {t : TypeId} {cs : Array Value} (h : Cs w g t cs) (he : Ext w w') : Cs w' g t cs := he.block h
theorem Cs.kept {w w' : World} {g : Nat} {t : TypeId} {cs : Array Value} {row : Option Nat} (h : Cs w g t cs) (he : w.grownBy w' row) (hne : some g ≠ row) : Cs w' g t cs := (he.block g h.lt hne).trans h
theorem Cs.set {w : World} {g : Nat} {t : TypeId} {cs : Array Value} (h : Cs w g t cs) (i : Nat) (v : Value) : Cs (w.setCell ⟨g, i, none⟩ v) g t (cs.setIfInBounds i v) := by
  unfold Cs at h ⊢
  rw [heap_setCell_same w g i _ t _ h]
theorem Cs.drew {w : World} {g : Nat} {t : TypeId} {cs : Array Value} (h : Cs w g t cs) : Cs w.drew g t cs := h
theorem Cs.wd {w : World} {g : Nat} {t : TypeId} {n : Nat} (h : Cs w g t (wc n)) : Wd w g t n := h

theorem Cs.alloc {w : World} {g : Nat} {t : TypeId} {cs : Array Value} (h : Cs w g t cs) (o : Obj) : Cs (w.alloc o) g t cs := (Below.heap_alloc w o g h.lt).trans h
theorem Cs.new (w : World) (cs : Array Value) (t : TypeId) (g : Nat) (hg : g = w.heap.size) : Cs (w.alloc (.cells cs t)) g t cs := by
  subst hg
  exact heap_alloc_new _ _
theorem Cs.four {w : World} {g : Nat} {t : TypeId} {n : Nat} (h : Cs w g t (wc n)) : w.cell? ⟨g, 0, none⟩ = some (.int .u64 (lb n 0 : Nat)) ∧ w.cell? ⟨g, 1, none⟩ = some (.int .u64 (lb n 1 : Nat)) ∧ w.cell? ⟨g, 2, none⟩ = some (.int .u64 (lb n 2 : Nat)) ∧ w.cell? ⟨g, 3, none⟩ = some (.int .u64 (lb n 3 : Nat)) :=
  ⟨h.wd.cell 0 (by omega), h.wd.cell 1 (by omega), h.wd.cell 2 (by omega), h.wd.cell 3 (by omega)⟩
theorem Wd.cs {w : World} {g : Nat} {t : TypeId} {n : Nat} (h : Wd w g t n) : Cs w g t (wc n) := h

theorem grown_drew {a w : World} {row : Option Nat} (h : a.grownBy w row) : a.grownBy w.drew row := ⟨h.os, h.tape, h.output, h.size, h.block⟩
theorem grown_alloc {a w : World} {row : Option Nat} (h : a.grownBy w row) (o : Obj) : a.grownBy (w.alloc o) row :=
  ⟨h.os, h.tape, h.output, Nat.le_trans h.size (by simp), fun i hi hne => (Below.heap_alloc w o i (Nat.lt_of_lt_of_le hi h.size)).trans (h.block i hi hne)⟩
theorem grown_setNew {a w : World} {row : Option Nat} (h : a.grownBy w row) (p : Addr) (hp : a.heap.size ≤ p.block) (u : Value) : a.grownBy (w.setCell p u) row :=
  ⟨h.os, h.tape, h.output, by simpa [World.setCell] using h.size, fun i hi hne => (Below.heap_setCell w p u i (by rintro rfl; omega)).trans (h.block i hi hne)⟩
/-- One block that is new is written, others made: seen from a world without it. -/
theorem grown_new {a w w' : World} {row : Option Nat} {g : Nat} (h : a.grownBy w row) (k : w.grownBy w' (some g)) (hg : a.heap.size ≤ g) : a.grownBy w' row :=
  ⟨k.os.trans h.os, k.tape.trans h.tape, k.output.trans h.output, Nat.le_trans h.size k.size, fun i hi hne => (k.block i (Nat.lt_of_lt_of_le hi h.size) (by intro e; injection e with e; omega)).trans (h.block i hi hne)⟩
theorem grown_of_ext {a w : World} (h : Ext a w) (row : Option Nat) : a.grownBy w row := ⟨h.os, h.tape, h.output, h.size, fun i hi _ => Below.block h i hi⟩
theorem ext_of_grown {a w : World} (h : a.grownBy w none) : Ext a w := ⟨h.os, h.tape, h.output, h.size, fun i hi => h.block i hi (by simp)⟩

theorem Cs.laid {w : World} {g : Nat} {t : TypeId} {m : Nat} (h : Cs w g t (wc m)) (n : Nat) :
    Wd ((((w.setCell ⟨g, 0, none⟩ (.int .u64 (lb n 0 : Nat))).setCell ⟨g, 1, none⟩ (.int .u64 (lb n 1 : Nat))).setCell ⟨g, 2, none⟩ (.int .u64 (lb n 2 : Nat))).setCell ⟨g, 3, none⟩ (.int .u64 (lb n 3 : Nat))).drew g t n :=
  (((h.set 0 _).set 1 _).set 2 _).set 3 _
theorem Ext.laid {a w : World} {g : Nat} (h : Ext a w) (hg : a.heap.size ≤ g) (v0 v1 v2 v3 : Value) :
    Ext a ((((w.setCell ⟨g, 0, none⟩ v0).setCell ⟨g, 1, none⟩ v1).setCell ⟨g, 2, none⟩ v2).setCell ⟨g, 3, none⟩ v3).drew :=
  ((((h.grown (grown_set _ _ _ _) hg).grown (grown_set _ _ _ _) hg).grown (grown_set _ _ _ _) hg).grown (grown_set _ _ _ _) hg).drew

/-- A word is loaded. -/
theorem wpList_load_word {P : Program} {ops : Array Oper} {rest : List Oper} {o : Oper} {a : Act} {w : World} {Q : Exit → Act → World → Prop} (hgd : o.guard = none) (ty e : TypeId) (x : Operand) (ho : o.op = .load ty x)
    (hu : P.underlying ty = some (.array 4 e)) (hi : (P.info? ty).map (·.size) = some 4) (g n : Nat) (hx : a.eval x = .pointer (some ⟨g, 0, none⟩)) (hg : Wd w g ty n)
    (h : wpList P ops Q rest (a.put o.dst (wv n)) w) : wpList P ops Q (o :: rest) a w :=
  wpList_load_row hgd ty x ho g hx ty (wc n) (0, 0) _ hg hu rfl hi h

/-- A word is stored. -/
theorem wpList_store_word {P : Program} {ops : Array Oper} {rest : List Oper} {o : Oper} {a : Act} {w : World} {Q : Exit → Act → World → Prop} (hgd : o.guard = none) (hd : o.dst = none) (ty : TypeId) (x y : Operand) (ho : o.op = .store ty x y)
    (hi : (P.info? ty).map (·.size) = some 4) (g : Nat) (old : Array Value) (n : Nat) (hx : a.eval x = .pointer (some ⟨g, 0, none⟩)) (hy : a.eval y = wv n) (hg : Cs w g ty old) (hold : old.size = 4)
    (h : ∀ w', Wd w' g ty n → w.grownBy w' (some g) → wpList P ops Q rest a w') : wpList P ops Q (o :: rest) a w := by
  have h' : ∀ w', Wd w' g ty n → w.grownBy w' (some g) → wpList P ops Q rest (a.put o.dst undef) w' := by rw [hd]; exact h
  refine wpList_store_row hgd ty x y ho g (wc n) hx hy ty old hg hi hold (wc_one n) (h' _ ?_ ?_)
  · exact setRow_heap w g _ _ ty (0, 0) hg
  · exact ⟨rfl, rfl, rfl, by simp [World.setRow], fun k _ hk => setRow_other w g k _ (fun e => hk (by simp [e]))⟩


theorem results_word {P : Program} {fn : Func} {p : Tmp} {ty e : TypeId} (h : fn.results = #[.cell p ty]) (tmps : Array Value) (w : World) (g n : Nat) (hp : tmps.getD p undef = .pointer (some ⟨g, 0, none⟩)) (hg : Wd w g ty n)
    (hu : P.underlying ty = some (.array 4 e)) (hi : (P.info? ty).map (·.size) = some 4) : (results fn tmps).run P w = .ok (wv n) w :=
  results_cell_row h tmps w g ty (wc n) (0, 0) _ hp hg hu rfl hi
theorem results_word_tmp {P : Program} {fn : Func} {p q : Tmp} {ty e : TypeId} (h : fn.results = #[.cell p ty, .tmp q]) (tmps : Array Value) (w : World) (g n : Nat) (hp : tmps.getD p undef = .pointer (some ⟨g, 0, none⟩)) (hg : Wd w g ty n)
    (hu : P.underlying ty = some (.array 4 e)) (hi : (P.info? ty).map (·.size) = some 4) : (results fn tmps).run P w = .ok (.tuple #[wv n, tmps.getD q undef]) w := by
  have hp' : tmps[p]?.getD undef = .pointer (some ⟨g, 0, none⟩) := by simpa using hp
  simp [results, h, hp', asAddr, run_loadVar_row w g ty ty (wc n) (0, 0) _ hg hu rfl hi, wv]
theorem results_word_word {P : Program} {fn : Func} {p q : Tmp} {ty e : TypeId} (h : fn.results = #[.cell p ty, .cell q ty]) (tmps : Array Value) (w : World) (g n g' n' : Nat) (hp : tmps.getD p undef = .pointer (some ⟨g, 0, none⟩)) (hg : Wd w g ty n)
    (hq : tmps.getD q undef = .pointer (some ⟨g', 0, none⟩)) (hg' : Wd w g' ty n')
    (hu : P.underlying ty = some (.array 4 e)) (hi : (P.info? ty).map (·.size) = some 4) : (results fn tmps).run P w = .ok (.tuple #[wv n, wv n']) w := by
  have hp' : tmps[p]?.getD undef = .pointer (some ⟨g, 0, none⟩) := by simpa using hp
  have hq' : tmps[q]?.getD undef = .pointer (some ⟨g', 0, none⟩) := by simpa using hq
  simp [results, h, hp', hq', asAddr, run_loadVar_row w g ty ty (wc n) (0, 0) _ hg hu rfl hi, run_loadVar_row w g' ty ty (wc n') (0, 0) _ hg' hu rfl hi, wv]

/-- Sums limb by limb. -/
theorem chain (x0 x1 x2 x3 y0 y1 y2 y3 r0 r1 r2 r3 c0 c1 c2 c3 c4 : Nat) (h0 : x0 + y0 + c0 = r0 + 18446744073709551616 * c1) (h1 : x1 + y1 + c1 = r1 + 18446744073709551616 * c2) (h2 : x2 + y2 + c2 = r2 + 18446744073709551616 * c3) (h3 : x3 + y3 + c3 = r3 + 18446744073709551616 * c4) :
    ofL x0 x1 x2 x3 + ofL y0 y1 y2 y3 + c0 = ofL r0 r1 r2 r3 + M256 * c4 := by
  unfold ofL M256
  omega

/-! ### Bits that do not meet -/
theorem or_add (r k lo hi x : Nat) (hlo : lo < 2 ^ r) (hx : x < 2 ^ k) : (2 ^ (r + k) * hi + lo) ||| (x * 2 ^ r) = 2 ^ (r + k) * hi + lo + x * 2 ^ r := by
  have h1 : 2 ^ (r + k) * hi + lo = 2 ^ (r + k) * hi ||| lo := Nat.two_pow_add_eq_or_of_lt (Nat.lt_of_lt_of_le hlo (Nat.pow_le_pow_right (by decide) (by omega))) hi
  have h2 : 2 ^ r * x + lo = 2 ^ r * x ||| lo := Nat.two_pow_add_eq_or_of_lt hlo x
  have hb : 2 ^ r * x + lo < 2 ^ (r + k) := by
    rw [Nat.pow_add]
    have : 2 ^ r * x + 2 ^ r ≤ 2 ^ r * 2 ^ k := by rw [← Nat.mul_succ]; exact Nat.mul_le_mul_left _ hx
    omega
  have h3 : 2 ^ (r + k) * hi + (2 ^ r * x + lo) = 2 ^ (r + k) * hi ||| (2 ^ r * x + lo) := Nat.two_pow_add_eq_or_of_lt hb hi
  rw [Nat.mul_comm x, h1, Nat.or_assoc, Nat.or_comm lo, ← h2, ← h3, ← h1]
  omega

/-- Where k bits from the place r on are nought, x laid there is added. -/
theorem or_free (r k y x : Nat) (h0 : y / 2 ^ r % 2 ^ k = 0) (hx : x < 2 ^ k) : y ||| (x * 2 ^ r) = y + x * 2 ^ r := by
  have e : y = 2 ^ (r + k) * (y / 2 ^ r / 2 ^ k) + y % 2 ^ r := by
    have h1 := Nat.div_add_mod y (2 ^ r)
    have h2 := Nat.div_add_mod (y / 2 ^ r) (2 ^ k)
    rw [h0, Nat.add_zero] at h2
    rw [Nat.pow_add, Nat.mul_assoc, h2]
    exact h1.symm
  have hl : y % 2 ^ r < 2 ^ r := Nat.mod_lt _ (Nat.two_pow_pos r)
  have := or_add r k (y % 2 ^ r) (y / 2 ^ r / 2 ^ k) x hl hx
  rw [← e] at this
  exact this

/-- A limb, seen from a bit within it. -/
theorem lb_div (n q r k : Nat) (h : r + k ≤ 64) : lb n q / 2 ^ r % 2 ^ k = n / 2 ^ (64 * q + r) % 2 ^ k := by
  unfold lb
  rw [show (18446744073709551616 : Nat) = 2 ^ 64 from rfl, ← Nat.pow_mul, Nat.pow_add, ← Nat.div_div_eq_div_mul]
  generalize n / 2 ^ (64 * q) = m
  rw [show (2 : Nat) ^ 64 = 2 ^ r * 2 ^ (64 - r) by rw [← Nat.pow_add]; congr 1; omega, Nat.mod_mul_right_div_self]
  exact Nat.mod_mod_of_dvd _ (Nat.pow_dvd_pow 2 (by omega))

theorem lb_or (a b i : Nat) : lb (a ||| b) i = lb a i ||| lb b i := by
  unfold lb
  rw [show (18446744073709551616 : Nat) = 2 ^ 64 from rfl, ← Nat.pow_mul, Nat.or_div_two_pow, Nat.or_mod_two_pow]
theorem lb_mulpow (z q i : Nat) (hq : q < 4) (hi : i < 4) (hz : z < 18446744073709551616) : lb (z * 18446744073709551616 ^ q) i = if i = q then z else 0 := by
  unfold lb
  match q, hq, i, hi with
  | 0, _, 0, _ => simp; omega
  | 0, _, 1, _ => simp; omega
  | 0, _, 2, _ => simp; omega
  | 0, _, 3, _ => simp; omega
  | 1, _, 0, _ => simp
  | 1, _, 1, _ => simp; omega
  | 1, _, 2, _ => simp; omega
  | 1, _, 3, _ => simp; omega
  | 2, _, 0, _ => simp; omega
  | 2, _, 1, _ => simp; omega
  | 2, _, 2, _ => simp; omega
  | 2, _, 3, _ => simp; omega
  | 3, _, 0, _ => simp; omega
  | 3, _, 1, _ => simp; omega
  | 3, _, 2, _ => simp; omega
  | 3, _, 3, _ => simp; omega
/-- One limb of a word, with bits of its own. -/
theorem wc_or (n q z : Nat) (hq : q < 4) (hz : z < 18446744073709551616) : (wc n).setIfInBounds q (lv (lb n q ||| z)) = wc (n ||| z * 18446744073709551616 ^ q) := by
  have e : ∀ i, i < 4 → lb (n ||| z * 18446744073709551616 ^ q) i = lb n i ||| (if i = q then z else 0) := fun i hi => by rw [lb_or, lb_mulpow z q i hq hi hz]
  unfold wc
  rw [e 0 (by omega), e 1 (by omega), e 2 (by omega), e 3 (by omega)]
  match q, hq with
  | 0, _ => simp
  | 1, _ => simp
  | 2, _ => simp
  | 3, _ => simp

/-- A number added to one limb. -/
theorem wc_add (n q z : Nat) (hq : q < 4) (hn : n < M256) (hz : lb n q + z < 18446744073709551616) : (wc n).setIfInBounds q (lv (lb n q + z)) = wc (n + z * 18446744073709551616 ^ q) ∧ n + z * 18446744073709551616 ^ q < M256 := by
  unfold M256 at *
  match q, hq with
  | 0, _ =>
    rw [lb0] at hz
    have e0 : lb (n + z * 18446744073709551616 ^ 0) 0 = lb n 0 + z := by rw [lb0, lb0]; omega
    have e1 : lb (n + z * 18446744073709551616 ^ 0) 1 = lb n 1 := by rw [lb1, lb1]; omega
    have e2 : lb (n + z * 18446744073709551616 ^ 0) 2 = lb n 2 := by rw [lb2, lb2]; omega
    have e3 : lb (n + z * 18446744073709551616 ^ 0) 3 = lb n 3 := by rw [lb3, lb3]; omega
    refine ⟨?_, by omega⟩
    unfold wc
    rw [e0, e1, e2, e3]
    rfl
  | 1, _ =>
    rw [lb1] at hz
    have e0 : lb (n + z * 18446744073709551616 ^ 1) 0 = lb n 0 := by rw [lb0, lb0]; omega
    have e1 : lb (n + z * 18446744073709551616 ^ 1) 1 = lb n 1 + z := by rw [lb1, lb1]; omega
    have e2 : lb (n + z * 18446744073709551616 ^ 1) 2 = lb n 2 := by rw [lb2, lb2]; omega
    have e3 : lb (n + z * 18446744073709551616 ^ 1) 3 = lb n 3 := by rw [lb3, lb3]; omega
    refine ⟨?_, by omega⟩
    unfold wc
    rw [e0, e1, e2, e3]
    rfl
  | 2, _ =>
    rw [lb2] at hz
    have e0 : lb (n + z * 18446744073709551616 ^ 2) 0 = lb n 0 := by rw [lb0, lb0]; omega
    have e1 : lb (n + z * 18446744073709551616 ^ 2) 1 = lb n 1 := by rw [lb1, lb1]; omega
    have e2 : lb (n + z * 18446744073709551616 ^ 2) 2 = lb n 2 + z := by rw [lb2, lb2]; omega
    have e3 : lb (n + z * 18446744073709551616 ^ 2) 3 = lb n 3 := by rw [lb3, lb3]; omega
    refine ⟨?_, by omega⟩
    unfold wc
    rw [e0, e1, e2, e3]
    rfl
  | 3, _ =>
    rw [lb3] at hz
    have e0 : lb (n + z * 18446744073709551616 ^ 3) 0 = lb n 0 := by rw [lb0, lb0]; omega
    have e1 : lb (n + z * 18446744073709551616 ^ 3) 1 = lb n 1 := by rw [lb1, lb1]; omega
    have e2 : lb (n + z * 18446744073709551616 ^ 3) 2 = lb n 2 := by rw [lb2, lb2]; omega
    have e3 : lb (n + z * 18446744073709551616 ^ 3) 3 = lb n 3 + z := by rw [lb3, lb3]; omega
    refine ⟨?_, by omega⟩
    unfold wc
    rw [e0, e1, e2, e3]
    rfl

end Go.Proofs.YtjefbfabigkeiaaDoor
