/- Words: numbers below 2^256 as values of four limbs; plain mathematics, and laws of memory that no program's number is named in. -/
import Derived.WalkKit
import Derived.Handy
import Derived.Laws.Rows
import Derived.Laws.Tables
import Derived.Laws.Externs
import Derived.Lib.Hide
import Derived.Test.YtjampleddeidaaaQByt
namespace Go.Proofs.Ytjampleddeidaaa
open Go.RowKit

theorem some_ne {a b : Nat} (h : a ≠ b) : some a ≠ some b := fun e => h (by injection e)

def lb (n i : Nat) : Nat := n / 18446744073709551616 ^ i % 18446744073709551616

theorem lb_lt (n i : Nat) : lb n i < 18446744073709551616 := Nat.mod_lt _ (by decide)

def lv (x : Nat) : Value := .int .u64 (x : Int)

def wc (n : Nat) : Array Value := #[lv (lb n 0), lv (lb n 1), lv (lb n 2), lv (lb n 3)]

def wv (n : Nat) : Value := .agg (wc n)

def ofL (a b c d : Nat) : Nat := a + 18446744073709551616 * b + 340282366920938463463374607431768211456 * c + 6277101735386680763835789423207666416102355444464034512896 * d

def M256 : Nat := 115792089237316195423570985008687907853269984665640564039457584007913129639936

theorem ofL_lt (a b c d : Nat) (ha : a < 18446744073709551616) (hb : b < 18446744073709551616) (hc : c < 18446744073709551616) (hd : d < 18446744073709551616) : ofL a b c d < M256 := by
  unfold ofL M256; omega

theorem lb0 (n : Nat) : lb n 0 = n % 18446744073709551616 := by simp [lb]
theorem lb1 (n : Nat) : lb n 1 = n / 18446744073709551616 % 18446744073709551616 := by simp [lb]
theorem lb2 (n : Nat) : lb n 2 = n / 340282366920938463463374607431768211456 % 18446744073709551616 := by simp [lb]
theorem lb3 (n : Nat) : lb n 3 = n / 6277101735386680763835789423207666416102355444464034512896 % 18446744073709551616 := by simp [lb]

theorem ofL_lb (n : Nat) (h : n < M256) : ofL (lb n 0) (lb n 1) (lb n 2) (lb n 3) = n := by
  rw [lb0, lb1, lb2, lb3]; unfold ofL; unfold M256 at h; omega

theorem lb_ofL (a b c d : Nat) (ha : a < 18446744073709551616) (hb : b < 18446744073709551616) (hc : c < 18446744073709551616) (hd : d < 18446744073709551616) :
    lb (ofL a b c d) 0 = a ∧ lb (ofL a b c d) 1 = b ∧ lb (ofL a b c d) 2 = c ∧ lb (ofL a b c d) 3 = d := by
  rw [lb0, lb1, lb2, lb3]; unfold ofL; omega

theorem lb_inj (a b : Nat) (ha : a < M256) (hb : b < M256) (h : ∀ i, i < 4 → lb a i = lb b i) : a = b := by
  rw [← ofL_lb a ha, ← ofL_lb b hb, h 0 (by omega), h 1 (by omega), h 2 (by omega), h 3 (by omega)]

theorem wc_one (n : Nat) : (wc n).all (·.oneCell') = true := by simp [wc, lv, Value.oneCell']
theorem wc_get (n i : Nat) (h : i < 4) : (wc n)[i]? = some (lv (lb n i)) := by
  match i, h with
  | 0, _ => rfl
  | 1, _ => rfl
  | 2, _ => rfl
  | 3, _ => rfl

def Wd (w : World) (g : Nat) (t : TypeId) (n : Nat) : Prop := w.heap[g]? = some (.cells (wc n) t (0, 0))

theorem Wd.cell {w : World} {g : Nat} {t : TypeId} {n : Nat} (h : Wd w g t n) (i : Nat) (hi : i < 4) : w.cell? ⟨g, i, none⟩ = some (.int .u64 (lb n i : Nat)) := by
  rw [cell_of_row w g i _ t (0, 0) h]; exact wc_get n i hi
theorem Wd.ext {w w' : World} {g : Nat} {t : TypeId} {n : Nat} (h : Wd w g t n) (he : Ext w w') : Wd w' g t n := he.block h
def Cs (w : World) (g : Nat) (t : TypeId) (cs : Array Value) : Prop := w.heap[g]? = some (.cells cs t (0, 0))
theorem Cs.lt {w : World} {g : Nat} {t : TypeId} {cs : Array Value} (h : Cs w g t cs) : g < w.heap.size := (Array.getElem?_eq_some_iff.1 h).1
theorem Cs.cell {w : World} {g : Nat} {t : TypeId} {cs : Array Value} (h : Cs w g t cs) (i : Nat) (v : Value) (hi : cs[i]? = some v) : w.cell? ⟨g, i, none⟩ = some v := by
  rw [cell_of_row w g i _ t (0, 0) h]; exact hi
theorem Cs.frozen {w : World} {g : Nat} {t : TypeId} {cs : Array Value} (h : Cs w g t cs) (i : Nat) : w.frozen? ⟨g, i, none⟩ = false := frozen_of_row w g i _ t h
theorem Cs.ext {w w' : World} {g : Nat} {t : TypeId} {cs : Array Value} (h : Cs w g t cs) (he : Ext w w') : Cs w' g t cs := he.block h
theorem Cs.kept {w w' : World} {g : Nat} {t : TypeId} {cs : Array Value} {row : Option Nat} (h : Cs w g t cs) (he : w.grownBy w' row) (hne : some g ≠ row) : Cs w' g t cs := (he.block g h.lt hne).trans h
theorem Cs.set {w : World} {g : Nat} {t : TypeId} {cs : Array Value} (h : Cs w g t cs) (i : Nat) (v : Value) : Cs (w.setCell ⟨g, i, none⟩ v) g t (cs.setIfInBounds i v) := by
  unfold Cs at h ⊢
  rw [heap_setCell_same w g i _ t _ h]
theorem Cs.wd {w : World} {g : Nat} {t : TypeId} {n : Nat} (h : Cs w g t (wc n)) : Wd w g t n := h

theorem Cs.alloc {w : World} {g : Nat} {t : TypeId} {cs : Array Value} (h : Cs w g t cs) (o : Obj) : Cs (w.alloc o) g t cs := (Below.heap_alloc w o g h.lt).trans h
theorem Cs.new (w : World) (cs : Array Value) (t : TypeId) (g : Nat) (hg : g = w.heap.size) : Cs (w.alloc (.cells cs t)) g t cs := by
  subst hg
  exact heap_alloc_new _ _
theorem Cs.four {w : World} {g : Nat} {t : TypeId} {n : Nat} (h : Cs w g t (wc n)) : w.cell? ⟨g, 0, none⟩ = some (.int .u64 (lb n 0 : Nat)) ∧ w.cell? ⟨g, 1, none⟩ = some (.int .u64 (lb n 1 : Nat)) ∧ w.cell? ⟨g, 2, none⟩ = some (.int .u64 (lb n 2 : Nat)) ∧ w.cell? ⟨g, 3, none⟩ = some (.int .u64 (lb n 3 : Nat)) :=
  ⟨h.wd.cell 0 (by omega), h.wd.cell 1 (by omega), h.wd.cell 2 (by omega), h.wd.cell 3 (by omega)⟩
theorem Wd.cs {w : World} {g : Nat} {t : TypeId} {n : Nat} (h : Wd w g t n) : Cs w g t (wc n) := h

theorem grown_of_ext {a w : World} (h : Ext a w) (row : Option Nat) : a.grownBy w row := ⟨h.os, h.tape, h.output, h.size, fun i hi _ => Below.block h i hi⟩
theorem ext_of_grown {a w : World} (h : a.grownBy w none) : Ext a w := ⟨h.os, h.tape, h.output, h.size, fun i hi => h.block i hi (by simp)⟩

theorem lb_div (n q r k : Nat) (h : r + k ≤ 64) : lb n q / 2 ^ r % 2 ^ k = n / 2 ^ (64 * q + r) % 2 ^ k := by
  unfold lb
  rw [show (18446744073709551616 : Nat) = 2 ^ 64 from rfl, ← Nat.pow_mul, Nat.pow_add, ← Nat.div_div_eq_div_mul]
  generalize n / 2 ^ (64 * q) = m
  rw [show (2 : Nat) ^ 64 = 2 ^ r * 2 ^ (64 - r) by rw [← Nat.pow_add]; congr 1; omega, Nat.mod_mul_right_div_self]
  exact Nat.mod_mod_of_dvd _ (Nat.pow_dvd_pow 2 (by omega))

end Go.Proofs.Ytjampleddeidaaa
