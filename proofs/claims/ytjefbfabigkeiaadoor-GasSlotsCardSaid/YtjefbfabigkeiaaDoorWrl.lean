/- The helper of the statements of layer 2: the layer does something. Contracts of package word: products. Contract of Mul. What the laws of layer 2 share: words that come in, answers under names of their own, and what a region that draws its order keeps. -/
import Derived.Test.YtjefbfabigkeiaaDoorWri
import Derived.Test.YtjefbfabigkeiaaDoorFrm
import Derived.Test.YtjefbfabigkeiaaDoorWre
import Derived.Lib.Mul64
import Derived.Laws.Bits64b
import Derived.Deep.RegionHeld3
namespace Go.Proofs.YtjefbfabigkeiaaDoor
open Go.RowKit

set_option maxRecDepth 100000 in
theorem wpList_load_wordG {P : Program} {ops : Array Oper} {rest : List Oper} {o : Oper} {a : Act} {w : World} {Q : Exit → Act → World → Prop} (hgd : Region.wanted o (yielded ops a.tmps) = true) (ty e : TypeId) (x : Operand) (ho : o.op = .load ty x)
    (hu : P.underlying ty = some (.array 4 e)) (hi : (P.info? ty).map (·.size) = some 4) (g n : Nat) (hx : a.eval x = .pointer (some ⟨g, 0, none⟩)) (hg : Wd w g ty n)
    (h : wpList P ops Q rest (a.put o.dst (wv n)) w) : wpList P ops Q (o :: rest) a w := by
  refine wpList_step fun K hK => ?_
  rw [if_pos hgd]
  exact wp_load_row ty x ho g hx ty (wc n) (0, 0) _ hg hu rfl hi (hK _ _ h)

set_option maxRecDepth 100000 in
theorem agg_zero : Value.agg #[.int .u64 0, .int .u64 0, .int .u64 0, .int .u64 0] = wv 0 := rfl

end Go.Proofs.YtjefbfabigkeiaaDoor
namespace Go.Proofs.YtjefbfabigkeiaaDoor
open Go.RowKit

namespace Mu
set_option maxRecDepth 100000 in
theorem maskN (a : Nat) (ha : a < 18446744073709551616) : bits .and .u64 (a : Int) 4294967295 = ((a % 4294967296 : Nat) : Int) := by
  have h := u64_and_nat a 4294967295 ha (by omega)
  have e : a &&& 4294967295 = a % 4294967296 := Nat.and_two_pow_sub_one_eq_mod a 32
  rw [e] at h
  exact h
set_option maxRecDepth 100000 in
theorem divN (a : Nat) : (a : Int) / 4294967296 = ((a / 4294967296 : Nat) : Int) := by omega
set_option maxRecDepth 100000 in
theorem mulN (a b : Nat) : (a : Int) * (b : Int) = ((a * b : Nat) : Int) := (Int.natCast_mul a b).symm
set_option maxRecDepth 100000 in
theorem addN (a b : Nat) : (a : Int) + (b : Int) = ((a + b : Nat) : Int) := (Int.natCast_add a b).symm
set_option maxRecDepth 100000 in
theorem wrapN (a : Nat) (ha : a < 18446744073709551616) : IntKind.u64.wrap (a : Int) = (a : Int) := by rw [IntKind.wrap_u64]; omega
set_option maxRecDepth 100000 in
theorem wrapM (a : Nat) : IntKind.u64.wrap (a : Int) = ((a % 18446744073709551616 : Nat) : Int) := by rw [IntKind.wrap_u64]; omega
end Mu

/-- x times y, c and d added: the lower and the upper limb. -/
def maLo (x y c d : Nat) : Nat := (x * y + c + d) % 18446744073709551616
def maHi (x y c d : Nat) : Nat := (x * y + c + d) / 18446744073709551616

set_option maxRecDepth 100000 in
theorem mul_le64 (x y : Nat) (hx : x < 18446744073709551616) (hy : y < 18446744073709551616) : x * y ≤ 340282366920938463426481119284349108225 := by
  have h := Nat.mul_le_mul (Nat.le_pred_of_lt hx) (Nat.le_pred_of_lt hy)
  exact h

set_option maxRecDepth 100000 in
theorem ret_pair {k : IntKind} {a b a' b' : Int} (h1 : a = a') (h2 : b = b') : Ending.returned (.tuple #[.int k a, .int k b]) = .returned (.tuple #[.int k a', .int k b']) := by rw [h1, h2]

set_option maxRecDepth 100000 in
theorem lb_mod (n i : Nat) : lb n i = n % 18446744073709551616 ^ (i + 1) / 18446744073709551616 ^ i := by
  unfold lb
  rw [Nat.pow_succ, Nat.mod_mul_right_div_self]

/-- The number n, its limb at k another one. -/
def setD (n k z : Nat) : Nat := n % 18446744073709551616 ^ k + z * 18446744073709551616 ^ k + n / 18446744073709551616 ^ (k + 1) * 18446744073709551616 ^ (k + 1)

set_option maxRecDepth 100000 in
theorem setD_eq (n k z : Nat) : setD n k z + lb n k * 18446744073709551616 ^ k = n + z * 18446744073709551616 ^ k := by
  unfold setD lb
  have h1 := Nat.div_add_mod n (18446744073709551616 ^ k)
  have h2 := Nat.div_add_mod (n / 18446744073709551616 ^ k) 18446744073709551616
  rw [Nat.div_div_eq_div_mul, ← Nat.pow_succ] at h2
  have h3 : n / 18446744073709551616 ^ (k + 1) * 18446744073709551616 ^ (k + 1) + n / 18446744073709551616 ^ k % 18446744073709551616 * 18446744073709551616 ^ k = n / 18446744073709551616 ^ k * 18446744073709551616 ^ k := by
    have e : n / 18446744073709551616 ^ (k + 1) * 18446744073709551616 ^ (k + 1) = 18446744073709551616 * (n / 18446744073709551616 ^ (k + 1)) * 18446744073709551616 ^ k := by
      generalize n / 18446744073709551616 ^ (k + 1) = m
      rw [Nat.pow_succ, Nat.mul_comm (18446744073709551616 ^ k), ← Nat.mul_assoc, Nat.mul_comm m]
    rw [e, ← Nat.add_mul, h2]
  rw [Nat.mul_comm] at h1
  omega

set_option maxRecDepth 100000 in
theorem setD_lb (n k z i : Nat) (hz : z < 18446744073709551616) : lb (setD n k z) i = if i = k then z else lb n i := by
  have hB : ∀ j, 0 < 18446744073709551616 ^ j := fun j => Nat.pow_pos (by decide)
  have hlow : n % 18446744073709551616 ^ k + z * 18446744073709551616 ^ k < 18446744073709551616 ^ (k + 1) := by
    have h1 := Nat.mod_lt n (hB k)
    have h2 : (z + 1) * 18446744073709551616 ^ k ≤ 18446744073709551616 * 18446744073709551616 ^ k := Nat.mul_le_mul_right _ hz
    rw [Nat.pow_succ, Nat.mul_comm (18446744073709551616 ^ k)]
    rw [Nat.add_mul, Nat.one_mul] at h2
    omega
  by_cases hik : i = k
  · subst hik
    rw [if_pos rfl, lb_mod]
    unfold setD
    rw [Nat.add_mul_mod_self_right, Nat.mod_eq_of_lt hlow, Nat.add_mul_div_right _ _ (hB i), Nat.div_eq_of_lt (Nat.mod_lt _ (hB i)), Nat.zero_add]
  · rw [if_neg hik]
    by_cases hlt : i < k
    · rw [lb_mod, lb_mod]
      congr 1
      unfold setD
      obtain ⟨d, rfl⟩ : ∃ d, k = i + 1 + d := ⟨k - (i + 1), by omega⟩
      have e1 : z * 18446744073709551616 ^ (i + 1 + d) = z * 18446744073709551616 ^ d * 18446744073709551616 ^ (i + 1) := by rw [Nat.pow_add, Nat.mul_comm (18446744073709551616 ^ (i + 1)), Nat.mul_assoc]
      have e2 : n / 18446744073709551616 ^ (i + 1 + d + 1) * 18446744073709551616 ^ (i + 1 + d + 1) = n / 18446744073709551616 ^ (i + 1 + d + 1) * 18446744073709551616 ^ (d + 1) * 18446744073709551616 ^ (i + 1) := by
        rw [show i + 1 + d + 1 = d + 1 + (i + 1) by omega, Nat.pow_add, Nat.mul_assoc]
      rw [e1, e2, Nat.add_mul_mod_self_right, Nat.add_mul_mod_self_right]
      exact Nat.mod_mod_of_dvd _ (Nat.pow_dvd_pow _ (by omega))
    · have hgt : k + 1 ≤ i := by omega
      obtain ⟨d, rfl⟩ : ∃ d, i = k + 1 + d := ⟨i - (k + 1), by omega⟩
      unfold lb
      congr 1
      rw [Nat.pow_add, ← Nat.div_div_eq_div_mul, ← Nat.div_div_eq_div_mul]
      congr 1
      unfold setD
      rw [Nat.add_mul_div_right _ _ (hB (k + 1)), Nat.div_eq_of_lt hlow, Nat.zero_add]

/-- The eight cells of a product. -/
def pc (n : Nat) : Array Value := ((List.range 8).map fun i => lv (lb n i)).toArray
set_option maxRecDepth 100000 in
theorem pc_size (n : Nat) : (pc n).size = 8 := rfl
set_option maxRecDepth 100000 in
theorem pc_get (n i : Nat) (h : i < 8) : (pc n)[i]? = some (lv (lb n i)) := by
  unfold pc
  simp [h]
set_option maxRecDepth 100000 in
theorem pc_set (n k z : Nat) (hz : z < 18446744073709551616) : (pc n).setIfInBounds k (lv z) = pc (setD n k z) := by
  apply Array.toList_inj.1
  rw [Array.toList_setIfInBounds]
  show ((List.range 8).map fun i => lv (lb n i)).set k (lv z) = (List.range 8).map fun i => lv (lb (setD n k z) i)
  apply List.ext_getElem (by simp)
  intro i h1 h2
  rw [List.getElem_set]
  simp only [List.getElem_map, List.getElem_range, setD_lb n k z i hz]
  by_cases h : k = i
  · subst h
    simp
  · rw [if_neg h, if_neg (fun e => h e.symm)]
set_option maxRecDepth 100000 in
theorem pc_zero : pc 0 = #[.int .u64 0, .int .u64 0, .int .u64 0, .int .u64 0, .int .u64 0, .int .u64 0, .int .u64 0, .int .u64 0] := rfl


set_option maxRecDepth 100000 in
theorem lb_top (b j : Nat) : b % 18446744073709551616 ^ (j + 1) = b % 18446744073709551616 ^ j + lb b j * 18446744073709551616 ^ j := by
  unfold lb
  have h := Nat.mod_mul (x := b) (a := 18446744073709551616 ^ j) (b := 18446744073709551616)
  rw [Nat.pow_succ, h, Nat.mul_comm (18446744073709551616 ^ j)]

set_option maxRecDepth 100000 in
/-- One step of the inner loop. -/
theorem mul_step (P c x y A b i j : Nat) (_hi : i < 4) (hj : j < 4) (hy : y = lb b j) (hP : P < 18446744073709551616 ^ (i + 4)) (h : P + c * 18446744073709551616 ^ (i + j) = A * b + x * (b % 18446744073709551616 ^ j) * 18446744073709551616 ^ i) :
    setD P (i + j) (maLo x y (lb P (i + j)) c) + maHi x y (lb P (i + j)) c * 18446744073709551616 ^ (i + (j + 1)) = A * b + x * (b % 18446744073709551616 ^ (j + 1)) * 18446744073709551616 ^ i ∧ setD P (i + j) (maLo x y (lb P (i + j)) c) < 18446744073709551616 ^ (i + 4) := by
  have h1 := setD_eq P (i + j) (maLo x y (lb P (i + j)) c)
  have h2 : maLo x y (lb P (i + j)) c + 18446744073709551616 * maHi x y (lb P (i + j)) c = x * y + lb P (i + j) + c := Nat.mod_add_div _ _
  have hlo : maLo x y (lb P (i + j)) c < 18446744073709551616 := Nat.mod_lt _ (by decide)
  have e1 : maHi x y (lb P (i + j)) c * 18446744073709551616 ^ (i + (j + 1)) = 18446744073709551616 * maHi x y (lb P (i + j)) c * 18446744073709551616 ^ (i + j) := by
    rw [show i + (j + 1) = i + j + 1 by omega, Nat.pow_succ, Nat.mul_comm (18446744073709551616 ^ (i + j)), ← Nat.mul_assoc, Nat.mul_comm (maHi _ _ _ _)]
  have e2 : x * (b % 18446744073709551616 ^ (j + 1)) * 18446744073709551616 ^ i = x * (b % 18446744073709551616 ^ j) * 18446744073709551616 ^ i + x * y * 18446744073709551616 ^ (i + j) := by
    rw [lb_top, ← hy, Nat.mul_add, Nat.add_mul, Nat.pow_add, Nat.mul_comm (18446744073709551616 ^ i), Nat.mul_assoc x y, Nat.mul_assoc x (y * _), Nat.mul_assoc y]
  have h3 := congrArg (· * 18446744073709551616 ^ (i + j)) h2
  simp only [Nat.add_mul] at h3
  refine ⟨by rw [e1, e2]; omega, ?_⟩
  unfold setD
  have hq : P / 18446744073709551616 ^ (i + j + 1) < 18446744073709551616 ^ (3 - j) := by
    rw [Nat.div_lt_iff_lt_mul (Nat.pow_pos (by decide)), ← Nat.pow_add, show 3 - j + (i + j + 1) = i + 4 by omega]
    exact hP
  have hm := Nat.mod_lt P (show 0 < 18446744073709551616 ^ (i + j) from Nat.pow_pos (by decide))
  have h4 : (maLo x y (lb P (i + j)) c + 1) * 18446744073709551616 ^ (i + j) ≤ 18446744073709551616 * 18446744073709551616 ^ (i + j) := Nat.mul_le_mul_right _ hlo
  have h5 : (P / 18446744073709551616 ^ (i + j + 1) + 1) * 18446744073709551616 ^ (i + j + 1) ≤ 18446744073709551616 ^ (3 - j) * 18446744073709551616 ^ (i + j + 1) := Nat.mul_le_mul_right _ hq
  rw [← Nat.pow_add, show 3 - j + (i + j + 1) = i + 4 by omega, Nat.add_mul, Nat.one_mul] at h5
  rw [Nat.add_mul, Nat.one_mul] at h4
  have e3 : 18446744073709551616 ^ (i + j + 1) = 18446744073709551616 * 18446744073709551616 ^ (i + j) := by rw [Nat.pow_succ, Nat.mul_comm]
  omega

set_option maxRecDepth 100000 in
/-- The end of a round of the outer loop. -/
theorem mul_end (P c x A a b i : Nat) (hA : A = a % 18446744073709551616 ^ i) (hx : x = lb a i) (hP : P < 18446744073709551616 ^ (i + 4)) (hb : b < 18446744073709551616 ^ 4) (h : P + c * 18446744073709551616 ^ (i + 4) = A * b + x * (b % 18446744073709551616 ^ 4) * 18446744073709551616 ^ i) :
    setD P (i + 4) c = a % 18446744073709551616 ^ (i + 1) * b := by
  have h1 := setD_eq P (i + 4) c
  have h0 : lb P (i + 4) = 0 := by
    unfold lb
    rw [Nat.div_eq_of_lt hP]
  rw [h0, Nat.zero_mul, Nat.add_zero, h, Nat.mod_eq_of_lt hb] at h1
  rw [h1, lb_top, ← hx, ← hA, Nat.add_mul]
  congr 1
  rw [Nat.mul_assoc, Nat.mul_assoc, Nat.mul_comm b]

end Go.Proofs.YtjefbfabigkeiaaDoor
namespace Go.Proofs.YtjefbfabigkeiaaDoor
open Go.RowKit

set_option maxRecDepth 100000 in
theorem idx_word (a i : Nat) (hi : i < 4) (u : World) : (Instr.index 36 (wv a) (.int .i64 (i : Nat))).run Tryd.prog u = .ok (.int .u64 (lb a i : Nat)) u := by
  match i, hi with
  | 0, _ => rfl
  | 1, _ => rfl
  | 2, _ => rfl
  | 3, _ => rfl

set_option maxRecDepth 100000 in
theorem M256_B : M256 = 18446744073709551616 ^ 4 := rfl
set_option maxRecDepth 100000 in
theorem lb_low (P i : Nat) (hi : i < 4) : lb P i = lb (P % M256) i := by
  rw [lb_mod, lb_mod, M256_B, Nat.mod_mod_of_dvd _ (Nat.pow_dvd_pow _ (by omega))]
set_option maxRecDepth 100000 in
theorem lb_high (P i : Nat) : lb P (4 + i) = lb (P / M256) i := by
  unfold lb
  rw [M256_B, Nat.pow_add, ← Nat.div_div_eq_div_mul]

/-- The product, and whether it did not fit. -/
def mulN (a b : Nat) : Nat := a * b % M256
def mulO (a b : Nat) : Bool := decide (M256 ≤ a * b)

end Go.Proofs.YtjefbfabigkeiaaDoor
namespace Go.Proofs.YtjefbfabigkeiaaDoor
open Go.ChangeShapes Go.WideShapes Go.ChangeAt Go.RowKit

set_option maxRecDepth 100000 in
/-- A word that came in. -/
theorem word_came {H : Type} {enc : TypeId × Value → H} {W : World} {base : Nat} {v : Value} {d : DataW H} {p : List MemPlace}
    (hval : Value.okWide Tryd.prog W .any base 36 v) (h : DataW.Trod enc Tryd.prog W 0 (fun _ => true) true 36 v d p) : ∃ n, n < M256 ∧ v = wv n := by
  obtain ⟨zs, hl, rfl, hz⟩ := arr_came Tryd.underlying36 Tryd.underlying24 (by kernel_rfl) (by kernel_rfl) hval h
  have hb : ∀ z ∈ zs, 0 ≤ z ∧ z ≤ 18446744073709551615 := fun z h => by simpa [Lit.wf, IntKind.min, IntKind.max, IntKind.signed, IntKind.bits] using hz z h
  match zs, hl with
  | [a, b, c, d], _ =>
    have h0 := hb a (by simp)
    have h1 := hb b (by simp)
    have h2 := hb c (by simp)
    have h3 := hb d (by simp)
    refine ⟨ofL a.toNat b.toNat c.toNat d.toNat, ofL_lt _ _ _ _ (by omega) (by omega) (by omega) (by omega), ?_⟩
    unfold wv
    rw [wc_ofL _ _ _ _ (by omega) (by omega) (by omega) (by omega)]
    simp only [lv, Int.toNat_of_nonneg h0.1, Int.toNat_of_nonneg h1.1, Int.toNat_of_nonneg h2.1, Int.toNat_of_nonneg h3.1]
    rfl

/-! ### The answers, under names that no rewriting opens -/
def notN (a : Nat) : Nat := M256 - 1 - a
def andN (a b : Nat) : Nat := a &&& b
def orN (a b : Nat) : Nat := a ||| b
def xorN (a b : Nat) : Nat := a ^^^ b
def addN (a b : Nat) : Nat := (a + b) % M256
def subN (a b : Nat) : Nat := (a + M256 - b) % M256

/-- A call that answers the word r. -/
def RetW (w : World) (r : Nat) (e : Ending) (w' : World) : Prop := e = .returned (wv r) ∧ r < M256 ∧ Ext w w'
/-- A call that answers the word r, and b. -/
def RetWB (w : World) (r : Nat) (b : Bool) (e : Ending) (w' : World) : Prop := e = .returned (.tuple #[wv r, .bool b]) ∧ r < M256 ∧ Ext w w'

set_option maxRecDepth 100000 in
theorem notN_lt (a : Nat) : notN a < M256 := by unfold notN M256; omega
set_option maxRecDepth 100000 in
theorem andN_lt (a b : Nat) (hb : b < M256) : andN a b < M256 := by unfold andN; rw [M256_pow] at *; exact Nat.and_lt_two_pow _ hb
set_option maxRecDepth 100000 in
theorem orN_lt (a b : Nat) (ha : a < M256) (hb : b < M256) : orN a b < M256 := by unfold orN; rw [M256_pow] at *; exact Nat.or_lt_two_pow ha hb
set_option maxRecDepth 100000 in
theorem xorN_lt (a b : Nat) (ha : a < M256) (hb : b < M256) : xorN a b < M256 := by unfold xorN; rw [M256_pow] at *; exact Nat.xor_lt_two_pow ha hb
set_option maxRecDepth 100000 in
theorem addN_lt (a b : Nat) : addN a b < M256 := Nat.mod_lt _ (by decide)
set_option maxRecDepth 100000 in
theorem subN_lt (a b : Nat) : subN a b < M256 := Nat.mod_lt _ (by decide)

set_option maxRecDepth 100000 in
theorem add_w (a b : Nat) (w : World) (ha : a < M256) (hb : b < M256) : Calls Tryd.prog 40 #[wv a, wv b] w (RetWB w (addN a b) (ovr a b)) := (add_any a b w ha hb).mono fun _ _ h => ⟨h.1, addN_lt a b, h.2⟩
set_option maxRecDepth 100000 in
theorem mulN_lt (a b : Nat) : mulN a b < M256 := Nat.mod_lt _ (by decide)
/-- A word, its cells written out. -/
abbrev lit (n : Nat) : Value := .agg #[.int .u64 (lb n 0 : Nat), .int .u64 (lb n 1 : Nat), .int .u64 (lb n 2 : Nat), .int .u64 (lb n 3 : Nat)]

set_option maxRecDepth 100000 in
theorem eql_yes (n m : Nat) (h : n = m) (hm : m < M256) (u : World) : (binOp .eql 36 (.agg (wc n)) (.agg (wc m))).run Tryd.prog u = .ok (.bool true) u := by
  subst h
  rw [run_eql_word n n hm hm]
  simp
set_option maxRecDepth 100000 in
theorem neq_no (n m : Nat) (h : n = m) (hm : m < M256) (u : World) : (binOp .neq 36 (.agg (wc n)) (.agg (wc m))).run Tryd.prog u = .ok (.bool false) u := by
  subst h
  rw [run_neq_word n n hm hm]
  simp

set_option maxRecDepth 100000 in
theorem of_w (x : Nat) (xi : Int) (hxi : xi = (x : Int)) (w : World) (hx : x < 18446744073709551616) : Calls Tryd.prog 38 #[.int .u64 xi] w (RetW w x) := (of_any x xi hxi w hx).mono fun _ _ h => ⟨h.1, by unfold M256; omega, h.2⟩

/-! ### What a region holds -/
/-- The four cells of a word, one by one. -/
def F4 (W : World) (g n : Nat) : Prop := W.cell? ⟨g, 0, none⟩ = some (.int .u64 (lb n 0 : Nat)) ∧ W.cell? ⟨g, 1, none⟩ = some (.int .u64 (lb n 1 : Nat)) ∧ W.cell? ⟨g, 2, none⟩ = some (.int .u64 (lb n 2 : Nat)) ∧ W.cell? ⟨g, 3, none⟩ = some (.int .u64 (lb n 3 : Nat))
set_option maxRecDepth 100000 in
theorem Wd.f4 {W : World} {g : Nat} {t : TypeId} {n : Nat} (h : Wd W g t n) : F4 W g n := h.cs.four
/-- Words that lie in memory, and what was there. -/
def Ks (w : World) (l : List (Nat × Nat)) (W : World) : Prop := (∀ x ∈ l, Wd W x.1 36 x.2) ∧ Ext w W
set_option maxRecDepth 100000 in
theorem Ks.ext {w : World} {l : List (Nat × Nat)} {W W' : World} (h : Ks w l W) (he : Ext W W') : Ks w l W' := ⟨fun x hx => (h.1 x hx).ext he, h.2.trans he⟩
set_option maxRecDepth 100000 in
theorem Ks.al {w : World} {l : List (Nat × Nat)} {W : World} (h : Ks w l W) (o : Obj) : Ks w l (W.alloc o) := h.ext ((Ext.refl W).alloc o)
set_option maxRecDepth 100000 in
theorem Ks.sub {w : World} {l : List (Nat × Nat)} {W : World} (h : Ks w l W) (l' : List (Nat × Nat)) (hs : ∀ x ∈ l', x ∈ l) : Ks w l' W := ⟨fun x hx => h.1 x (hs x hx), h.2⟩
set_option maxRecDepth 100000 in
theorem Ks.drew {w : World} {l : List (Nat × Nat)} {W : World} (h : Ks w l W) : Ks w l W.drew := h.ext (Ext.refl W).drew
set_option maxRecDepth 100000 in
theorem Ks.far {w : World} {l : List (Nat × Nat)} {W W' : World} {g : Nat} (h : Ks w l W) (hg : W.grownBy W' (some g)) (hw : w.heap.size ≤ g) (hn : ∀ x ∈ l, x.1 ≠ g) : Ks w l W' := ⟨fun x hx => (h.1 x hx).kept hg (some_ne (hn x hx)), h.2.grown hg hw⟩
set_option maxRecDepth 100000 in
theorem Ks.lt {w : World} {l : List (Nat × Nat)} {W : World} (h : Ks w l W) {g n : Nat} (hx : (g, n) ∈ l) : g < W.heap.size := (h.1 _ hx).lt
set_option maxRecDepth 100000 in
theorem Ks.at {w : World} {l : List (Nat × Nat)} {W : World} (h : Ks w l W) (g n : Nat) (hx : (g, n) ∈ l) : Wd W g 36 n := h.1 _ hx
set_option maxRecDepth 100000 in
theorem Ks.sc {w : World} {l : List (Nat × Nat)} {W : World} (h : Ks w l W) (p : Addr) (v : Value) (hw : w.heap.size ≤ p.block) (hn : ∀ x ∈ l, x.1 ≠ p.block) : Ks w l (W.setCell p v) :=
  ⟨fun x hx => (h.1 x hx).kept (row := some p.block) ⟨rfl, rfl, rfl, by simp, fun k _ hk => heap_setCell_other W p k v (fun e => hk (by simp [e]))⟩ (some_ne (hn x hx)), h.2.grown (g := p.block) ⟨rfl, rfl, rfl, by simp, fun k _ hk => heap_setCell_other W p k v (fun e => hk (by simp [e]))⟩ hw⟩
set_option maxRecDepth 100000 in
theorem Ks.fresh {w : World} {l : List (Nat × Nat)} {W : World} (h : Ks w l W) : ∀ x ∈ l, x.1 ≠ W.heap.size := fun x hx => Nat.ne_of_lt (h.1 x hx).lt
/-- A word's block that is nought. -/
def Zb (W : World) (g : Nat) : Prop := Cs W g 36 (wc 0)
set_option maxRecDepth 100000 in
theorem Zb.new (W : World) : Zb (W.alloc (.cells #[.int .u64 0, .int .u64 0, .int .u64 0, .int .u64 0] 36)) W.heap.size := Cs.new _ _ _ _ rfl
set_option maxRecDepth 100000 in
theorem Zb.ext {W W' : World} {g : Nat} (h : Zb W g) (he : Ext W W') : Zb W' g := Cs.ext h he
set_option maxRecDepth 100000 in
theorem Zb.al {W : World} {g : Nat} (h : Zb W g) (o : Obj) : Zb (W.alloc o) g := Cs.alloc h o
set_option maxRecDepth 100000 in
theorem Zb.drew {W : World} {g : Nat} (h : Zb W g) : Zb W.drew g := h
set_option maxRecDepth 100000 in
theorem Zb.c0 {W : World} {g : Nat} (h : Zb W g) : W.cell? ⟨g, 0, none⟩ = some (.int .u64 0) := Cs.cell h 0 _ rfl
set_option maxRecDepth 100000 in
theorem Zb.c1 {W : World} {g : Nat} (h : Zb W g) : W.cell? ⟨g, 1, none⟩ = some (.int .u64 0) := Cs.cell h 1 _ rfl
set_option maxRecDepth 100000 in
theorem Zb.c2 {W : World} {g : Nat} (h : Zb W g) : W.cell? ⟨g, 2, none⟩ = some (.int .u64 0) := Cs.cell h 2 _ rfl
set_option maxRecDepth 100000 in
theorem Zb.c3 {W : World} {g : Nat} (h : Zb W g) : W.cell? ⟨g, 3, none⟩ = some (.int .u64 0) := Cs.cell h 3 _ rfl
set_option maxRecDepth 100000 in
theorem Zb.f {W : World} {g : Nat} (h : Zb W g) (i : Nat) : W.frozen? ⟨g, i, none⟩ = false := Cs.frozen h i
set_option maxRecDepth 100000 in
theorem Zb.sc {W : World} {g : Nat} (h : Zb W g) (p : Addr) (v : Value) (hn : ¬ p.block = g) : Zb (W.setCell p v) g := Cs.kept (row := some p.block) h ⟨rfl, rfl, rfl, by simp, fun k _ hk => heap_setCell_other W p k v (fun e => hk (by simp [e]))⟩ (some_ne (fun e => hn e.symm))
set_option maxRecDepth 100000 in
theorem Wd.sc {W : World} {g n : Nat} {t : TypeId} (h : Wd W g t n) (p : Addr) (v : Value) (hn : ¬ p.block = g) : Wd (W.setCell p v) g t n := Wd.kept (row := some p.block) h ⟨rfl, rfl, rfl, by simp, fun k _ hk => heap_setCell_other W p k v (fun e => hk (by simp [e]))⟩ (some_ne (fun e => hn e.symm))
set_option maxRecDepth 100000 in
theorem Wd.al {W : World} {g n : Nat} {t : TypeId} (h : Wd W g t n) (o : Obj) : Wd (W.alloc o) g t n := Cs.alloc h o
set_option maxRecDepth 100000 in
theorem Zb.laid {W : World} {g : Nat} (h : Zb W g) (n : Nat) : Wd ((((W.setCell ⟨g, 0, none⟩ (.int .u64 (lb n 0 : Nat))).setCell ⟨g, 1, none⟩ (.int .u64 (lb n 1 : Nat))).setCell ⟨g, 2, none⟩ (.int .u64 (lb n 2 : Nat))).setCell ⟨g, 3, none⟩ (.int .u64 (lb n 3 : Nat))) g 36 n :=
  (((Cs.set h 0 _).set 1 _).set 2 _).set 3 _

set_option maxRecDepth 100000 in
/-- A new word is laid. -/
theorem Ks.put {w : World} {l : List (Nat × Nat)} {W W' : World} {o : Obj} {n : Nat} (h : Ks w l W) (hg : (W.alloc o).grownBy W' (some W.heap.size)) (k : Wd W' W.heap.size 36 n) : Ks w ((W.heap.size, n) :: l) W' :=
  ⟨fun x hx => by
    rcases List.mem_cons.1 hx with rfl | hx
    · exact k
    · exact ((h.1 x hx).cs.alloc o).kept hg (some_ne (Nat.ne_of_lt (h.1 x hx).lt)), (h.2.alloc o).grown hg h.2.size⟩
set_option maxRecDepth 100000 in
/-- Two new words are laid. -/
theorem Ks.put2 {w : World} {l : List (Nat × Nat)} {W W1 W2 : World} {o o' : Obj} {n m : Nat} (h : Ks w l W) (hg : ((W.alloc o).alloc o').grownBy W1 (some W.heap.size)) (k : Wd W1 W.heap.size 36 n) (hg2 : W1.grownBy W2 (some (W.heap.size + 1))) (k2 : Wd W2 (W.heap.size + 1) 36 m) : Ks w ((W.heap.size, n) :: (W.heap.size + 1, m) :: l) W2 :=
  ⟨fun x hx => by
    rcases List.mem_cons.1 hx with rfl | hx
    · exact k.kept hg2 (some_ne (by simp))
    · rcases List.mem_cons.1 hx with rfl | hx
      · exact k2
      · have := (h.1 x hx).lt
        exact ((((h.1 x hx).cs.alloc o).alloc o').kept hg (some_ne (by omega))).kept hg2 (some_ne (by omega)), (((h.2.alloc o).alloc o').grown hg h.2.size).grown hg2 (by have := h.2.size; omega)⟩
set_option maxRecDepth 100000 in
theorem Ks.cons {w : World} {l : List (Nat × Nat)} {W : World} (h : Ks w l W) {g n : Nat} (hg : Wd W g 36 n) : Ks w ((g, n) :: l) W := ⟨fun x hx => by rcases List.mem_cons.1 hx with rfl | hx; exact hg; exact h.1 x hx, h.2⟩

set_option maxRecDepth 100000 in
theorem Ks.two {w : World} {l : List (Nat × Nat)} {W : World} {g n g' n' : Nat} (h : Ks w l W) (h1 : Wd W g 36 n) (h2 : Wd W g' 36 n') : Ks w ((g, n) :: (g', n') :: l) W := (h.cons h2).cons h1

end Go.Proofs.YtjefbfabigkeiaaDoor
