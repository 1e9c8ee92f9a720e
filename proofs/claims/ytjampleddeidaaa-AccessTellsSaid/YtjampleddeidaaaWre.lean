/- Contracts of package word: the small functions below the others. Contracts of package word: sums and differences. Contracts of package word: what is done bit by bit. Contracts of package word: Of, Small, Cmp; words that are the same. -/
import Derived.Test.YtjampleddeidaaaRows
import Derived.Test.YtjampleddeidaaaWra
import Derived.RegionTactic
import Derived.Deep.QuietTactic
import Derived.BigQuiet
import Derived.Outline
import Derived.Laws.BitsAllLaws
import Derived.Shelf.Spec.BitsCarry
import Derived.ChangeKeysEq
import Derived.Laws.StructEq
import Derived.Deep.RegionHeld3
namespace Go.Proofs.Ytjampleddeidaaa
open Go.RowKit

set_option maxRecDepth 100000 in
theorem winfo : (Try.prog.info? 30).map (·.size) = some 4 := by kernel_rfl

/-- The four cells of which the first k are f's, the others nought. -/
def partC (f : Nat → Nat) (k : Nat) : Array Value := ((List.range 4).map fun i => lv (if i < k then f i else 0)).toArray

set_option maxRecDepth 100000 in
theorem partC_zero (f : Nat → Nat) : partC f 0 = #[.int .u64 0, .int .u64 0, .int .u64 0, .int .u64 0] := rfl
set_option maxRecDepth 100000 in
theorem partC_size (f : Nat → Nat) (k : Nat) : (partC f k).size = 4 := rfl
set_option maxRecDepth 100000 in
theorem partC_four (f : Nat → Nat) : partC f 4 = #[lv (f 0), lv (f 1), lv (f 2), lv (f 3)] := rfl
set_option maxRecDepth 100000 in
theorem partC_step (f : Nat → Nat) (k : Nat) (h : k < 4) : (partC f k).setIfInBounds k (lv (f k)) = partC f (k + 1) := by
  match k, h with
  | 0, _ => rfl
  | 1, _ => rfl
  | 2, _ => rfl
  | 3, _ => rfl
set_option maxRecDepth 100000 in
theorem partC_get (f : Nat → Nat) (k i : Nat) (h : i < 4) : (partC f k)[i]? = some (lv (if i < k then f i else 0)) := by
  match i, h with
  | 0, _ => rfl
  | 1, _ => rfl
  | 2, _ => rfl
  | 3, _ => rfl

end Go.Proofs.Ytjampleddeidaaa
namespace Go.Proofs.Ytjampleddeidaaa
open Go.RowKit

set_option maxRecDepth 100000 in
theorem ret_int {k : IntKind} {a b : Int} (h : a = b) : Ending.returned (.int k a) = .returned (.int k b) := by rw [h]

/-- The carry into the place i. -/
def cry (a b : Nat) : Nat → Nat
  | 0 => 0
  | i + 1 => (lb a i + lb b i + cry a b i) / 18446744073709551616
set_option maxRecDepth 100000 in
theorem cry_le (a b i : Nat) : cry a b i ≤ 1 := by
  induction i with
  | zero => exact Nat.zero_le _
  | succ i ih =>
    have h1 := lb_lt a i
    have h2 := lb_lt b i
    unfold cry
    omega
set_option maxRecDepth 100000 in
theorem add_limbs (a b : Nat) (ha : a < M256) (hb : b < M256) : (∀ i, i < 4 → (lb a i + lb b i + cry a b i) % 18446744073709551616 = lb ((a + b) % M256) i) ∧ cry a b 4 = (a + b) / M256 := by
  have hr : ∀ i, (lb a i + lb b i + cry a b i) % 18446744073709551616 < 18446744073709551616 := fun i => Nat.mod_lt _ (by decide)
  have e : ∀ i, lb a i + lb b i + cry a b i = (lb a i + lb b i + cry a b i) % 18446744073709551616 + 18446744073709551616 * cry a b (i + 1) := fun i => (Nat.mod_add_div _ _).symm
  have hc := chain _ _ _ _ _ _ _ _ _ _ _ _ _ _ _ _ _ (e 0) (e 1) (e 2) (e 3)
  have hl := lb_ofL _ _ _ _ (hr 0) (hr 1) (hr 2) (hr 3)
  have ht := ofL_lt _ _ _ _ (hr 0) (hr 1) (hr 2) (hr 3)
  rw [ofL_lb a ha, ofL_lb b hb] at hc
  have hc : a + b + 0 = _ := hc
  rw [Nat.add_zero] at hc
  clear e hr
  rw [hc, Nat.add_mul_mod_self_left, Nat.mod_eq_of_lt ht, Nat.add_mul_div_left _ _ (by decide), Nat.div_eq_of_lt ht]
  refine ⟨fun i hi => ?_, by simp⟩
  match i, hi with
  | 0, _ => exact hl.1.symm
  | 1, _ => exact hl.2.1.symm
  | 2, _ => exact hl.2.2.1.symm
  | 3, _ => exact hl.2.2.2.symm

/-- Whether a sum did not fit. -/
def ovr (a b : Nat) : Bool := decide (M256 ≤ a + b)
set_option maxRecDepth 100000 in
theorem ovr_cry (a b : Nat) (ha : a < M256) (hb : b < M256) : (((cry a b 4 : Nat) : Int) != 0) = ovr a b := by
  rw [(add_limbs a b ha hb).2]
  unfold ovr
  rw [Bool.eq_iff_iff]
  simp
  unfold M256 at *
  omega

/-- What is borrowed where y is taken from x. -/
def bor (x y : Nat) : Nat := if x < y then 1 else 0
set_option maxRecDepth 100000 in
theorem bor_le (x y : Nat) : bor x y ≤ 1 := by unfold bor; split <;> omega

/-- What is borrowed from the place i. -/
def brw (a b : Nat) : Nat → Nat
  | 0 => 0
  | i + 1 => bor (lb a i) (lb b i + brw a b i)
set_option maxRecDepth 100000 in
theorem brw_le (a b i : Nat) : brw a b i ≤ 1 := by
  cases i with
  | zero => exact Nat.zero_le _
  | succ i => exact bor_le _ _
set_option maxRecDepth 100000 in
theorem sub_step (x y c : Nat) (hx : x < 18446744073709551616) (hy : y < 18446744073709551616) (hc : c ≤ 1) : (x + 18446744073709551616 - y - c) % 18446744073709551616 + y + c = x + 18446744073709551616 * bor x (y + c) := by
  unfold bor
  split <;> omega
set_option maxRecDepth 100000 in
theorem sub_limbs (a b : Nat) (ha : a < M256) (hb : b < M256) : (∀ i, i < 4 → (lb a i + 18446744073709551616 - lb b i - brw a b i) % 18446744073709551616 = lb ((a + M256 - b) % M256) i) ∧ brw a b 4 = bor a b := by
  have hr : ∀ i, (lb a i + 18446744073709551616 - lb b i - brw a b i) % 18446744073709551616 < 18446744073709551616 := fun i => Nat.mod_lt _ (by decide)
  have e : ∀ i, (lb a i + 18446744073709551616 - lb b i - brw a b i) % 18446744073709551616 + lb b i + brw a b i = lb a i + 18446744073709551616 * brw a b (i + 1) := fun i => sub_step _ _ _ (lb_lt _ _) (lb_lt _ _) (brw_le _ _ _)
  have hc := chain _ _ _ _ _ _ _ _ _ _ _ _ _ _ _ _ _ (e 0) (e 1) (e 2) (e 3)
  have hl := lb_ofL _ _ _ _ (hr 0) (hr 1) (hr 2) (hr 3)
  have ht := ofL_lt _ _ _ _ (hr 0) (hr 1) (hr 2) (hr 3)
  rw [ofL_lb a ha, ofL_lb b hb] at hc
  have hc : _ + b + 0 = _ := hc
  rw [Nat.add_zero, show brw a b (3 + 1) = brw a b 4 from rfl] at hc
  have hb4 := brw_le a b 4
  clear e hr
  generalize brw a b 4 = z at *
  generalize hR : ofL ((lb a 0 + 18446744073709551616 - lb b 0 - brw a b 0) % 18446744073709551616) ((lb a 1 + 18446744073709551616 - lb b 1 - brw a b 1) % 18446744073709551616) ((lb a 2 + 18446744073709551616 - lb b 2 - brw a b 2) % 18446744073709551616) ((lb a 3 + 18446744073709551616 - lb b 3 - brw a b 3) % 18446744073709551616) = R at *
  have hmod : (a + M256 - b) % M256 = R ∧ z = bor a b := by
    unfold bor M256 at *
    split <;> omega
  rw [hmod.1]
  refine ⟨fun i hi => ?_, hmod.2⟩
  match i, hi with
  | 0, _ => exact hl.1.symm
  | 1, _ => exact hl.2.1.symm
  | 2, _ => exact hl.2.2.1.symm
  | 3, _ => exact hl.2.2.2.symm

/-- Whether b is greater than a. -/
def und (a b : Nat) : Bool := decide (a < b)
set_option maxRecDepth 100000 in
theorem und_brw (a b : Nat) (ha : a < M256) (hb : b < M256) : (((brw a b 4 : Nat) : Int) != 0) = und a b := by
  rw [(sub_limbs a b ha hb).2]
  unfold und bor
  by_cases h : a < b <;> simp [h]

end Go.Proofs.Ytjampleddeidaaa
namespace Go.Proofs.Ytjampleddeidaaa
open Go.RowKit

set_option maxRecDepth 100000 in
theorem lb_and (a b i : Nat) : lb (a &&& b) i = lb a i &&& lb b i := by
  unfold lb
  rw [show (18446744073709551616 : Nat) = 2 ^ 64 from rfl, ← Nat.pow_mul, Nat.and_div_two_pow, Nat.and_mod_two_pow]
set_option maxRecDepth 100000 in
theorem lb_xor (a b i : Nat) : lb (a ^^^ b) i = lb a i ^^^ lb b i := by
  unfold lb
  rw [show (18446744073709551616 : Nat) = 2 ^ 64 from rfl, ← Nat.pow_mul, Nat.xor_div_two_pow, Nat.xor_mod_two_pow]
set_option maxRecDepth 100000 in
theorem lb_not (a i : Nat) (hi : i < 4) (ha : a < M256) : lb (M256 - 1 - a) i = 18446744073709551615 - lb a i := by
  have hl := ofL_lb a ha
  have h0 := lb_lt a 0
  have h1 := lb_lt a 1
  have h2 := lb_lt a 2
  have h3 := lb_lt a 3
  have e : M256 - 1 - a = ofL (18446744073709551615 - lb a 0) (18446744073709551615 - lb a 1) (18446744073709551615 - lb a 2) (18446744073709551615 - lb a 3) := by
    unfold ofL M256 at *
    omega
  have hb := lb_ofL (18446744073709551615 - lb a 0) (18446744073709551615 - lb a 1) (18446744073709551615 - lb a 2) (18446744073709551615 - lb a 3) (by omega) (by omega) (by omega) (by omega)
  rw [← e] at hb
  match i, hi with
  | 0, _ => exact hb.1
  | 1, _ => exact hb.2.1
  | 2, _ => exact hb.2.2.1
  | 3, _ => exact hb.2.2.2
set_option maxRecDepth 100000 in
theorem M256_pow : M256 = 2 ^ 256 := rfl

set_option maxRecDepth 100000 in
theorem xor_all (x : Nat) (hx : x < 18446744073709551616) : 18446744073709551615 ^^^ x = 18446744073709551615 - x := by
  have h := congrArg BitVec.toNat (BitVec.allOnes_xor (x := BitVec.ofNat 64 x))
  rw [BitVec.toNat_xor, BitVec.toNat_not, BitVec.toNat_allOnes, BitVec.toNat_ofNat, Nat.mod_eq_of_lt hx] at h
  exact h

end Go.Proofs.Ytjampleddeidaaa
namespace Go.Proofs.Ytjampleddeidaaa
open Go.RowKit

set_option maxRecDepth 100000 in
theorem wu_info : ∃ i, Try.prog.info? 27 = some i := ⟨_, rfl⟩
set_option maxRecDepth 100000 in
theorem wu_cells : Try.prog.cellsOf 27 = 1 := by kernel_rfl
set_option maxRecDepth 100000 in
theorem wu_plain : Try.prog.plainKey 27 = true := by kernel_rfl

set_option maxRecDepth 100000 in
theorem run_part_word (n i : Nat) (hi : i < 4) (w : World) : (part 27 (wc n) (i * 1)).run Try.prog w = .ok (lv (lb n i)) w := by
  rw [Nat.mul_one]
  exact run_part_plain w wu_plain (wc_get n i hi)

set_option maxRecDepth 100000 in
theorem run_eqItems_word (a b : Nat) (w : World) : ∀ is : List Nat, (∀ i ∈ is, i < 4) → (Op.eqItems 9999 27 1 (wc a) (wc b) is).run Try.prog w = .ok (is.all fun i => lb a i == lb b i) w
  | [], _ => by simp [Op.eqItems]
  | i :: is, h => by
    have ih := run_eqItems_word a b w is (fun j hj => h j (List.mem_cons_of_mem _ hj))
    simp only [Op.eqItems, Sem.run_bind, run_part_word a i (h i List.mem_cons_self), run_part_word b i (h i List.mem_cons_self), Result.andThen_ok, lv, run_equalIn_int w 9998 _ _ _ _ _ Try.underlying27]
    by_cases hb : lb a i = lb b i
    · have : ((lb a i : Int) == (lb b i : Int)) = true := by simp [hb]
      rw [this]
      simp [ih, hb]
    · have : ((lb a i : Int) == (lb b i : Int)) = false := by simp; omega
      rw [this]
      simp [hb]

set_option maxRecDepth 100000 in
theorem all_lb (a b : Nat) (ha : a < M256) (hb : b < M256) : ((List.range 4).all fun i => lb a i == lb b i) = (a == b) := by
  rw [Bool.eq_iff_iff]
  simp only [List.all_eq_true, List.mem_range, beq_iff_eq]
  constructor
  · exact lb_inj a b ha hb
  · rintro rfl i _
    rfl

set_option maxRecDepth 100000 in
theorem run_eql_word (a b : Nat) (ha : a < M256) (hb : b < M256) (w : World) : (binOp .eql 30 (.agg (wc a)) (.agg (wc b))).run Try.prog w = .ok (.bool (a == b)) w := by
  obtain ⟨i, hi⟩ := wu_info
  have h := run_equalIn_array w 9999 (wc a) (wc b) Try.underlying30 hi
  rw [wu_cells, run_eqItems_word a b w (List.range 4) (fun i hi => List.mem_range.1 hi), all_lb a b ha hb] at h
  simp only [binOp]
  simp [Op.equal, Op.maxDepth, h]
set_option maxRecDepth 100000 in
theorem run_neq_word (a b : Nat) (ha : a < M256) (hb : b < M256) (w : World) : (binOp .neq 30 (.agg (wc a)) (.agg (wc b))).run Try.prog w = .ok (.bool (a != b)) w := by
  obtain ⟨i, hi⟩ := wu_info
  have h := run_equalIn_array w 9999 (wc a) (wc b) Try.underlying30 hi
  rw [wu_cells, run_eqItems_word a b w (List.range 4) (fun i hi => List.mem_range.1 hi), all_lb a b ha hb] at h
  simp only [binOp]
  simp [Op.equal, Op.maxDepth, h, bne]
set_option maxRecDepth 100000 in
theorem word_guard : Try.prog.eqGuardType Try.prog.depth 30 = false := by kernel_rfl
set_option maxRecDepth 100000 in
theorem run_guard_eql (x y : Operand) (a b : Nat) (w : World) : (eqGuard .eql 30 x y (.agg (wc a)) (.agg (wc b))).run Try.prog w = .ok () w := by
  unfold eqGuard
  simp
set_option maxRecDepth 100000 in
theorem run_guard_neq (x y : Operand) (a b : Nat) (w : World) : (eqGuard .neq 30 x y (.agg (wc a)) (.agg (wc b))).run Try.prog w = .ok () w := by
  unfold eqGuard
  simp

set_option maxRecDepth 100000 in
/-- Two words are compared. -/
theorem wpList_eql_word {ops : Array Oper} {rest : List Oper} {o : Oper} {a : Act} {w : World} {Q : Exit → Act → World → Prop} (hgd : Region.wanted o (yielded ops a.tmps) = true) (x y : Operand) (ho : o.op = .binOp .eql 30 x y 30)
    (n m : Nat) (hn : n < M256) (hm : m < M256) (hx : a.eval x = wv n) (hy : a.eval y = wv m) (h : wpList Try.prog ops Q rest (a.put o.dst (.bool (n == m))) w) : wpList Try.prog ops Q (o :: rest) a w := by
  refine wpList_step fun K hK => ?_
  rw [if_pos hgd]
  unfold Oper.wp
  simp only [execOp, ho, hx, hy, wv, Sem.run_bind, run_guard_eql, Result.andThen_ok, run_eql_word n m hn hm]
  exact hK _ _ h
set_option maxRecDepth 100000 in
theorem wpList_neq_word {ops : Array Oper} {rest : List Oper} {o : Oper} {a : Act} {w : World} {Q : Exit → Act → World → Prop} (hgd : Region.wanted o (yielded ops a.tmps) = true) (x y : Operand) (ho : o.op = .binOp .neq 30 x y 30)
    (n m : Nat) (hn : n < M256) (hm : m < M256) (hx : a.eval x = wv n) (hy : a.eval y = wv m) (h : wpList Try.prog ops Q rest (a.put o.dst (.bool (n != m))) w) : wpList Try.prog ops Q (o :: rest) a w := by
  refine wpList_step fun K hK => ?_
  rw [if_pos hgd]
  unfold Oper.wp
  simp only [execOp, ho, hx, hy, wv, Sem.run_bind, run_guard_neq, Result.andThen_ok, run_neq_word n m hn hm]
  exact hK _ _ h

set_option maxRecDepth 100000 in
theorem wc_small (x : Nat) (hx : x < 18446744073709551616) : wc x = #[.int .u64 (x : Nat), .int .u64 0, .int .u64 0, .int .u64 0] := by
  have h := wc_ofL x 0 0 0 hx (by decide) (by decide) (by decide)
  rw [show ofL x 0 0 0 = x by unfold ofL; omega] at h
  rw [h]
  rfl

set_option maxRecDepth 100000 in
theorem Ext.drewN {a w : World} (h : Ext a w) (n : Nat) : Ext a (w.drewN n) := ⟨h.os, h.tape, h.output, h.size, fun i hi => Below.block h i hi⟩
set_option maxRecDepth 100000 in
theorem Wd.drewN {w : World} {g : Nat} {t : TypeId} {n : Nat} (h : Wd w g t n) (k : Nat) : Wd (w.drewN k) g t n := h
set_option maxRecDepth 100000 in
theorem Cs.drewN {w : World} {g : Nat} {t : TypeId} {cs : Array Value} (h : Cs w g t cs) (k : Nat) : Cs (w.drewN k) g t cs := h
set_option maxRecDepth 100000 in
theorem quiet_left {P : Program} {f : FuncId} {args : Array Value} {w : World} {n : Nat} {v : Value}
    (h : Calls P f args (w.drewN n) fun e w' => e = .returned v ∧ w.drewN n = w') : Calls P f args (w.drewN n) fun e w'' => e = .returned v ∧ ∃ m, w'' = w.drewN m :=
  h.mono fun _ _ ⟨he, hm⟩ => ⟨he, n, hm.symm⟩

/-- -1, 0, 1. -/
def cmpN (a b : Nat) : Int := if a < b then -1 else if b < a then 1 else 0

set_option maxRecDepth 100000 in
set_option maxHeartbeats 400000 in
theorem compare_any (x y : Nat) (w : World) (_hx : x < 18446744073709551616) (_hy : y < 18446744073709551616) :
    Calls Try.prog 61 #[.int .u64 (x : Nat), .int .u64 (y : Nat)] w fun e w' => e = .returned (.int .i64 (cmpN x y)) ∧ w = w' := by
  go_enter Try.func61, Try.ntmps61
  go_wp2
  all_goals
    go_ret
    refine ⟨ret_int ?_, rfl⟩
    unfold cmpN
    split <;> (try split) <;> omega

set_option maxRecDepth 100000 in
/-- How a and b stand, from the limb k - 1 down. -/
theorem cmp_down (a b k : Nat) (hk : 0 < k) (hk4 : k ≤ 4) (ha : a < 18446744073709551616 ^ k) (hb : b < 18446744073709551616 ^ k) : cmpN a b = if cmpN (lb a (k - 1)) (lb b (k - 1)) = 0 then cmpN (a % 18446744073709551616 ^ (k - 1)) (b % 18446744073709551616 ^ (k - 1)) else cmpN (lb a (k - 1)) (lb b (k - 1)) := by
  unfold lb cmpN
  match k, hk, hk4 with
  | 1, _, _ => simp at *; (repeat' split) <;> omega
  | 2, _, _ => simp at *; (repeat' split) <;> omega
  | 3, _, _ => simp at *; (repeat' split) <;> omega
  | 4, _, _ => simp at *; (repeat' split) <;> omega

set_option maxRecDepth 100000 in
set_option maxHeartbeats 400000 in
theorem cmp_any (a b : Nat) (w : World) (ha : a < M256) (hb : b < M256) :
    Calls Try.prog 46 #[wv a, wv b] w fun e w' => e = .returned (.int .i64 (cmpN a b)) ∧ Ext w w' := by
  have ha4 : a < 18446744073709551616 ^ 4 := ha
  have hb4 : b < 18446744073709551616 ^ 4 := hb
  clear ha hb
  unfold wv
  go_enter Try.func46, Try.ntmps46
  go_wp2
  have k0 : Wd ((w.alloc (.cells (wc a) 30)).alloc (.cells (wc b) 30)) w.heap.size 30 a := (Cs.new w _ _ _ rfl).alloc _
  have k1 : Wd ((w.alloc (.cells (wc a) 30)).alloc (.cells (wc b) 30)) (w.heap.size + 1) 30 b := Cs.new _ _ _ _ (by simp)
  have HE : Hid (Ext w ((w.alloc (.cells (wc a) 30)).alloc (.cells (wc b) 30))) := ((Ext.refl w).alloc _).alloc _
  generalize ((w.alloc (.cells (wc a) 30)).alloc (.cells (wc b) 30)) = w1 at *
  go_loopw [5] (fun i wr => ∃ k : Nat, k ≤ 4 ∧ i = .int .i64 ((k : Int) - 1) ∧ Wd wr w.heap.size 30 a ∧ Wd wr (w.heap.size + 1) 30 b ∧ Hid (Ext w wr) ∧ Hid (cmpN a b = cmpN (a % 18446744073709551616 ^ k) (b % 18446744073709551616 ^ k))) (fun i _ => (intOf i + 1).toNat)
  case atStart =>
    refine ⟨4, by omega, rfl, k0, k1, HE, ?_⟩
    show _ = _
    rw [Nat.mod_eq_of_lt ha4, Nat.mod_eq_of_lt hb4]
  case round =>
    obtain ⟨k, hk, rfl, h0, h1, HX, HC⟩ := hrel
    clear k0 k1 HE ha4 hb4
    by_cases hlt : 0 < k
    · obtain ⟨j, rfl⟩ : ∃ j, k = j + 1 := ⟨k - 1, by omega⟩
      rw [show ((j + 1 : Nat) : Int) - 1 = (j : Int) by omega]
      have c0 := h0.cell j (by omega)
      have c1 := h1.cell j (by omega)
      have hi1 : (0 : Int) ≤ (j : Int) := by omega
      have hi2 : (j : Int) < 4 := by omega
      have hd := cmp_down (a % 18446744073709551616 ^ (j + 1)) (b % 18446744073709551616 ^ (j + 1)) (j + 1) (by omega) hk (Nat.mod_lt _ (Nat.pow_pos (by decide))) (Nat.mod_lt _ (Nat.pow_pos (by decide)))
      have hl : ∀ n, lb (n % 18446744073709551616 ^ (j + 1)) j = lb n j := by
        intro n
        unfold lb
        rw [Nat.pow_succ, Nat.mod_mul_right_div_self, Nat.mod_mod]
      have hm : ∀ n, n % 18446744073709551616 ^ (j + 1) % 18446744073709551616 ^ j = n % 18446744073709551616 ^ j := fun n => Nat.mod_mod_of_dvd _ (Nat.pow_dvd_pow _ (by omega))
      rw [Nat.add_sub_cancel, hl, hl, hm, hm] at hd
      have HD := Lib.hid (HC.out.trans hd)
      clear hd hl hm HC
      have bx := lb_lt a j
      have by' := lb_lt b j
      generalize lb a j = x at *
      generalize lb b j = y at *
      go_wp2
      go_quiet ((go_at_call 61; exact quiet_left (compare_any x y _ bx by')))
      go_wp2
      · go_ret
        have hne : (cmpN x y != 0) = true := by assumption
        refine ⟨ret_int ?_, HX.out.drewN nq⟩
        rw [HD.out, if_neg (by simpa using hne)]
      · have hne : (cmpN x y != 0) = false := by assumption
        refine ⟨⟨j, by omega, rfl, h0, h1, HX.out.drewN nq, ?_⟩, by simp [intOf]⟩
        show _ = _
        rw [HD.out, if_pos (by simpa using hne)]
    · obtain rfl : k = 0 := by omega
      have HC' := Lib.hid (show cmpN a b = 0 by rw [HC.out]; simp [cmpN, Nat.mod_one])
      clear HC
      go_wp2
      go_ret
      exact ⟨ret_int HC'.out.symm, HX.out⟩


/-- Whether the number is below 2^64. -/
def isSmall (n : Nat) : Bool := decide (n < 18446744073709551616)
/-- The number, if it is below 2^64, else 0. -/
def smallN (n : Nat) : Nat := if n < 18446744073709551616 then n else 0

end Go.Proofs.Ytjampleddeidaaa
