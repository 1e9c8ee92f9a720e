/- Put together: Contracts of package word: the small functions below the others, Contracts of package word: sums and differences, Contracts of package word: what is done bit by bit, Contracts of package word: Of, Small, Cmp; words that are the same, The bits of a word, told from the highest one on: the function over which Div, Bytes and Text range, Words in memory, within a fence; and the contract of Div, Div is the division of numbers, Contract of Bytes: a row that a loop over bits collects, Contract of Text: digits that a loop over bits collects, Contracts of package word: products, Contract of Mul. -/
import Derived.Test.YthjmjccggkejhaaDoorRows
import Derived.Test.YthjmjccggkejhaaDoorWra
import Derived.RegionTactic
import Derived.Deep.QuietTactic
import Derived.BigQuiet
import Derived.Outline
import Derived.Laws.BitsAllLaws
import Derived.Shelf.Spec.BitsCarry
import Derived.ChangeKeysEq
import Derived.Laws.StructEq
import Derived.Deep.RegionHeld3
import Derived.RangeFuncNested
import Derived.RangeFuncBound
import Derived.RangeFuncCalls
import Derived.RangeFuncLeaves
import Derived.RangeFuncWrites
import Derived.Shelf.Abstract
import Derived.Shelf.RegionOpen
import Derived.OwnWalkIn
import Derived.TacticsInMore
import Derived.LoopNIn
import Derived.LoopIn
import Derived.Test.YthjmjccggkejhaaDoorMga
import Derived.RangeFuncBox
import Derived.Maps.AppendAt
import Derived.Shelf.Bytes.SlSmallAll
import Derived.WalkSpells
import Derived.Lib.SliceRun
import Derived.Lib.Mul64
import Derived.Laws.Bits64b
namespace Go.Proofs.YthjmjccggkejhaaDoor
open Go.RowKit

set_option maxRecDepth 100000 in
theorem winfo : (Tryd.prog.info? 64).map (·.size) = some 4 := by kernel_rfl

set_option maxRecDepth 100000 in
set_option maxHeartbeats 400000 in
theorem with_or (n p x : Nat) (pi xi : Int) (hpi : pi = (p : Int)) (hxi : xi = (x : Int)) (w : World) (hp : p < 256) (hx64 : x * 2 ^ (p % 64) < 18446744073709551616) :
    Calls Tryd.prog 80 #[wv n, .int .i64 pi, .int .u64 xi] w fun e w' => e = .returned (wv (n ||| x * 2 ^ p)) ∧ Ext w w' := by
  subst hpi
  subst hxi
  have hadd := wc_or n (p / 64) (x * 2 ^ (p % 64)) (by omega) hx64
  have hval : x * 2 ^ (p % 64) * 18446744073709551616 ^ (p / 64) = x * 2 ^ p := by
    rw [show (18446744073709551616 : Nat) = 2 ^ 64 from rfl, ← Nat.pow_mul, Nat.mul_assoc, ← Nat.pow_add]
    congr 2
    omega
  rw [hval] at hadd
  have HA := Lib.hid hadd
  have HI := Lib.hid (show bits BinOp.or IntKind.u64 ((lb n (p / 64) : Nat) : Int) (IntKind.u64.wrap ((x : Int) * 2 ^ (p % 64))) = ((lb n (p / 64) ||| x * 2 ^ (p % 64) : Nat) : Int) by
    rw [show ((x : Int) * 2 ^ (p % 64)) = ((x * 2 ^ (p % 64) : Nat) : Int) by simp, IntWalk.u64_in _ (by omega), u64_or_nat _ _ (lb_lt _ _) hx64])
  have hx : x < 18446744073709551616 := by
    have : x * 1 ≤ x * 2 ^ (p % 64) := Nat.mul_le_mul_left _ (Nat.one_le_two_pow)
    omega
  clear hadd hval hx64
  unfold wv
  go_enter Tryd.func80, Tryd.ntmps80
  go_wp2
  have hwd : Wd ((w.alloc (.cells (wc n) 64)).alloc (.cells #[.int .u64 0, .int .u64 0, .int .u64 0, .int .u64 0] 64)) w.heap.size 64 n := heap_alloc2_old _ _ _
  have hcs : Cs ((w.alloc (.cells (wc n) 64)).alloc (.cells #[.int .u64 0, .int .u64 0, .int .u64 0, .int .u64 0] 64)) (w.heap.size + 1) 64 (wc 0) := heap_alloc2_new _ _ _
  have hc := hwd.cell (p / 64) (by omega)
  have hf := hwd.frozen (p / 64)
  have hg : w.grownBy ((w.alloc (.cells (wc n) 64)).alloc (.cells #[.int .u64 0, .int .u64 0, .int .u64 0, .int .u64 0] 64)) none := grown_alloc (grown_alloc (World.grownBy.refl _ _) _) _
  have HG := Lib.hid hg
  clear hg
  generalize ((w.alloc (.cells (wc n) 64)).alloc (.cells #[.int .u64 0, .int .u64 0, .int .u64 0, .int .u64 0] 64)) = w1 at *
  have h1 : (0 : Int) ≤ (p : Int) / 64 := by omega
  have h2 : (p : Int) / 64 < 4 := by omega
  have h3 : (0 : Int) ≤ (p : Int) % 64 := by omega
  have h4 : (p : Int) % 64 < 64 := by omega
  have hb := lb_lt n (p / 64)
  go_region
  rw [HI.out]
  have hs : Wd (w1.setCell ⟨w.heap.size, p / 64, none⟩ (lv (lb n (p / 64) ||| x * 2 ^ (p % 64)))).drew w.heap.size 64 (n ||| x * 2 ^ p) := by
    have := (show Cs w1 w.heap.size 64 (wc n) from hwd).set (p / 64) (lv (lb n (p / 64) ||| x * 2 ^ (p % 64)))
    rw [HA.out] at this
    exact this
  have HG2 := Lib.hid (grown_drew (grown_setNew HG.out ⟨w.heap.size, p / 64, none⟩ (Nat.le_refl _) (lv (lb n (p / 64) ||| x * 2 ^ (p % 64)))))
  have hcs2 := hcs.kept (grown_drew (grown_set w1 w.heap.size (p / 64) (lv (lb n (p / 64) ||| x * 2 ^ (p % 64))))) (by simp)
  clear hcs hc hf hwd HG
  unfold lv at hs HG2 hcs2
  generalize (w1.setCell ⟨w.heap.size, p / 64, none⟩ (.int .u64 ((lb n (p / 64) ||| x * 2 ^ (p % 64) : Nat) : Int))).drew = w2 at *
  go_wp2_with (first
    | (refine wpList_load_word rfl 64 33 (.tmp 3) rfl Tryd.underlying64 winfo w.heap.size _ rfl hs ?_)
    | (refine wpList_store_word rfl rfl 64 (.tmp 6) (.tmp 17) rfl winfo (w.heap.size + 1) _ _ rfl rfl hcs2 rfl ?_; intro w3 hw3 hg3; have HW3 := Lib.hid hw3; have HG3 := Lib.hid (grown_new HG2.out hg3 (by omega)); clear hw3 hg3))
  exact bodyPost_ret (results_cell_row Tryd.results80 _ _ (w.heap.size + 1) 64 (wc (n ||| x * 2 ^ p)) (0, 0) _ rfl HW3.out Tryd.underlying64 rfl winfo) rfl ⟨rfl, ext_of_grown HG3.out⟩

/-- The four cells of which the first k are f's, the others nought. -/
def partC (f : Nat → Nat) (k : Nat) : Array Value := ((List.range 4).map fun i => lv (if i < k then f i else 0)).toArray

set_option maxRecDepth 100000 in
theorem partC_zero (f : Nat → Nat) : partC f 0 = #[.int .u64 0, .int .u64 0, .int .u64 0, .int .u64 0] := rfl
set_option maxRecDepth 100000 in
theorem partC_size (f : Nat → Nat) (k : Nat) : (partC f k).size = 4 := rfl
set_option maxRecDepth 100000 in
theorem partC_four (f : Nat → Nat) : partC f 4 = #[lv (f 0), lv (f 1), lv (f 2), lv (f 3)] := rfl
set_option maxRecDepth 100000 in
theorem partC_step (f : Nat → Nat) (k : Nat) (h : k < 4) : (partC f k).setIfInBounds k (lv (f k)) = partC f (k + 1) := by
  match k, h with
  | 0, _ => rfl
  | 1, _ => rfl
  | 2, _ => rfl
  | 3, _ => rfl
set_option maxRecDepth 100000 in
theorem partC_get (f : Nat → Nat) (k i : Nat) (h : i < 4) : (partC f k)[i]? = some (lv (if i < k then f i else 0)) := by
  match i, h with
  | 0, _ => rfl
  | 1, _ => rfl
  | 2, _ => rfl
  | 3, _ => rfl

set_option maxRecDepth 100000 in
set_option maxHeartbeats 400000 in
theorem limbs_any (F : FuncId) (cap : Array Value) (f : Nat → Nat) (J : Nat → World → Prop) (row : Option Nat) (w : World)
    (hF : ∀ (args : Array Value) (u : World), (callFunc F args).run Tryd.prog u = .ok (.enter F args) u)
    (hrow : ∀ g, row = some g → g < w.heap.size) (hJ0 : J 0 w)
    (hst : ∀ i u u', J i u → (∀ k, k < w.heap.size → u'.heap[k]? = u.heap[k]?) → J i u')
    (hcall : ∀ i u, i < 4 → J i u → Calls Tryd.prog F (#[.int .i64 i] ++ cap) u (fun e u' => e = .returned (lv (f i)) ∧ J (i + 1) u' ∧ u.grownBy u' row)) (n : Nat) (_hn : n < M256) (hf : ∀ i, i < 4 → f i = lb n i) :
    Calls Tryd.prog 84 #[.func (.func F) #[] cap] w fun e w' => e = .returned (wv n) ∧ J 4 w' ∧ w.grownBy w' row := by
  have hfin : partC f 4 = wc n := by rw [partC_four, hf 0 (by omega), hf 1 (by omega), hf 2 (by omega), hf 3 (by omega)]; rfl
  have HFIN := Lib.hid hfin
  have HF := Lib.hid hF
  have HR := Lib.hid hrow
  have HST := Lib.hid hst
  have HC := Lib.hid hcall
  have HJ0 := Lib.hid hJ0
  clear hF hrow hst hcall hJ0 hf hfin
  go_enter Tryd.func84, Tryd.ntmps84
  go_wp2
  go_loopw [4, 5, 6, 7, 8, 9, 10, 11, 12, 13] (fun _ i _ _ _ _ _ _ _ _ wr => ∃ k : Nat, k ≤ 4 ∧ i = .int .i64 k ∧ Cs wr w.heap.size 64 (wc 0) ∧ Cs wr (w.heap.size + 1) 64 (partC f k) ∧ Hid (J k wr) ∧ Hid (w.grownBy wr row)) (fun _ i _ _ _ _ _ _ _ _ _ => 4 - (intOf i).toNat)
  case atStart =>
    refine ⟨0, by omega, rfl, heap_alloc2_old _ _ _, heap_alloc2_new _ _ _, ?_, ?_⟩
    · exact HST.out 0 _ _ HJ0.out (fun k hk => (Below.heap_alloc _ _ k (by simp; omega)).trans (Below.heap_alloc _ _ k hk))
    · exact grown_alloc (grown_alloc (World.grownBy.refl _ _) _) _
  case round =>
    obtain ⟨k, hk, rfl, hr0, hr1, HJ, HG⟩ := hrel
    have hrn : ∀ j, w.heap.size ≤ j → some j ≠ row := fun j hj e => by have := HR.out j e.symm; omega
    have HRN := Lib.hid hrn
    clear hrn
    by_cases hlt : k < 4
    · go_wp2
      rw [HF.out, Oper.upon_enter]
      refine (HC.out k _ hlt HJ.out).mono ?_
      rintro e w1 ⟨rfl, hj1, hg1⟩
      have hr0' := hr0.kept hg1 (HRN.out _ (by omega))
      have hr1' := hr1.kept hg1 (HRN.out _ (by omega))
      have hcell : w1.cell? ⟨w.heap.size + 1, k, none⟩ = some (lv (if k < k then f k else 0)) := hr1'.cell k _ (partC_get f k k hlt)
      have hfz : w1.frozen? ⟨w.heap.size + 1, k, none⟩ = false := hr1'.frozen k
      have HJ1 := Lib.hid hj1
      have HG1 := Lib.hid (grown_trans HG.out hg1)
      clear hj1 hg1 hr0 hr1
      rw [if_neg (by omega)] at hcell
      unfold lv at hcell
      unfold lv
      go_wp2
      go_roundw
      case rel =>
        refine ⟨k + 1, by omega, by go_num, hr0'.kept (grown_set _ _ _ _) (by simp), ?_, ?_, ?_⟩
        · rw [← partC_step f k hlt]
          exact hr1'.set k (lv (f k))
        · exact HST.out (k + 1) _ _ HJ1.out (fun j hj => heap_setCell_other _ _ _ _ (by simp; omega))
        · exact grown_setNew HG1.out _ (by simp) _
      case measure => simp [intOf]; omega
    · obtain rfl : k = 4 := by omega
      clear hlt hk
      rw [HFIN.out] at hr1
      go_wp2_with (first
        | (refine wpList_load_word rfl 64 33 (.tmp 3) rfl Tryd.underlying64 winfo (w.heap.size + 1) _ rfl hr1.wd ?_)
        | (refine wpList_store_word rfl rfl 64 (.tmp 2) (.tmp 14) rfl winfo w.heap.size _ _ rfl rfl hr0 rfl ?_; intro w3 hw3 hg3; have HW3 := Lib.hid hw3; have HG3 := Lib.hid hg3; clear hw3 hg3))
      refine bodyPost_ret (results_cell_row Tryd.results84 _ _ w.heap.size 64 (wc n) (0, 0) _ rfl HW3.out Tryd.underlying64 rfl winfo) rfl ⟨rfl, ?_, ?_⟩
      · exact HST.out 4 _ _ HJ.out (fun j hj => HG3.out.block j (by have := HG.out.size; omega) (by intro e; injection e with e; omega))
      · exact grown_new HG.out HG3.out (Nat.le_refl _)
end Go.Proofs.YthjmjccggkejhaaDoor
namespace Go.Proofs.YthjmjccggkejhaaDoor
open Go.RowKit

set_option maxRecDepth 100000 in
theorem ret_int {k : IntKind} {a b : Int} (h : a = b) : Ending.returned (.int k a) = .returned (.int k b) := by rw [h]

/-- The carry into the place i. -/
def cry (a b : Nat) : Nat → Nat
  | 0 => 0
  | i + 1 => (lb a i + lb b i + cry a b i) / 18446744073709551616
set_option maxRecDepth 100000 in
theorem cry_le (a b i : Nat) : cry a b i ≤ 1 := by
  induction i with
  | zero => exact Nat.zero_le _
  | succ i ih =>
    have h1 := lb_lt a i
    have h2 := lb_lt b i
    unfold cry
    omega
set_option maxRecDepth 100000 in
theorem add_limbs (a b : Nat) (ha : a < M256) (hb : b < M256) : (∀ i, i < 4 → (lb a i + lb b i + cry a b i) % 18446744073709551616 = lb ((a + b) % M256) i) ∧ cry a b 4 = (a + b) / M256 := by
  have hr : ∀ i, (lb a i + lb b i + cry a b i) % 18446744073709551616 < 18446744073709551616 := fun i => Nat.mod_lt _ (by decide)
  have e : ∀ i, lb a i + lb b i + cry a b i = (lb a i + lb b i + cry a b i) % 18446744073709551616 + 18446744073709551616 * cry a b (i + 1) := fun i => (Nat.mod_add_div _ _).symm
  have hc := chain _ _ _ _ _ _ _ _ _ _ _ _ _ _ _ _ _ (e 0) (e 1) (e 2) (e 3)
  have hl := lb_ofL _ _ _ _ (hr 0) (hr 1) (hr 2) (hr 3)
  have ht := ofL_lt _ _ _ _ (hr 0) (hr 1) (hr 2) (hr 3)
  rw [ofL_lb a ha, ofL_lb b hb] at hc
  have hc : a + b + 0 = _ := hc
  rw [Nat.add_zero] at hc
  clear e hr
  rw [hc, Nat.add_mul_mod_self_left, Nat.mod_eq_of_lt ht, Nat.add_mul_div_left _ _ (by decide), Nat.div_eq_of_lt ht]
  refine ⟨fun i hi => ?_, by simp⟩
  match i, hi with
  | 0, _ => exact hl.1.symm
  | 1, _ => exact hl.2.1.symm
  | 2, _ => exact hl.2.2.1.symm
  | 3, _ => exact hl.2.2.2.symm

/-- Whether a sum did not fit. -/
def ovr (a b : Nat) : Bool := decide (M256 ≤ a + b)
set_option maxRecDepth 100000 in
theorem ovr_cry (a b : Nat) (ha : a < M256) (hb : b < M256) : (((cry a b 4 : Nat) : Int) != 0) = ovr a b := by
  rw [(add_limbs a b ha hb).2]
  unfold ovr
  rw [Bool.eq_iff_iff]
  simp
  unfold M256 at *
  omega

/-- What is borrowed where y is taken from x. -/
def bor (x y : Nat) : Nat := if x < y then 1 else 0
set_option maxRecDepth 100000 in
theorem bor_le (x y : Nat) : bor x y ≤ 1 := by unfold bor; split <;> omega

set_option maxRecDepth 100000 in
theorem sub64 (x y b : Nat) (hx : 0 ≤ x) (hy0 : 0 ≤ y) (hy : y < 18446744073709551616) (hb0 : 0 ≤ b) (hb : b ≤ 1) (w : World) : (callFunc 86 #[.int .u64 (x : Nat), .int .u64 (y : Nat), .int .u64 (b : Nat)]).run Tryd.prog w =
    .ok (.value (.tuple #[.int .u64 (((x : Int) - y - b) % 18446744073709551616), .int .u64 ((bor x (y + b) : Nat) : Int)])) w := by
  rw [run_callFunc_extern Tryd.func86 (by kernel_rfl) (by kernel_rfl) (by kernel_rfl) (e := sub64Entry) (by kernel_rfl), run_sub64 x y b hb]
  have e1 : (((x + 18446744073709551616 - y - b) % 18446744073709551616 : Nat) : Int) = ((x : Int) - y - b) % 18446744073709551616 := by omega
  rw [← e1]
  rfl

set_option maxRecDepth 100000 in
set_option maxHeartbeats 400000 in
theorem sub1_any (i ga gb gc a b c : Nat) (hi : i < 4) (u : World) (ha : Wd u ga 64 a) (hb : Wd u gb 64 b) (hc : Cs u gc 33 #[lv c]) (hc1 : c ≤ 1) :
    Calls Tryd.prog 85 #[.int .i64 i, .pointer (some ⟨ga, 0, none⟩), .pointer (some ⟨gb, 0, none⟩), .pointer (some ⟨gc, 0, none⟩)] u fun e u' =>
      e = .returned (lv ((lb a i + 18446744073709551616 - lb b i - c) % 18446744073709551616)) ∧ Cs u' gc 33 #[lv (bor (lb a i) (lb b i + c))] ∧ u.grownBy u' (some gc) := by
  have h1 := ha.cell i hi
  have h2 := hb.cell i hi
  have h3 := hc.cell 0 _ rfl
  have h4 := hc.frozen 0
  have HC := Lib.hid hc
  have h64 := sub64 (lb a i : Nat) (lb b i : Nat) (c : Nat) (by omega) (by omega) (by have := lb_lt b i; omega) (by omega) (by omega)
  clear ha hb hc
  unfold lv at *
  have hi1 : (0 : Int) ≤ (i : Int) := by omega
  have hi2 : (i : Int) < 4 := by omega
  have hyb := lb_lt b i
  generalize lb a i = x at *
  generalize lb b i = y at *
  go_enter Tryd.func85, Tryd.ntmps85
  go_wp2
  go_region
  go_wp2
  go_ret
  refine ⟨ret_int (by omega), ?_, grown_drew (grown_set _ _ _ _)⟩
  have := HC.out.set 0 (.int .u64 ((bor x (y + c) : Nat) : Int))
  exact this.drew

/-- What is borrowed from the place i. -/
def brw (a b : Nat) : Nat → Nat
  | 0 => 0
  | i + 1 => bor (lb a i) (lb b i + brw a b i)
set_option maxRecDepth 100000 in
theorem brw_le (a b i : Nat) : brw a b i ≤ 1 := by
  cases i with
  | zero => exact Nat.zero_le _
  | succ i => exact bor_le _ _
set_option maxRecDepth 100000 in
theorem sub_step (x y c : Nat) (hx : x < 18446744073709551616) (hy : y < 18446744073709551616) (hc : c ≤ 1) : (x + 18446744073709551616 - y - c) % 18446744073709551616 + y + c = x + 18446744073709551616 * bor x (y + c) := by
  unfold bor
  split <;> omega
set_option maxRecDepth 100000 in
theorem sub_limbs (a b : Nat) (ha : a < M256) (hb : b < M256) : (∀ i, i < 4 → (lb a i + 18446744073709551616 - lb b i - brw a b i) % 18446744073709551616 = lb ((a + M256 - b) % M256) i) ∧ brw a b 4 = bor a b := by
  have hr : ∀ i, (lb a i + 18446744073709551616 - lb b i - brw a b i) % 18446744073709551616 < 18446744073709551616 := fun i => Nat.mod_lt _ (by decide)
  have e : ∀ i, (lb a i + 18446744073709551616 - lb b i - brw a b i) % 18446744073709551616 + lb b i + brw a b i = lb a i + 18446744073709551616 * brw a b (i + 1) := fun i => sub_step _ _ _ (lb_lt _ _) (lb_lt _ _) (brw_le _ _ _)
  have hc := chain _ _ _ _ _ _ _ _ _ _ _ _ _ _ _ _ _ (e 0) (e 1) (e 2) (e 3)
  have hl := lb_ofL _ _ _ _ (hr 0) (hr 1) (hr 2) (hr 3)
  have ht := ofL_lt _ _ _ _ (hr 0) (hr 1) (hr 2) (hr 3)
  rw [ofL_lb a ha, ofL_lb b hb] at hc
  have hc : _ + b + 0 = _ := hc
  rw [Nat.add_zero, show brw a b (3 + 1) = brw a b 4 from rfl] at hc
  have hb4 := brw_le a b 4
  clear e hr
  generalize brw a b 4 = z at *
  generalize hR : ofL ((lb a 0 + 18446744073709551616 - lb b 0 - brw a b 0) % 18446744073709551616) ((lb a 1 + 18446744073709551616 - lb b 1 - brw a b 1) % 18446744073709551616) ((lb a 2 + 18446744073709551616 - lb b 2 - brw a b 2) % 18446744073709551616) ((lb a 3 + 18446744073709551616 - lb b 3 - brw a b 3) % 18446744073709551616) = R at *
  have hmod : (a + M256 - b) % M256 = R ∧ z = bor a b := by
    unfold bor M256 at *
    split <;> omega
  rw [hmod.1]
  refine ⟨fun i hi => ?_, hmod.2⟩
  match i, hi with
  | 0, _ => exact hl.1.symm
  | 1, _ => exact hl.2.1.symm
  | 2, _ => exact hl.2.2.1.symm
  | 3, _ => exact hl.2.2.2.symm

/-- Whether b is greater than a. -/
def und (a b : Nat) : Bool := decide (a < b)
set_option maxRecDepth 100000 in
theorem und_brw (a b : Nat) (ha : a < M256) (hb : b < M256) : (((brw a b 4 : Nat) : Int) != 0) = und a b := by
  rw [(sub_limbs a b ha hb).2]
  unfold und bor
  by_cases h : a < b <;> simp [h]

set_option maxRecDepth 100000 in
set_option maxHeartbeats 400000 in
theorem sub_any (a b : Nat) (w : World) (ha : a < M256) (hb : b < M256) :
    Calls Tryd.prog 75 #[wv a, wv b] w fun e w' => e = .returned (.tuple #[wv ((a + M256 - b) % M256), .bool (und a b)]) ∧ Ext w w' := by
  have HA := Lib.hid (sub_limbs a b ha hb).1
  have HO := Lib.hid (und_brw a b ha hb)
  have HM := Lib.hid (show (a + M256 - b) % M256 < M256 from Nat.mod_lt _ (by decide))
  clear ha hb
  unfold wv
  go_enter Tryd.func75, Tryd.ntmps75
  go_wp2_with fail
  have k0 : Wd ((((w.alloc (.cells (wc a) 64)).alloc (.cells (wc b) 64)).alloc (.cells #[.int .u64 0, .int .u64 0, .int .u64 0, .int .u64 0] 64)).alloc (.cells #[.int .u64 0] 33)) w.heap.size 64 a := (((Cs.new w _ _ _ rfl).alloc _).alloc _).alloc _
  have k1 : Wd ((((w.alloc (.cells (wc a) 64)).alloc (.cells (wc b) 64)).alloc (.cells #[.int .u64 0, .int .u64 0, .int .u64 0, .int .u64 0] 64)).alloc (.cells #[.int .u64 0] 33)) (w.heap.size + 1) 64 b := ((Cs.new _ _ _ _ (by simp)).alloc _).alloc _
  have k2 : Cs ((((w.alloc (.cells (wc a) 64)).alloc (.cells (wc b) 64)).alloc (.cells #[.int .u64 0, .int .u64 0, .int .u64 0, .int .u64 0] 64)).alloc (.cells #[.int .u64 0] 33)) (w.heap.size + 1 + 1) 64 (wc 0) := (Cs.new _ _ _ _ (by simp)).alloc _
  have k3 : Cs ((((w.alloc (.cells (wc a) 64)).alloc (.cells (wc b) 64)).alloc (.cells #[.int .u64 0, .int .u64 0, .int .u64 0, .int .u64 0] 64)).alloc (.cells #[.int .u64 0] 33)) (w.heap.size + 1 + 1 + 1) 33 #[lv (brw a b 0)] := Cs.new _ _ _ _ (by simp)
  have hz : ((((w.alloc (.cells (wc a) 64)).alloc (.cells (wc b) 64)).alloc (.cells #[.int .u64 0, .int .u64 0, .int .u64 0, .int .u64 0] 64)).alloc (.cells #[.int .u64 0] 33)).heap.size = w.heap.size + 4 := by simp
  have HE : Hid (Ext w ((((w.alloc (.cells (wc a) 64)).alloc (.cells (wc b) 64)).alloc (.cells #[.int .u64 0, .int .u64 0, .int .u64 0, .int .u64 0] 64)).alloc (.cells #[.int .u64 0] 33))) := ((((Ext.refl w).alloc _).alloc _).alloc _).alloc _
  generalize ((((w.alloc (.cells (wc a) 64)).alloc (.cells (wc b) 64)).alloc (.cells #[.int .u64 0, .int .u64 0, .int .u64 0, .int .u64 0] 64)).alloc (.cells #[.int .u64 0] 33)) = w1 at *
  refine (limbs_any 85 _ (fun i => (lb a i + 18446744073709551616 - lb b i - brw a b i) % 18446744073709551616)
    (fun i u => Wd u w.heap.size 64 a ∧ Wd u (w.heap.size + 1) 64 b ∧ Cs u (w.heap.size + 1 + 1) 64 (wc 0) ∧ Cs u (w.heap.size + 1 + 1 + 1) 33 #[lv (brw a b i)]) (some (w.heap.size + 1 + 1 + 1)) w1
    (fun args u => Tryd.call85 args u) (fun g e => by injection e with e; omega) ⟨k0, k1, k2, k3⟩ ?_ ?_ _ HM.out HA.out).mono ?_
  · rintro i u u' ⟨h0, h1, h2, h3⟩ hk
    exact ⟨(hk _ (by omega)).trans h0, (hk _ (by omega)).trans h1, (hk _ (by omega)).trans h2, (hk _ (by omega)).trans h3⟩
  · rintro i u hi ⟨h0, h1, h2, h3⟩
    refine (sub1_any i _ _ _ a b (brw a b i) hi u h0 h1 h3 (brw_le _ _ _)).mono ?_
    rintro e u' ⟨rfl, hc, hg⟩
    exact ⟨rfl, ⟨h0.kept hg (by simp; omega), h1.kept hg (by simp), h2.kept hg (by simp), hc⟩, hg⟩
  rintro e w2 ⟨rfl, ⟨h0, h1, h2, h3⟩, hg⟩
  have HG := Lib.hid (HE.out.grown hg (by omega))
  have hz2 := hg.size
  clear k0 k1 k2 k3 h0 h1 hg HE
  go_wp2_with (refine wpList_store_word rfl rfl 64 (.tmp 7) (.tmp 9) rfl winfo w2.heap.size (wc 0) _ rfl rfl (heap_alloc_new _ _) rfl ?_; intro w3 hw3 hg3)
  have HG3 := Lib.hid ((HG.out.alloc _).grown hg3 (by omega))
  have h2' := (h2.alloc _).kept hg3 (by simp; omega)
  have h3' := (h3.alloc _).kept hg3 (by simp; omega)
  clear hg3 h2 h3 HG
  have hs3 : w3.cell? ⟨w.heap.size + 1 + 1 + 1, 0, none⟩ = some (.int .u64 (brw a b 4 : Nat)) := h3'.cell 0 _ rfl
  obtain ⟨q0, q1, q2, q3⟩ := hw3.cs.four
  obtain ⟨p0, p1, p2, p3⟩ := h2'.four
  have f0 := h2'.frozen 0
  have f1 := h2'.frozen 1
  have f2 := h2'.frozen 2
  have f3 := h2'.frozen 3
  go_region
  go_wp2
  rw [HO.out]
  exact bodyPost_ret (results_word_tmp Tryd.results75 _ _ (w.heap.size + 1 + 1) _ rfl (h2'.laid _) Tryd.underlying64 winfo) rfl ⟨rfl, HG3.out.laid (by omega) _ _ _ _⟩
end Go.Proofs.YthjmjccggkejhaaDoor
namespace Go.Proofs.YthjmjccggkejhaaDoor
open Go.RowKit

set_option maxRecDepth 100000 in
theorem lb_and (a b i : Nat) : lb (a &&& b) i = lb a i &&& lb b i := by
  unfold lb
  rw [show (18446744073709551616 : Nat) = 2 ^ 64 from rfl, ← Nat.pow_mul, Nat.and_div_two_pow, Nat.and_mod_two_pow]
set_option maxRecDepth 100000 in
theorem lb_xor (a b i : Nat) : lb (a ^^^ b) i = lb a i ^^^ lb b i := by
  unfold lb
  rw [show (18446744073709551616 : Nat) = 2 ^ 64 from rfl, ← Nat.pow_mul, Nat.xor_div_two_pow, Nat.xor_mod_two_pow]
set_option maxRecDepth 100000 in
theorem lb_not (a i : Nat) (hi : i < 4) (ha : a < M256) : lb (M256 - 1 - a) i = 18446744073709551615 - lb a i := by
  have hl := ofL_lb a ha
  have h0 := lb_lt a 0
  have h1 := lb_lt a 1
  have h2 := lb_lt a 2
  have h3 := lb_lt a 3
  have e : M256 - 1 - a = ofL (18446744073709551615 - lb a 0) (18446744073709551615 - lb a 1) (18446744073709551615 - lb a 2) (18446744073709551615 - lb a 3) := by
    unfold ofL M256 at *
    omega
  have hb := lb_ofL (18446744073709551615 - lb a 0) (18446744073709551615 - lb a 1) (18446744073709551615 - lb a 2) (18446744073709551615 - lb a 3) (by omega) (by omega) (by omega) (by omega)
  rw [← e] at hb
  match i, hi with
  | 0, _ => exact hb.1
  | 1, _ => exact hb.2.1
  | 2, _ => exact hb.2.2.1
  | 3, _ => exact hb.2.2.2
set_option maxRecDepth 100000 in
theorem M256_pow : M256 = 2 ^ 256 := rfl

set_option maxRecDepth 100000 in
theorem xor_all (x : Nat) (hx : x < 18446744073709551616) : 18446744073709551615 ^^^ x = 18446744073709551615 - x := by
  have h := congrArg BitVec.toNat (BitVec.allOnes_xor (x := BitVec.ofNat 64 x))
  rw [BitVec.toNat_xor, BitVec.toNat_not, BitVec.toNat_allOnes, BitVec.toNat_ofNat, Nat.mod_eq_of_lt hx] at h
  exact h

end Go.Proofs.YthjmjccggkejhaaDoor
namespace Go.Proofs.YthjmjccggkejhaaDoor
open Go.RowKit

set_option maxRecDepth 100000 in
theorem wu_info : ∃ i, Tryd.prog.info? 33 = some i := ⟨_, rfl⟩
set_option maxRecDepth 100000 in
theorem wu_cells : Tryd.prog.cellsOf 33 = 1 := by kernel_rfl
set_option maxRecDepth 100000 in
theorem wu_plain : Tryd.prog.plainKey 33 = true := by kernel_rfl

set_option maxRecDepth 100000 in
theorem run_part_word (n i : Nat) (hi : i < 4) (w : World) : (part 33 (wc n) (i * 1)).run Tryd.prog w = .ok (lv (lb n i)) w := by
  rw [Nat.mul_one]
  exact run_part_plain w wu_plain (wc_get n i hi)

set_option maxRecDepth 100000 in
theorem run_eqItems_word (a b : Nat) (w : World) : ∀ is : List Nat, (∀ i ∈ is, i < 4) → (Op.eqItems 9999 33 1 (wc a) (wc b) is).run Tryd.prog w = .ok (is.all fun i => lb a i == lb b i) w
  | [], _ => by simp [Op.eqItems]
  | i :: is, h => by
    have ih := run_eqItems_word a b w is (fun j hj => h j (List.mem_cons_of_mem _ hj))
    simp only [Op.eqItems, Sem.run_bind, run_part_word a i (h i List.mem_cons_self), run_part_word b i (h i List.mem_cons_self), Result.andThen_ok, lv, run_equalIn_int w 9998 _ _ _ _ _ Tryd.underlying33]
    by_cases hb : lb a i = lb b i
    · have : ((lb a i : Int) == (lb b i : Int)) = true := by simp [hb]
      rw [this]
      simp [ih, hb]
    · have : ((lb a i : Int) == (lb b i : Int)) = false := by simp; omega
      rw [this]
      simp [hb]

set_option maxRecDepth 100000 in
theorem all_lb (a b : Nat) (ha : a < M256) (hb : b < M256) : ((List.range 4).all fun i => lb a i == lb b i) = (a == b) := by
  rw [Bool.eq_iff_iff]
  simp only [List.all_eq_true, List.mem_range, beq_iff_eq]
  constructor
  · exact lb_inj a b ha hb
  · rintro rfl i _
    rfl

set_option maxRecDepth 100000 in
theorem run_eql_word (a b : Nat) (ha : a < M256) (hb : b < M256) (w : World) : (binOp .eql 64 (.agg (wc a)) (.agg (wc b))).run Tryd.prog w = .ok (.bool (a == b)) w := by
  obtain ⟨i, hi⟩ := wu_info
  have h := run_equalIn_array w 9999 (wc a) (wc b) Tryd.underlying64 hi
  rw [wu_cells, run_eqItems_word a b w (List.range 4) (fun i hi => List.mem_range.1 hi), all_lb a b ha hb] at h
  simp only [binOp]
  simp [Op.equal, Op.maxDepth, h]
set_option maxRecDepth 100000 in
theorem run_neq_word (a b : Nat) (ha : a < M256) (hb : b < M256) (w : World) : (binOp .neq 64 (.agg (wc a)) (.agg (wc b))).run Tryd.prog w = .ok (.bool (a != b)) w := by
  obtain ⟨i, hi⟩ := wu_info
  have h := run_equalIn_array w 9999 (wc a) (wc b) Tryd.underlying64 hi
  rw [wu_cells, run_eqItems_word a b w (List.range 4) (fun i hi => List.mem_range.1 hi), all_lb a b ha hb] at h
  simp only [binOp]
  simp [Op.equal, Op.maxDepth, h, bne]
set_option maxRecDepth 100000 in
theorem word_guard : Tryd.prog.eqGuardType Tryd.prog.depth 64 = false := by kernel_rfl
set_option maxRecDepth 100000 in
theorem run_guard_eql (x y : Operand) (a b : Nat) (w : World) : (eqGuard .eql 64 x y (.agg (wc a)) (.agg (wc b))).run Tryd.prog w = .ok () w := by
  unfold eqGuard
  simp
set_option maxRecDepth 100000 in
theorem run_guard_neq (x y : Operand) (a b : Nat) (w : World) : (eqGuard .neq 64 x y (.agg (wc a)) (.agg (wc b))).run Tryd.prog w = .ok () w := by
  unfold eqGuard
  simp

set_option maxRecDepth 100000 in
/-- Two words are compared. -/
theorem wpList_eql_word {ops : Array Oper} {rest : List Oper} {o : Oper} {a : Act} {w : World} {Q : Exit → Act → World → Prop} (hgd : Region.wanted o (yielded ops a.tmps) = true) (x y : Operand) (ho : o.op = .binOp .eql 64 x y 64)
    (n m : Nat) (hn : n < M256) (hm : m < M256) (hx : a.eval x = wv n) (hy : a.eval y = wv m) (h : wpList Tryd.prog ops Q rest (a.put o.dst (.bool (n == m))) w) : wpList Tryd.prog ops Q (o :: rest) a w := by
  refine wpList_step fun K hK => ?_
  rw [if_pos hgd]
  unfold Oper.wp
  simp only [execOp, ho, hx, hy, wv, Sem.run_bind, run_guard_eql, Result.andThen_ok, run_eql_word n m hn hm]
  exact hK _ _ h
set_option maxRecDepth 100000 in
theorem wpList_neq_word {ops : Array Oper} {rest : List Oper} {o : Oper} {a : Act} {w : World} {Q : Exit → Act → World → Prop} (hgd : Region.wanted o (yielded ops a.tmps) = true) (x y : Operand) (ho : o.op = .binOp .neq 64 x y 64)
    (n m : Nat) (hn : n < M256) (hm : m < M256) (hx : a.eval x = wv n) (hy : a.eval y = wv m) (h : wpList Tryd.prog ops Q rest (a.put o.dst (.bool (n != m))) w) : wpList Tryd.prog ops Q (o :: rest) a w := by
  refine wpList_step fun K hK => ?_
  rw [if_pos hgd]
  unfold Oper.wp
  simp only [execOp, ho, hx, hy, wv, Sem.run_bind, run_guard_neq, Result.andThen_ok, run_neq_word n m hn hm]
  exact hK _ _ h

set_option maxRecDepth 100000 in
theorem wc_small (x : Nat) (hx : x < 18446744073709551616) : wc x = #[.int .u64 (x : Nat), .int .u64 0, .int .u64 0, .int .u64 0] := by
  have h := wc_ofL x 0 0 0 hx (by decide) (by decide) (by decide)
  rw [show ofL x 0 0 0 = x by unfold ofL; omega] at h
  rw [h]
  rfl

set_option maxRecDepth 100000 in
set_option maxHeartbeats 400000 in
theorem of_any (x : Nat) (xi : Int) (hxi : xi = (x : Int)) (w : World) (hx : x < 18446744073709551616) :
    Calls Tryd.prog 77 #[.int .u64 xi] w fun e w' => e = .returned (wv x) ∧ Ext w w' := by
  subst hxi
  have HW := Lib.hid (wc_small x hx)
  go_enter Tryd.func77, Tryd.ntmps77
  go_wp2
  have hr : Wd (w.alloc (.cells #[.int .u64 (x : Nat), .int .u64 0, .int .u64 0, .int .u64 0] 64)) w.heap.size 64 x := by rw [← HW.out]; exact heap_alloc_new _ _
  exact bodyPost_ret (results_word Tryd.results77 _ _ w.heap.size _ rfl hr Tryd.underlying64 winfo) rfl ⟨rfl, (Ext.refl _).alloc _⟩

set_option maxRecDepth 100000 in
theorem Ext.drewN {a w : World} (h : Ext a w) (n : Nat) : Ext a (w.drewN n) := ⟨h.os, h.tape, h.output, h.size, fun i hi => Below.block h i hi⟩
set_option maxRecDepth 100000 in
theorem Wd.drewN {w : World} {g : Nat} {t : TypeId} {n : Nat} (h : Wd w g t n) (k : Nat) : Wd (w.drewN k) g t n := h
set_option maxRecDepth 100000 in
theorem Cs.drewN {w : World} {g : Nat} {t : TypeId} {cs : Array Value} (h : Cs w g t cs) (k : Nat) : Cs (w.drewN k) g t cs := h
set_option maxRecDepth 100000 in
theorem quiet_left {P : Program} {f : FuncId} {args : Array Value} {w : World} {n : Nat} {v : Value}
    (h : Calls P f args (w.drewN n) fun e w' => e = .returned v ∧ w.drewN n = w') : Calls P f args (w.drewN n) fun e w'' => e = .returned v ∧ ∃ m, w'' = w.drewN m :=
  h.mono fun _ _ ⟨he, hm⟩ => ⟨he, n, hm.symm⟩

/-- -1, 0, 1. -/
def cmpN (a b : Nat) : Int := if a < b then -1 else if b < a then 1 else 0

set_option maxRecDepth 100000 in
set_option maxHeartbeats 400000 in
theorem compare_any (x y : Nat) (w : World) (_hx : x < 18446744073709551616) (_hy : y < 18446744073709551616) :
    Calls Tryd.prog 87 #[.int .u64 (x : Nat), .int .u64 (y : Nat)] w fun e w' => e = .returned (.int .i64 (cmpN x y)) ∧ w = w' := by
  go_enter Tryd.func87, Tryd.ntmps87
  go_wp2
  all_goals
    go_ret
    refine ⟨ret_int ?_, rfl⟩
    unfold cmpN
    split <;> (try split) <;> omega

set_option maxRecDepth 100000 in
/-- How a and b stand, from the limb k - 1 down. -/
theorem cmp_down (a b k : Nat) (hk : 0 < k) (hk4 : k ≤ 4) (ha : a < 18446744073709551616 ^ k) (hb : b < 18446744073709551616 ^ k) : cmpN a b = if cmpN (lb a (k - 1)) (lb b (k - 1)) = 0 then cmpN (a % 18446744073709551616 ^ (k - 1)) (b % 18446744073709551616 ^ (k - 1)) else cmpN (lb a (k - 1)) (lb b (k - 1)) := by
  unfold lb cmpN
  match k, hk, hk4 with
  | 1, _, _ => simp at *; (repeat' split) <;> omega
  | 2, _, _ => simp at *; (repeat' split) <;> omega
  | 3, _, _ => simp at *; (repeat' split) <;> omega
  | 4, _, _ => simp at *; (repeat' split) <;> omega

set_option maxRecDepth 100000 in
set_option maxHeartbeats 400000 in
theorem cmp_any (a b : Nat) (w : World) (ha : a < M256) (hb : b < M256) :
    Calls Tryd.prog 76 #[wv a, wv b] w fun e w' => e = .returned (.int .i64 (cmpN a b)) ∧ Ext w w' := by
  have ha4 : a < 18446744073709551616 ^ 4 := ha
  have hb4 : b < 18446744073709551616 ^ 4 := hb
  clear ha hb
  unfold wv
  go_enter Tryd.func76, Tryd.ntmps76
  go_wp2
  have k0 : Wd ((w.alloc (.cells (wc a) 64)).alloc (.cells (wc b) 64)) w.heap.size 64 a := (Cs.new w _ _ _ rfl).alloc _
  have k1 : Wd ((w.alloc (.cells (wc a) 64)).alloc (.cells (wc b) 64)) (w.heap.size + 1) 64 b := Cs.new _ _ _ _ (by simp)
  have HE : Hid (Ext w ((w.alloc (.cells (wc a) 64)).alloc (.cells (wc b) 64))) := ((Ext.refl w).alloc _).alloc _
  generalize ((w.alloc (.cells (wc a) 64)).alloc (.cells (wc b) 64)) = w1 at *
  go_loopw [5] (fun i wr => ∃ k : Nat, k ≤ 4 ∧ i = .int .i64 ((k : Int) - 1) ∧ Wd wr w.heap.size 64 a ∧ Wd wr (w.heap.size + 1) 64 b ∧ Hid (Ext w wr) ∧ Hid (cmpN a b = cmpN (a % 18446744073709551616 ^ k) (b % 18446744073709551616 ^ k))) (fun i _ => (intOf i + 1).toNat)
  case atStart =>
    refine ⟨4, by omega, rfl, k0, k1, HE, ?_⟩
    show _ = _
    rw [Nat.mod_eq_of_lt ha4, Nat.mod_eq_of_lt hb4]
  case round =>
    obtain ⟨k, hk, rfl, h0, h1, HX, HC⟩ := hrel
    clear k0 k1 HE ha4 hb4
    by_cases hlt : 0 < k
    · obtain ⟨j, rfl⟩ : ∃ j, k = j + 1 := ⟨k - 1, by omega⟩
      rw [show ((j + 1 : Nat) : Int) - 1 = (j : Int) by omega]
      have c0 := h0.cell j (by omega)
      have c1 := h1.cell j (by omega)
      have hi1 : (0 : Int) ≤ (j : Int) := by omega
      have hi2 : (j : Int) < 4 := by omega
      have hd := cmp_down (a % 18446744073709551616 ^ (j + 1)) (b % 18446744073709551616 ^ (j + 1)) (j + 1) (by omega) hk (Nat.mod_lt _ (Nat.pow_pos (by decide))) (Nat.mod_lt _ (Nat.pow_pos (by decide)))
      have hl : ∀ n, lb (n % 18446744073709551616 ^ (j + 1)) j = lb n j := by
        intro n
        unfold lb
        rw [Nat.pow_succ, Nat.mod_mul_right_div_self, Nat.mod_mod]
      have hm : ∀ n, n % 18446744073709551616 ^ (j + 1) % 18446744073709551616 ^ j = n % 18446744073709551616 ^ j := fun n => Nat.mod_mod_of_dvd _ (Nat.pow_dvd_pow _ (by omega))
      rw [Nat.add_sub_cancel, hl, hl, hm, hm] at hd
      have HD := Lib.hid (HC.out.trans hd)
      clear hd hl hm HC
      have bx := lb_lt a j
      have by' := lb_lt b j
      generalize lb a j = x at *
      generalize lb b j = y at *
      go_wp2
      go_quiet ((go_at_call 87; exact quiet_left (compare_any x y _ bx by')))
      go_wp2
      · go_ret
        have hne : (cmpN x y != 0) = true := by assumption
        refine ⟨ret_int ?_, HX.out.drewN nq⟩
        rw [HD.out, if_neg (by simpa using hne)]
      · have hne : (cmpN x y != 0) = false := by assumption
        refine ⟨⟨j, by omega, rfl, h0, h1, HX.out.drewN nq, ?_⟩, by simp [intOf]⟩
        show _ = _
        rw [HD.out, if_pos (by simpa using hne)]
    · obtain rfl : k = 0 := by omega
      have HC' := Lib.hid (show cmpN a b = 0 by rw [HC.out]; simp [cmpN, Nat.mod_one])
      clear HC
      go_wp2
      go_ret
      exact ⟨ret_int HC'.out.symm, HX.out⟩


/-- Whether the number is below 2^64. -/
def isSmall (n : Nat) : Bool := decide (n < 18446744073709551616)
/-- The number, if it is below 2^64, else 0. -/
def smallN (n : Nat) : Nat := if n < 18446744073709551616 then n else 0

end Go.Proofs.YthjmjccggkejhaaDoor
namespace Go.Proofs.YthjmjccggkejhaaDoor
open Go.RowKit Go.Shelf
attribute [local go_sem] Oper.semAt_some

/-- What downward leaves: the function, with its two captured blocks. -/
def RetDown (n wd : Nat) (w : World) (e : Ending) (w' : World) : Prop :=
  ∃ g h : Nat, e = .returned (.func (.func 90) #[] #[.pointer (some ⟨g, 0, none⟩), .pointer (some ⟨h, 0, none⟩)]) ∧ g = w.heap.size + 1 ∧ h = w.heap.size ∧ Cs w' g 3 #[.int .i64 wd] ∧ Wd w' h 64 n ∧ w'.heap.size = w.heap.size + 2 ∧ Ext w w'

set_option maxRecDepth 100000 in
set_option maxHeartbeats 400000 in
theorem downward_any (n wd : Nat) (wi : Int) (hwi : wi = (wd : Int)) (w : World) :
    Calls Tryd.prog 79 #[wv n, .int .i64 wi] w (RetDown n wd w) := by
  subst hwi
  unfold wv
  go_enter Tryd.func79, Tryd.ntmps79
  go_wp2
  go_ret
  exact ⟨_, _, rfl, rfl, rfl, Cs.new _ _ _ _ (by simp), (Cs.new _ _ _ _ rfl).alloc _, by simp, ((Ext.refl w).alloc _).alloc _⟩

/-- The place of the bits that come in the round k. -/
def dAt (wd k : Nat) : Nat := 256 - wd * (k + 1)
/-- The bits that come in the round k. -/
def dBits (n wd k : Nat) : Nat := n / 2 ^ dAt wd k % 2 ^ wd
/-- What the round k is handed. -/
def dEnc (n wd : Nat) (k : Nat) : Array Value := #[.int .i64 (dAt wd k : Nat), .int .u64 (dBits n wd k : Nat)]
/-- Two blocks stay. -/
def Kp2 (g h : Nat) (W W' : World) : Prop := W'.heap[g]? = W.heap[g]? ∧ W'.heap[h]? = W.heap[h]?

set_option maxRecDepth 100000 in
theorem down_pick (n t wd k N : Nat) (hw1 : 1 ≤ wd) (hw2 : wd ≤ 32) (hd : 64 % wd = 0) (hN : wd * N = 256) (hq : t + wd + wd * k = 256) :
    (dAt wd k = t ∧ k < N) ∧ lb n (t / 64) / 2 ^ (t % 64) % 2 ^ wd = dBits n wd k := by
  have e1 : wd * (k + 1) = wd * k + wd := Nat.mul_succ _ _
  have e2 : dAt wd k = t := by unfold dAt; omega
  have e3 : wd * (k + 1) ≤ wd * N := by omega
  have e4 : k + 1 ≤ N := Nat.le_of_mul_le_mul_left e3 (by omega)
  have d1 : wd ∣ 64 := Nat.dvd_of_mod_eq_zero hd
  have d2 : wd ∣ t := by
    have : wd ∣ 256 := ⟨N, hN.symm⟩
    have h3 : t = wd * N - wd * (k + 1) := by omega
    rw [h3, ← Nat.mul_sub]
    exact ⟨_, rfl⟩
  have d3 : t % 64 + wd ≤ 64 := by
    have h1 : wd ∣ t % 64 := (Nat.dvd_mod_iff d1).2 d2
    have h2 : t % 64 < 64 := Nat.mod_lt _ (by decide)
    obtain ⟨a, ha⟩ := h1
    obtain ⟨b, hb⟩ := d1
    rw [ha] at h2 ⊢
    rw [hb] at h2 ⊢
    have : a < b := Nat.lt_of_mul_lt_mul_left h2
    calc wd * a + wd = wd * (a + 1) := (Nat.mul_succ _ _).symm
      _ ≤ wd * b := Nat.mul_le_mul_left _ this
  refine ⟨⟨e2, by omega⟩, ?_⟩
  unfold dBits
  rw [e2, lb_div n (t / 64) (t % 64) wd d3]
  congr 3
  omega

set_option maxRecDepth 100000 in
set_option maxHeartbeats 1000000 in
theorem down1_stops (m n wd N Bw Ba : Nat) (hm : 1 ≤ m) (hN : wd * N = 256) (hd : 64 % wd = 0) (hw1 : 1 ≤ wd) (hw2 : wd ≤ 32) (w : World) (h1 : Cs w Bw 3 #[.int .i64 wd]) (h2 : Wd w Ba 64 n) :
    SeqStopsK Fence.wide m Tryd.prog 90 #[.pointer (some ⟨Bw, 0, none⟩), .pointer (some ⟨Ba, 0, none⟩)] (dEnc n wd) (Kp2 Bw Ba) (fun xs => xs = List.range N) (fun _ => True) N w := fun l J Jx W hW hJ hJx hY h0 => by
  refine callsIn_of_wp Tryd.func90 rfl trivial ?_ rfl
  simp only [Tryd.ntmps90, List.size_toArray, List.length_cons, List.length_nil, Nat.reduceAdd, Nat.reduceSub, Array.replicate_succ, Array.replicate_zero, List.push_toArray, List.append_toArray, List.nil_append, List.cons_append]
  have k1 : Cs W Bw 3 #[.int .i64 wd] := h1.ext hW
  have k2 : Wd W Ba 64 n := h2.ext hW
  have c1 := k1.cell 0 _ rfl
  gi_wp2
  gi_loopw [4] (fun p wr => ∃ k q : Nat, q ≤ 256 ∧ Hid (q + wd * k = 256) ∧ p = .int .i64 ((q : Int) - wd) ∧ Cs wr Bw 3 #[.int .i64 wd] ∧ Wd wr Ba 64 n ∧ Hid (J (List.range k) wr)) (fun p _ => (intOf p + wd).toNat)
  case atStart => exact ⟨0, 256, by omega, rfl, rfl, k1, k2, h0⟩
  case round =>
    obtain ⟨k, q, hq, HQ, rfl, r1, r2, HJ⟩ := hrel
    clear k1 k2 c1
    have c1 : wr.cell? ⟨Bw, 0, none⟩ = some (.int .i64 wd) := r1.cell 0 _ rfl
    by_cases hlt : wd ≤ q
    · obtain ⟨t, rfl⟩ : ∃ t, q = t + wd := ⟨q - wd, by omega⟩
      rw [show ((t + wd : Nat) : Int) - wd = (t : Int) by omega]
      have c2 := r2.cell (t / 64) (by omega)
      have hi1 : (0 : Int) ≤ (t : Int) / 64 := by omega
      have hi2 : (t : Int) / 64 < 4 := by omega
      have hi3 : (0 : Int) ≤ (t : Int) % 64 := by omega
      have hi4 : (t : Int) % 64 < 64 := by omega
      have hmx : Tryd.prog.follows .mixedOrders = true := by kernel_rfl
      have hlb := lb_lt n (t / 64)
      have ht1 : IntKind.i64.wrap ((t : Int) / 64) = (t : Int) / 64 := IntWalk.i64_in _ (by omega)
      have ht5 : ((t : Int) / 64).toNat = t / 64 := by omega
      have HT := Lib.hid (down_pick n t wd k N hw1 hw2 hd hN HQ.out)
      have hp1 : 1 ≤ 2 ^ wd := Nat.one_le_two_pow
      have hp2 : 2 ^ wd ≤ 4294967296 := Nat.pow_le_pow_right (n := 2) (by decide) hw2
      have hs2 : IntKind.u64.wrap ((2 : Int) ^ wd) = ((2 ^ wd : Nat) : Int) := by
        rw [show (2 : Int) ^ wd = ((2 ^ wd : Nat) : Int) by simp, IntWalk.u64_in _ (by omega)]
      have hs1 : Op.shift .shr .u64 (lb n (t / 64) : Nat) .i64 ((t : Int).tmod 64) = pure (.int .u64 ((lb n (t / 64) / 2 ^ (t % 64) : Nat) : Int)) := by
        rw [Int.tmod_eq_emod_of_nonneg (by omega), shift_shr .u64 .i64 _ _ (by omega) (by simp [IntKind.bits]; omega), show ((t : Int) % 64).toNat = t % 64 by omega]
        simp
      have hs1' : Op.shift .shr .u64 (lb n (t / 64) : Nat) .i64 ((t : Int) % 64) = pure (.int .u64 ((lb n (t / 64) / 2 ^ (t % 64) : Nat) : Int)) := by
        rw [shift_shr .u64 .i64 _ _ (by omega) (by simp [IntKind.bits]; omega), show ((t : Int) % 64).toNat = t % 64 by omega]
        simp
      have hyb : lb n (t / 64) / 2 ^ (t % 64) < 18446744073709551616 := Nat.lt_of_le_of_lt (Nat.div_le_self _ _) hlb
      have hs4 : bits .and .u64 ((lb n (t / 64) / 2 ^ (t % 64) : Nat) : Int) (((2 ^ wd : Nat) : Int) - 1) = ((lb n (t / 64) / 2 ^ (t % 64) % 2 ^ wd : Nat) : Int) := by
        rw [show (((2 ^ wd : Nat) : Int) - 1) = ((2 ^ wd - 1 : Nat) : Int) by omega, u64_and_nat _ _ hyb (by omega), Nat.and_two_pow_sub_one_eq_mod]
      rw [HT.out.2] at hs4
      have hs3 : IntKind.u64.wrap (((2 ^ wd : Nat) : Int) - 1) = ((2 ^ wd : Nat) : Int) - 1 := IntWalk.u64_in _ (by omega)
      have hJd : J (List.range k) wr.drew := hJ _ wr _ none HJ.out (grown_drew (World.grownBy.refl _ _)) (fun r e => by cases e)
      obtain ⟨fn, tmps, assign, body, hy, hR⟩ := hY (List.range k) k wr.drew hJd (by rw [List.length_range]; exact HT.out.1.2)
      unfold dEnc at hy
      rw [HT.out.1.1] at hy
      have hR' := hR.mono (R' := fun e W' => ∃ b : Bool, e = .returned (.bool b) ∧ ((b = true ∧ J (List.range k ++ [k]) W' ∧ Kp2 Bw Ba wr.drew W') ∨ (b = false ∧ Jx (List.range k ++ [k]) W'))) (fun e W' h => by
        rcases h with ⟨rfl, h1, h2⟩ | ⟨rfl, h1⟩
        · exact ⟨true, rfl, .inl ⟨rfl, h1, h2⟩⟩
        · exact ⟨false, rfl, .inr ⟨rfl, h1⟩⟩)
      have HR := Lib.hid hR'
      have HK := Lib.hid HT.out.1
      clear hR hR' hJd HT hyb hlb hY h0 HJ
      generalize dBits n wd k = z at *
      generalize lb n (t / 64) / 2 ^ (t % 64) = y at *
      generalize 2 ^ wd = pw at *
      generalize lb n (t / 64) = x at *
      gi_wp2
      gi_region_with_o (refine HR.out.mono ?_; rintro e W3 ⟨bb, rfl, hb⟩; have HB := Lib.hid hb; clear hb)
      all_goals
        clear hs1 hs1' hs2 hs3 hs4 ht1 ht5 hy c1 c2 HR
        rcases HB.out with ⟨rfl, hJ3, hk3⟩ | ⟨rfl, hJx3⟩
        · have HJ3 := Lib.hid hJ3
          have r1' : Cs W3 Bw 3 #[.int .i64 wd] := hk3.1.trans r1
          have r2' : Wd W3 Ba 64 n := hk3.2.trans r2
          have c1' : W3.cell? ⟨Bw, 0, none⟩ = some (.int .i64 wd) := r1'.cell 0 _ rfl
          clear HB hJ3 hk3 r1 r2
          gi_wp2
          refine ⟨⟨k + 1, t, by omega, ?_, rfl, r1', r2', ?_⟩, by simp [intOf]; omega⟩
          · show _ = _
            have := HQ.out
            rw [Nat.mul_succ]
            omega
          · show J _ _
            rw [List.range_succ]
            exact HJ3.out
        · have HJ3 := Lib.hid hJx3
          clear HB hJx3 r1 r2
          gi_wp2
          refine bodyPost_ret (results_none rfl _ _ _) rfl ?_
          exact ⟨⟨_, rfl⟩, .inr ⟨_, trivial, HJ3.out⟩⟩
    · have HK := Lib.hid (show k = N by
        have h3 := HQ.out
        have hlt' : wd * k < wd * (N + 1) := by rw [Nat.mul_succ]; omega
        have hge : wd * (N - 1) < wd * k := by rw [Nat.mul_sub, Nat.mul_one]; omega
        have h4 := Nat.lt_of_mul_lt_mul_left hlt'
        have h5 := Nat.lt_of_mul_lt_mul_left hge
        omega)
      gi_wp2
      go_end0
      refine ⟨⟨_, rfl⟩, .inl ⟨_, rfl, ?_⟩⟩
      rw [← HK.out]
      exact HJ.out
end Go.Proofs.YthjmjccggkejhaaDoor
namespace Go.Proofs.YthjmjccggkejhaaDoor
open Go.RowKit Go.Shelf
attribute [local go_sem] Oper.semAt_some

set_option maxRecDepth 100000 in
theorem wpListIn_load_word {F : Fence} {n : Nat} {P : Program} {ops : Array Oper} {rest : List Oper} {o : Oper} {a : Act} {w : World} {Q : Exit → Act → World → Prop} (hgd : o.guard = none) (ty e : TypeId) (x : Operand) (ho : o.op = .load ty x)
    (hu : P.underlying ty = some (.array 4 e)) (hi : (P.info? ty).map (·.size) = some 4) (g m : Nat) (hx : a.eval x = .pointer (some ⟨g, 0, none⟩)) (hg : Wd w g ty m)
    (h : wpListIn F n P ops Q rest (a.put o.dst (wv m)) w) : wpListIn F n P ops Q (o :: rest) a w := by
  refine wpListIn_plain hgd fun K hK => ?_
  unfold Oper.wpIn
  refine ⟨by simp [Oper.about, ho], ?_⟩
  rw [Oper.semAt_plain F _ _ (by rw [ho]; intro c hc'; cases hc')]
  simp only [execOp, ho, hx, Instr.loadAt, Instr.sureAddr, Sem.run_bind, Sem.run_pure, Result.andThen_ok, run_loadVar_row w g ty ty (wc m) (0, 0) _ hg hu rfl hi]
  exact hK _ _ h

set_option maxRecDepth 100000 in
theorem wpListIn_store_word {F : Fence} {n : Nat} {P : Program} {ops : Array Oper} {rest : List Oper} {o : Oper} {a : Act} {w : World} {Q : Exit → Act → World → Prop} (hgd : o.guard = none) (hd : o.dst = none) (ty : TypeId) (x y : Operand) (ho : o.op = .store ty x y)
    (hi : (P.info? ty).map (·.size) = some 4) (g : Nat) (old : Array Value) (m : Nat) (hx : a.eval x = .pointer (some ⟨g, 0, none⟩)) (hy : a.eval y = wv m) (hg : Cs w g ty old) (hold : old.size = 4)
    (h : ∀ w', Wd w' g ty m → w.grownBy w' (some g) → wpListIn F n P ops Q rest a w') : wpListIn F n P ops Q (o :: rest) a w := by
  have h' : ∀ w', Wd w' g ty m → w.grownBy w' (some g) → wpListIn F n P ops Q rest (a.put o.dst undef) w' := by rw [hd]; exact h
  refine wpListIn_plain hgd fun K hK => ?_
  unfold Oper.wpIn
  refine ⟨by simp [Oper.about, ho], ?_⟩
  rw [Oper.semAt_plain F _ _ (by rw [ho]; intro c hc'; cases hc')]
  have hi' : (P.info? ty).map (·.size) = some (wc m).size := hi
  simp only [execOp, ho, hx, hy, wv, Instr.storeAt, Instr.sureAddr, Sem.run_bind, Sem.run_pure, Result.andThen_ok, run_storeVar_row w g ty ty old (wc m) hg hi' hold (wc_one m)]
  refine hK _ _ (h' _ ?_ ?_)
  · exact setRow_heap w g _ _ ty (0, 0) hg
  · exact ⟨rfl, rfl, rfl, by simp [World.setRow], fun k _ hk => setRow_other w g k _ (fun e => hk (by simp [e]))⟩

set_option maxRecDepth 100000 in
theorem wpListIn_eql_word {F : Fence} {n : Nat} {ops : Array Oper} {rest : List Oper} {o : Oper} {a : Act} {w : World} {Q : Exit → Act → World → Prop} (hgd : o.guard = none) (x y : Operand) (ho : o.op = .binOp .eql 64 x y 64)
    (k m : Nat) (hn : k < M256) (hm : m < M256) (hx : a.eval x = wv k) (hy : a.eval y = wv m) (h : wpListIn F n Tryd.prog ops Q rest (a.put o.dst (.bool (k == m))) w) : wpListIn F n Tryd.prog ops Q (o :: rest) a w := by
  refine wpListIn_plain hgd fun K hK => ?_
  unfold Oper.wpIn
  refine ⟨by simp [Oper.about, ho], ?_⟩
  rw [Oper.semAt_plain F _ _ (by rw [ho]; intro c hc'; cases hc')]
  simp only [execOp, ho, hx, hy, wv, Sem.run_bind, run_guard_eql, Result.andThen_ok, run_eql_word k m hn hm]
  exact hK _ _ h

/-- What a round of a loop over bits leaves: whatever is no cells, and the two blocks g and h. -/
def Stp (g h : Nat) (W W' : World) : Prop := KeepsOthers W W' ∧ Kp2 g h W W'
set_option maxRecDepth 100000 in
theorem Stp.refl (g h : Nat) (W : World) : Stp g h W W := ⟨KeepsOthers.refl W, rfl, rfl⟩
set_option maxRecDepth 100000 in
theorem Stp.trans {g h : Nat} {A B C : World} (x : Stp g h A B) (y : Stp g h B C) : Stp g h A C := ⟨x.1.trans y.1, y.2.1.trans x.2.1, y.2.2.trans x.2.2⟩
set_option maxRecDepth 100000 in
theorem Stp.ext {g h : Nat} {W W' : World} (he : Ext W W') (hg : g < W.heap.size) (hh : h < W.heap.size) : Stp g h W W' :=
  ⟨KeepsOthers.of_grownBy (grown_of_ext he none) (fun j o e => by cases e), Below.block he g hg, Below.block he h hh⟩
set_option maxRecDepth 100000 in
theorem Stp.put {g h b : Nat} {t : TypeId} {cs : Array Value} {W W' : World} (hr : W.grownBy W' (some b)) (hc : Cs W b t cs) (hg : g < W.heap.size) (hh : h < W.heap.size) (n1 : g ≠ b) (n2 : h ≠ b) : Stp g h W W' :=
  ⟨KeepsOthers.of_grownBy hr (fun j o e ho => by injection e with e; subst e; unfold Cs at hc; rw [hc] at ho; injection ho with ho; subst ho; rfl), hr.block g hg (by intro e; injection e with e; exact n1 e), hr.block h hh (by intro e; injection e with e; exact n2 e)⟩

set_option maxRecDepth 100000 in
theorem Kp2.tr {g h : Nat} {A B C : World} (x : Kp2 g h A B) (y : Kp2 g h B C) : Kp2 g h A C := ⟨y.1.trans x.1, y.2.trans x.2⟩
set_option maxRecDepth 100000 in
theorem Kp2.putObj {g h B : Nat} (hg : g < B) (hh : h < B) (W : World) (l : Nat) (o o' : Obj) (hl : B ≤ l) (_ : W.heap[l]? = some o) (_ : o.isCells = false) (_ : o.isWalk = false) : Kp2 g h W (W.putObj l o') :=
  ⟨World.putObj_heap_other (by omega), World.putObj_heap_other (by omega)⟩

set_option maxRecDepth 100000 in
theorem two_laid {W : World} {g h : Nat} {t : TypeId} {m m' : Nat} (hg : Cs W g t (wc m)) (hh : Cs W h t (wc m')) (hne : g ≠ h) (q r : Nat) (Y : World)
    (hY : Y = ((((((((W.setCell ⟨g, 0, none⟩ (.int .u64 (lb q 0 : Nat))).setCell ⟨g, 1, none⟩ (.int .u64 (lb q 1 : Nat))).setCell ⟨g, 2, none⟩ (.int .u64 (lb q 2 : Nat))).setCell ⟨g, 3, none⟩ (.int .u64 (lb q 3 : Nat))).setCell ⟨h, 0, none⟩ (.int .u64 (lb r 0 : Nat))).setCell ⟨h, 1, none⟩ (.int .u64 (lb r 1 : Nat))).setCell ⟨h, 2, none⟩ (.int .u64 (lb r 2 : Nat))).setCell ⟨h, 3, none⟩ (.int .u64 (lb r 3 : Nat))).drew) :
    Wd Y g t q ∧ Wd Y h t r ∧ KeepsOthers W Y ∧ ∀ a : World, Ext a W → a.heap.size ≤ g → a.heap.size ≤ h → Ext a Y := by
  subst hY
  refine ⟨?_, ?_, ?_, ?_⟩
  · have h1 := (((hg.set 0 (.int .u64 (lb q 0 : Nat))).set 1 (.int .u64 (lb q 1 : Nat))).set 2 (.int .u64 (lb q 2 : Nat))).set 3 (.int .u64 (lb q 3 : Nat))
    exact ((((h1.kept (grown_set _ h 0 _) (some_ne hne)).kept (grown_set _ h 1 _) (some_ne hne)).kept (grown_set _ h 2 _) (some_ne hne)).kept (grown_set _ h 3 _) (some_ne hne)).drew
  · have h1 := (((hh.kept (grown_set _ g 0 (.int .u64 (lb q 0 : Nat))) (some_ne hne.symm)).kept (grown_set _ g 1 (.int .u64 (lb q 1 : Nat))) (some_ne hne.symm)).kept (grown_set _ g 2 (.int .u64 (lb q 2 : Nat))) (some_ne hne.symm)).kept (grown_set _ g 3 (.int .u64 (lb q 3 : Nat))) (some_ne hne.symm)
    exact ((((h1.set 0 _).set 1 _).set 2 _).set 3 _).drew
  · exact ((((((((KeepsOthers.setCell _ _ _).trans (KeepsOthers.setCell _ _ _)).trans (KeepsOthers.setCell _ _ _)).trans (KeepsOthers.setCell _ _ _)).trans (KeepsOthers.setCell _ _ _)).trans (KeepsOthers.setCell _ _ _)).trans (KeepsOthers.setCell _ _ _)).trans (KeepsOthers.setCell _ _ _)).trans (KeepsOthers.drew _)
  · intro a he h1 h2
    exact ((((((((he.grown (grown_set _ _ _ _) h1).grown (grown_set _ _ _ _) h1).grown (grown_set _ _ _ _) h1).grown (grown_set _ _ _ _) h1).grown (grown_set _ _ _ _) h2).grown (grown_set _ _ _ _) h2).grown (grown_set _ _ _ _) h2).grown (grown_set _ _ _ _) h2).drew

/-- One round of a division: what was there, and what is left. -/
def divS (a b : Nat) (s : Nat × Nat) (k : Nat) : Nat × Nat :=
  if b ≤ ((s.2 + s.2) % M256 ||| dBits a 1 k * 2 ^ 0) then (s.1 ||| 1 * 2 ^ dAt 1 k, (((s.2 + s.2) % M256 ||| dBits a 1 k * 2 ^ 0) + M256 - b) % M256) else (s.1, (s.2 + s.2) % M256 ||| dBits a 1 k * 2 ^ 0)
/-- What the rounds of pre come to. -/
def divL (a b : Nat) (pre : List Nat) : Nat × Nat := pre.foldl (divS a b) (0, 0)
set_option maxRecDepth 100000 in
theorem divL_snoc (a b : Nat) (pre : List Nat) (k : Nat) : divL a b (pre ++ [k]) = divS a b (divL a b pre) k := by simp [divL]

set_option maxRecDepth 100000 in
theorem dBits_lt (n wd k : Nat) : dBits n wd k < 2 ^ wd := Nat.mod_lt _ (Nat.two_pow_pos _)
set_option maxRecDepth 100000 in
theorem divR_lt (a r k : Nat) : (r % M256 ||| dBits a 1 k * 2 ^ 0) < M256 := by
  have h := dBits_lt a 1 k
  rw [M256_pow]
  refine Nat.or_lt_two_pow (Nat.mod_lt _ (Nat.two_pow_pos _)) ?_
  have : (2 : Nat) ^ 1 ≤ 2 ^ 256 := Nat.pow_le_pow_right (by decide) (by decide)
  omega
set_option maxRecDepth 100000 in
theorem divS_lt (a b : Nat) (s : Nat × Nat) (k : Nat) (h1 : s.1 < M256) (_h2 : s.2 < M256) : (divS a b s k).1 < M256 ∧ (divS a b s k).2 < M256 := by
  unfold divS
  split
  · refine ⟨?_, Nat.mod_lt _ (by decide)⟩
    rw [M256_pow] at *
    refine Nat.or_lt_two_pow h1 ?_
    rw [Nat.one_mul]
    exact Nat.pow_lt_pow_right (by decide) (by unfold dAt; omega)
  · exact ⟨h1, divR_lt _ _ _⟩
set_option maxRecDepth 100000 in
theorem divL_lt (a b : Nat) (pre : List Nat) : (divL a b pre).1 < M256 ∧ (divL a b pre).2 < M256 := by
  unfold divL
  suffices h : ∀ s : Nat × Nat, s.1 < M256 → s.2 < M256 → (pre.foldl (divS a b) s).1 < M256 ∧ (pre.foldl (divS a b) s).2 < M256 from h (0, 0) (by decide) (by decide)
  induction pre with
  | nil => exact fun s h1 h2 => ⟨h1, h2⟩
  | cons k pre ih => exact fun s h1 h2 => ih _ (divS_lt a b s k h1 h2).1 (divS_lt a b s k h1 h2).2

/-- What lies between two rounds of a division that began at w. -/
def DvI (w : World) (b q r : Nat) (W : World) : Prop :=
  w.heap.size + 8 ≤ W.heap.size ∧ Wd W (w.heap.size + 1) 64 b ∧ Cs W (w.heap.size + 1 + 1) 64 (wc 0) ∧ Cs W (w.heap.size + 1 + 1 + 1) 64 (wc 0) ∧ Wd W (w.heap.size + 1 + 1 + 1 + 1) 64 q ∧ Wd W (w.heap.size + 1 + 1 + 1 + 1 + 1) 64 r ∧ Ext w W
set_option maxRecDepth 100000 in
theorem DvI.ext {w : World} {b q r : Nat} {W W' : World} (h : DvI w b q r W) (he : Ext W W') : DvI w b q r W' := by
  obtain ⟨h0, h1, h2, h3, h4, h5, h6⟩ := h
  exact ⟨Nat.le_trans h0 he.size, h1.ext he, h2.ext he, h3.ext he, h4.ext he, h5.ext he, h6.trans he⟩
set_option maxRecDepth 100000 in
theorem DvI.far {w : World} {b q r : Nat} {W W' : World} {row : Option Nat} (h : DvI w b q r W) (he : W.grownBy W' row) (hg : ∀ g, row = some g → w.heap.size + 8 ≤ g) : DvI w b q r W' := by
  obtain ⟨h0, h1, h2, h3, h4, h5, h6⟩ := h
  have hn : ∀ j, j < w.heap.size + 8 → some j ≠ row := fun j hj e => by have := hg j e.symm; omega
  exact ⟨Nat.le_trans h0 he.size, h1.kept he (hn _ (by omega)), h2.kept he (hn _ (by omega)), h3.kept he (hn _ (by omega)), h4.kept he (hn _ (by omega)), h5.kept he (hn _ (by omega)), Below.grown h6 he h6.size (fun j hj => by have := hg j hj; omega)⟩
set_option maxRecDepth 100000 in
theorem DvI.setR {w : World} {b q r r' : Nat} {W W' : World} (h : DvI w b q r W) (he : W.grownBy W' (some (w.heap.size + 1 + 1 + 1 + 1 + 1))) (hr : Wd W' (w.heap.size + 1 + 1 + 1 + 1 + 1) 64 r') : DvI w b q r' W' := by
  obtain ⟨h0, h1, h2, h3, h4, h5, h6⟩ := h
  exact ⟨Nat.le_trans h0 he.size, h1.kept he (some_ne (by omega)), h2.kept he (some_ne (by omega)), h3.kept he (some_ne (by omega)), h4.kept he (some_ne (by omega)), hr, h6.grown he (by omega)⟩
set_option maxRecDepth 100000 in
theorem DvI.setQ {w : World} {b q r q' : Nat} {W W' : World} (h : DvI w b q r W) (he : W.grownBy W' (some (w.heap.size + 1 + 1 + 1 + 1))) (hr : Wd W' (w.heap.size + 1 + 1 + 1 + 1) 64 q') : DvI w b q' r W' := by
  obtain ⟨h0, h1, h2, h3, h4, h5, h6⟩ := h
  exact ⟨Nat.le_trans h0 he.size, h1.kept he (some_ne (by omega)), h2.kept he (some_ne (by omega)), h3.kept he (some_ne (by omega)), hr, h5.kept he (some_ne (by omega)), h6.grown he (by omega)⟩
set_option maxRecDepth 100000 in
theorem DvI.own {w : World} {b : Nat} {B : Nat} (hB : w.heap.size + 8 ≤ B) (f : List Nat → Nat × Nat) : OwnFrom B (fun pre W => DvI w b (f pre).1 (f pre).2 W) := by
  intro s A A' row h hg hr
  exact h.far hg (fun g e => Nat.le_trans hB (hr g e).1)

end Go.Proofs.YthjmjccggkejhaaDoor
namespace Go.Proofs.YthjmjccggkejhaaDoor
open Go.RowKit Go.Shelf

set_option maxRecDepth 100000 in
theorem dAt_one (k : Nat) : dAt 1 k = 255 - k := by unfold dAt; omega

set_option maxRecDepth 100000 in
theorem divS_step (a b k q r m : Nat) (hb : 0 < b) (hbM : b < M256) (ha : a < M256) (hm : m = a / 2 ^ (255 - k)) (hq : q = m / 2 / b * 2 ^ (255 - k + 1)) (hr : r = m / 2 % b) :
    divS a b (q, r) k = (m / b * 2 ^ (255 - k), m % b) := by
  have hbit : dBits a 1 k = m % 2 := by unfold dBits; rw [dAt_one, ← hm]
  have hml : m ≤ a := by rw [hm]; exact Nat.div_le_self _ _
  have hrb : r < b := by rw [hr]; exact Nat.mod_lt _ hb
  have hrm : r ≤ m / 2 := by rw [hr]; exact Nat.mod_le _ _
  have e1 : (r + r) % M256 ||| dBits a 1 k * 2 ^ 0 = 2 * r + m % 2 := by
    rw [hbit, Nat.pow_zero, Nat.mul_one, Nat.mod_eq_of_lt (by unfold M256 at *; omega), ← Nat.two_mul]
    exact (Nat.two_pow_add_eq_or_of_lt (i := 1) (b := m % 2) (by omega) r).symm
  have hdm : m = b * (2 * (m / 2 / b)) + (2 * r + m % 2) := by
    have h1 := Nat.div_add_mod m 2
    have h2 := Nat.div_add_mod (m / 2) b
    rw [← hr] at h2
    rw [Nat.mul_left_comm]
    omega
  generalize hQ : m / 2 / b = Q at *
  unfold divS
  simp only [e1]
  rw [dAt_one]
  by_cases hle : b ≤ 2 * r + m % 2
  · rw [if_pos hle]
    have hdiv : m / b = 2 * Q + 1 ∧ m % b = 2 * r + m % 2 - b := (Nat.div_mod_unique hb).2 ⟨by rw [Nat.mul_add, Nat.mul_one]; omega, by omega⟩
    have e2 : q ||| 1 * 2 ^ (255 - k) = q + 1 * 2 ^ (255 - k) := by
      refine or_free (255 - k) 1 q 1 ?_ (by decide)
      rw [hq, Nat.pow_succ, Nat.mul_comm (2 ^ (255 - k)), ← Nat.mul_assoc, Nat.mul_div_cancel _ (Nat.two_pow_pos _), Nat.pow_one, Nat.mul_mod_left]
    have e3 : (2 * r + m % 2 + M256 - b) % M256 = 2 * r + m % 2 - b := by
      rw [show 2 * r + m % 2 + M256 - b = 2 * r + m % 2 - b + M256 by omega, Nat.add_mod_right, Nat.mod_eq_of_lt (by unfold M256 at *; omega)]
    rw [e2, e3, hdiv.1, hdiv.2, hq, Nat.pow_succ]
    congr 1
    rw [Nat.add_mul, Nat.mul_comm (2 ^ (255 - k)), ← Nat.mul_assoc, Nat.mul_comm Q]
  · rw [if_neg hle]
    have hdiv : m / b = 2 * Q ∧ m % b = 2 * r + m % 2 := (Nat.div_mod_unique hb).2 ⟨by omega, by omega⟩
    rw [hdiv.1, hdiv.2, hq, Nat.pow_succ]
    congr 1
    rw [Nat.mul_comm (2 ^ (255 - k)), ← Nat.mul_assoc, Nat.mul_comm Q]

set_option maxRecDepth 100000 in
theorem divL_range (a b : Nat) (ha : a < M256) (hb : 0 < b) (hbM : b < M256) : ∀ k, k ≤ 256 → divL a b (List.range k) = (a / 2 ^ (256 - k) / b * 2 ^ (256 - k), a / 2 ^ (256 - k) % b)
  | 0, _ => by
    have : a / 2 ^ 256 = 0 := Nat.div_eq_of_lt ha
    simp [divL, this]
  | k + 1, h => by
    have ih := divL_range a b ha hb hbM k (by omega)
    rw [List.range_succ, divL_snoc, ih, show 256 - k = 255 - k + 1 by omega, show 256 - (k + 1) = 255 - k by omega]
    have e : a / 2 ^ (255 - k + 1) = a / 2 ^ (255 - k) / 2 := by rw [Nat.div_div_eq_div_mul, Nat.pow_succ]
    exact divS_step a b k _ _ _ hb hbM ha rfl (by rw [e]) (by rw [e])

set_option maxRecDepth 100000 in
theorem divL_all (a b : Nat) (ha : a < M256) (hb : 0 < b) (hbM : b < M256) : divL a b (List.range 256) = (a / b, a % b) := by
  rw [divL_range a b ha hb hbM 256 (by omega)]
  simp

/-- How many times, and what is left: two noughts, where b is 0. -/
def quoN (a b : Nat) : Nat := a / b
def remN (a b : Nat) : Nat := if b = 0 then 0 else a % b

end Go.Proofs.YthjmjccggkejhaaDoor
namespace Go.Proofs.YthjmjccggkejhaaDoor
open Go.RowKit Go.Shelf
attribute [local go_sem] Oper.semAt_some


/-- A row of the call's own: the block gr with room for cap bytes, of which those of l are there; and its variable's box. -/
def RwI (w : World) (N0 Bt gr cap : Nat) (l : List UInt8) (W : World) : Prop :=
  N0 ≤ W.heap.size ∧ Cs W Bt 24 #[.slice (some ⟨gr, 0, none⟩) l.length cap] ∧ Own W w.heap.size 5 (.slice (some ⟨gr, 0, none⟩) l.length cap) l ∧ Ext w W

set_option maxRecDepth 100000 in
theorem RwI.row {w : World} {N0 Bt gr cap : Nat} {l : List UInt8} {W : World} (h : RwI w N0 Bt gr cap l W) : ∃ cs, Cs W gr 5 cs := by
  rcases h.2.2.1.2 with ⟨e, _⟩ | ⟨g, c, cur, e, _, hg, _⟩
  · cases e
  · injection e with e1 e2 e3
    injection e1 with e1
    injection e1 with e1
    subst e1
    exact ⟨cur, hg⟩
set_option maxRecDepth 100000 in
theorem RwI.ext {w : World} {N0 Bt gr cap : Nat} {l : List UInt8} {W W' : World} (h : RwI w N0 Bt gr cap l W) (he : Ext W W') : RwI w N0 Bt gr cap l W' := ⟨Nat.le_trans h.1 he.size, h.2.1.ext he, h.2.2.1.ext he, h.2.2.2.trans he⟩
set_option maxRecDepth 100000 in
theorem RwI.far {w : World} {N0 Bt gr cap : Nat} {l : List UInt8} {W W' : World} {row : Option Nat} (h : RwI w N0 Bt gr cap l W) (he : W.grownBy W' row) (h1 : some Bt ≠ row) (h2 : some gr ≠ row) (h3 : ∀ g, row = some g → w.heap.size ≤ g) : RwI w N0 Bt gr cap l W' :=
  ⟨Nat.le_trans h.1 he.size, h.2.1.kept he h1, World.ownsRow.kept h.2.2.1 he (.inr h2), Below.grown h.2.2.2 he h.2.2.2.size h3⟩
set_option maxRecDepth 100000 in
theorem RwI.own {w : World} {N0 Bt gr cap B : Nat} (hB1 : Bt < B) (hB2 : gr < B) (hB3 : w.heap.size ≤ B) (f : List Nat → List UInt8) : OwnFrom B (fun pre W => RwI w N0 Bt gr cap (f pre) W) := by
  intro s A A' row h hg hr
  exact h.far hg (fun e => by have := (hr _ e.symm).1; omega) (fun e => by have := (hr _ e.symm).1; omega) (fun g e => by have := (hr _ e).1; omega)

set_option maxRecDepth 100000 in
/-- A byte is put behind the row, and the variable is set. -/
theorem RwI.push {w : World} {N0 Bt gr cap : Nat} {l : List UInt8} {W w2 : World} (h : RwI w N0 Bt gr cap l W) (o : Obj) (c : UInt8) (hne : Bt ≠ gr) (hBt : w.heap.size ≤ Bt) (hgr : w.heap.size ≤ gr)
    (ho : w2.ownsRow w.heap.size 5 1 (.slice (some ⟨gr, 0, none⟩) (l.length + 1) cap) (l.length + 1) (l.map bv ++ [bv c])) (hg : (W.alloc o).grownBy w2 (some gr)) :
    RwI w N0 Bt gr cap (l ++ [c]) (w2.setCell ⟨Bt, 0, none⟩ (.slice (some ⟨gr, 0, none⟩) (l.length + 1) cap)) ∧ (∀ g h : Nat, g < W.heap.size → h < W.heap.size → g ≠ Bt → g ≠ gr → h ≠ Bt → h ≠ gr → Stp g h W (w2.setCell ⟨Bt, 0, none⟩ (.slice (some ⟨gr, 0, none⟩) (l.length + 1) cap))) ∧
      w2.cell? ⟨Bt, 0, none⟩ = some (.slice (some ⟨gr, 0, none⟩) l.length cap) ∧ w2.frozen? ⟨Bt, 0, none⟩ = false := by
  have hb := (h.2.1.alloc o).kept hg (some_ne hne)
  have hlen : (l ++ [c]).length = l.length + 1 := by simp
  obtain ⟨cs, hcs⟩ := h.row
  have hsz : N0 ≤ w2.heap.size := by have h1 := h.1; have h2 := hg.size; simp at h2; omega
  refine ⟨⟨Nat.le_trans hsz (by simp), ?_, ?_, ?_⟩, ?_, hb.cell 0 _ rfl, hb.frozen 0⟩
  · rw [hlen]
    exact hb.set 0 _
  · unfold Own
    rw [hlen, List.map_append]
    exact World.ownsRow.kept ho (grown_set w2 Bt 0 _) (.inr (some_ne hne.symm))
  · exact ((h.2.2.2.alloc o).grown hg hgr).grown (grown_set w2 Bt 0 _) hBt
  · intro g h' h1 h2 n1 n2 n3 n4
    have e1 : W.heap.size ≤ (W.alloc o).heap.size := by simp
    have e2 := hg.size
    exact ((Stp.ext ((Ext.refl W).alloc o) h1 h2).trans (Stp.put hg (hcs.alloc o) (by omega) (by omega) n2 n4)).trans (Stp.put (grown_set w2 Bt 0 _) hb (by omega) (by omega) n1 n3)

/-- The bytes that the rounds of pre bring. -/
def bytL (n : Nat) (pre : List Nat) : List UInt8 := pre.map fun k => UInt8.ofNat (dBits n 8 k)
set_option maxRecDepth 100000 in
theorem bytL_snoc (n : Nat) (pre : List Nat) (k : Nat) : bytL n (pre ++ [k]) = bytL n pre ++ [UInt8.ofNat (dBits n 8 k)] := by simp [bytL]
set_option maxRecDepth 100000 in
theorem bytL_len (n : Nat) (pre : List Nat) : (bytL n pre).length = pre.length := by simp [bytL]


set_option maxRecDepth 100000 in
set_option maxHeartbeats 2000000 in
theorem bytes_any (n : Nat) (w : World) :
    Calls Tryd.prog 61 #[wv n] w (RetB w (bytL n (List.range 32))) := by
  refine (callsIn_wide (n := 9)).1 ?_
  refine callsIn_of_wp_marks Tryd.func61 rfl trivial ?_ rfl
  simp only [Tryd.ntmps61, List.size_toArray, List.length_cons, List.length_nil, Nat.reduceAdd, Nat.reduceSub, Array.replicate_succ, Array.replicate_zero, List.push_toArray, List.append_toArray, List.nil_append, List.cons_append]
  unfold wv
  obtain ⟨i0, hi, hz0, hz1, hz2⟩ := info_parts u8info
  gi_wp2_with (first
    | (gi_at_make; refine wpListIn_make_own _ rfl _ _ 24 rfl w.heap.size 5 i0 (.int .u8 0) 1 Tryd.underlying24 hi hz0 hz1 .i64 .i64 32 32 rfl rfl rfl (by rw [hz2]; decide) (by unfold maxLen; omega) (by simp) ?_; intro w0 ho0 hg0; rw [World.size_alloc] at ho0 ⊢; have HO0 := Lib.hid ho0; have HG0 := Lib.hid hg0; clear ho0 hg0)
    | ((with_reducible refine wpListIn_load_word rfl 64 33 (.tmp 1) rfl Tryd.underlying64 winfo w.heap.size n ?_ ?_ ?_); (exact rfl); (exact ((Cs.new _ _ _ _ rfl).kept HG0.out (by simp)).alloc _)))
  refine ⟨trivial, ?_⟩
  refine (callsIn_wide.2 (downward_any n 8 _ rfl _)).mono ?_
  rintro e w1 ⟨g, h, rfl, hg, hh, c1, c2, hz, he⟩
  have hs0 : w.heap.size + 1 < w0.heap.size := by
    rcases HO0.out.2 with ⟨e, _⟩ | ⟨g', c', cur, e, _, hg', _⟩
    · cases e
    · injection e with e1
      injection e1 with e1
      injection e1 with e1
      subst e1
      exact (Array.getElem?_eq_some_iff.1 hg').1
  have hg' : g = w0.heap.size + 2 := by rw [hg]; simp
  have hh' : h = w0.heap.size + 1 := by rw [hh]; simp
  have hz' : w1.heap.size = w0.heap.size + 3 := by rw [hz]; simp
  have hI0 : RwI w (w0.heap.size + 3) w0.heap.size (w.heap.size + 1) 32 (bytL n []) w1 :=
    ⟨by omega, Cs.ext (Cs.new _ _ _ _ rfl) he, Own.ext (Own.ext (show Own w0 w.heap.size 5 (.slice (some ⟨w.heap.size + 1, 0, none⟩) 0 32) [] from HO0.out) ((Ext.refl w0).alloc _)) he, Ext.trans ((((Ext.refl w).alloc _).trans (ext_of_grown HG0.out)).alloc _) he⟩
  have HI0 := Lib.hid hI0
  clear hI0 hg hh hz he
  subst hg'
  subst hh'
  gi_wp2_with fail
  refine wpIn_rangeFunc_ownG rfl (by decide) (gf := 90) (lb := #[.pointer (some ⟨w0.heap.size + 2, 0, none⟩), .pointer (some ⟨w0.heap.size + 1, 0, none⟩)]) rfl trivial (enters_of Tryd.func90 (by kernel_rfl) rfl)
    (down1_stops 8 n 8 32 (w0.heap.size + 2) (w0.heap.size + 1) (by decide) (by decide) (by decide) (by decide) (by decide) w1 c1 c2) Kp2.tr (Kp2.putObj (by omega) (by omega)) (Below.refl _ _) (fun _ => rfl)
    (fun pre W => RwI w (w0.heap.size + 3) w0.heap.size (w.heap.size + 1) 32 (bytL n pre) W) (fun _ _ _ => False) (RwI.own (by omega) (by omega) (by omega) (bytL n)) (fun _ _ _ _ _ hs _ _ => hs) HI0.out
    (fun x => { tmps := #[.agg (wc n), .pointer (some ⟨w.heap.size, 0, none⟩), .slice none 0 0, .pointer (some ⟨w0.heap.size, 0, none⟩), undef, .int .u64 (dBits n 8 x : Nat), .slice (some ⟨w.heap.size + 1, 0, none⟩) 0 32, wv n, .func (.func 90) #[] #[.pointer (some ⟨w0.heap.size + 2, 0, none⟩), .pointer (some ⟨w0.heap.size + 1, 0, none⟩)], .int .i64 (dAt 8 x : Nat), .int .u64 (dBits n 8 x : Nat), undef, undef, undef, undef, undef, undef], defers := [] }) ?assign ?body ?done ?stop
  case assign =>
    intro l x W K hK
    unfold dEnc
    gi_wp2
    exact hK
  case body =>
    rintro l pre x W hI hlen
    have hsz := hI.1
    have HI := Lib.hid hI
    have HS := Lib.hid (bytL_snoc n pre x)
    have hb := dBits_lt n 8 x
    have hln : (bytL n pre).length < 32 := by rw [bytL_len]; exact hlen
    have hcl : W.cell? ⟨w0.heap.size, 0, none⟩ = some (.slice (some ⟨w.heap.size + 1, 0, none⟩) (bytL n pre).length 32) := hI.2.1.cell 0 _ rfl
    have hcf := hI.2.1.frozen 0
    clear hI hlen HI0
    generalize bytL n pre = r at *
    generalize dBits n 8 x = y at *
    have hy : IntKind.u8.wrap (y : Int) = (y : Int) := IntWalk.u8_in _ (by omega)
    have HV := Lib.hid (show Value.int .u8 (y : Int) = bv (UInt8.ofNat y) from bv_of (y : Int) (by omega) (by omega))
    gi_wp2_with (gi_at_builtin; refine wpListIn_append_fits _ rfl (.tmp 11) (.tmp 14) 24 rfl w.heap.size 5 i0 1 Tryd.underlying24 hi hz1 (w.heap.size + 1) r.length 32 (r.map bv) rfl (HI.out.2.2.1.ext ((Ext.refl W).alloc _)) ⟨W.heap.size, 0, none⟩ 1 1 [.int .u8 (y : Int)] rfl rfl (cell_one_new _ _ _) (by simp [Value.oneCell']) (by omega) ?_; intro w2 ho2 hg2; rw [HV.out] at ho2; have HP := Lib.hid (HI.out.push _ _ (by omega) (by omega) (by omega) ho2 hg2); clear ho2 hg2; have hc2 := HP.out.2.2.1; have hf2 := HP.out.2.2.2)
    refine ⟨(HP.out.2.1 (w0.heap.size + 2) (w0.heap.size + 1) (by omega) (by omega) (by omega) (by omega) (by omega) (by omega)).1.from _, (HP.out.2.1 (w0.heap.size + 2) (w0.heap.size + 1) (by omega) (by omega) (by omega) (by omega) (by omega) (by omega)).2, ?_⟩
    show RwI w (w0.heap.size + 3) w0.heap.size (w.heap.size + 1) 32 (bytL n (pre ++ [x])) _
    rw [HS.out]
    exact HP.out.1
  case done =>
    rintro D ys W hD rfl hI hK
    have HI := Lib.hid hI
    have HK := Lib.hid hK
    have hcl : W.cell? ⟨w0.heap.size, 0, none⟩ = some (.slice (some ⟨w.heap.size + 1, 0, none⟩) (bytL n (List.range 32)).length 32) := hI.2.1.cell 0 _ rfl
    clear hI hK HI0
    generalize bytL n (List.range 32) = r at *
    gi_wp2_with fail
    refine ⟨by simp, .inl ⟨_, _, rfl, run_takeDeferred HK.out, ?_⟩⟩
    exact ⟨.slice (some ⟨w.heap.size + 1, 0, none⟩) r.length 32, results_tmp (t := 2) rfl _ _ _, _, rfl, ownsRow_putObj HI.out.2.2.1 _ HK.out rfl, HI.out.2.2.2.grown (grownBy_putObj' _ D (.deferred none)) (by omega)⟩
  case stop =>
    rintro D c pre W _ _ h _
    exact h.elim
end Go.Proofs.YthjmjccggkejhaaDoor
namespace Go.Proofs.YthjmjccggkejhaaDoor
open Go.RowKit Go.Shelf
attribute [local go_sem] Oper.semAt_some

set_option maxRecDepth 100000 in
theorem nums_of (l : List UInt8) : strOfNums (l.map fun c => (c.toNat : Int)) = ⟨l.toArray⟩ := by
  unfold strOfNums
  congr 2
  rw [List.map_map]
  conv => rhs; rw [← List.map_id l]
  apply List.map_congr_left
  intro c _
  simp

set_option maxRecDepth 100000 in
theorem Bs.conv {P : Program} {w : World} {v : Value} {l : List UInt8} (h : Bs w v l) (src e dst : TypeId) (hs : P.underlying src = some (.slice e)) (he : P.underlying e = some (.int .u8)) (hd : P.underlying dst = some .string) :
    (convert src dst v).run P w = .ok (.string ⟨l.toArray⟩) w := by
  obtain ⟨A, c, rfl, h1, h2, h3⟩ := h
  rcases Nat.eq_zero_or_pos l.length with h0 | h0
  · obtain rfl : l = [] := List.eq_nil_of_length_eq_zero h0
    exact run_convert_bytes_zero w src e hs he A c dst hd
  · obtain ⟨b, o, rfl, hc⟩ := h3 h0
    rw [← nums_of]
    refine run_convert_bytes_arg (P := P) w src e hs he b o _ c _ (by simp) ?_ dst hd
    intro i hi
    rw [hc i hi]
    simp [bv, List.getD, List.getElem?_eq_getElem hi]

/-- The digit of a number below 16. -/
def dgt (y : Nat) : UInt8 := if y < 10 then UInt8.ofNat (48 + y) else UInt8.ofNat (87 + y)

/-- What a round adds to the digits. -/
def txtS (n : Nat) (l : List UInt8) (k : Nat) : List UInt8 := if dBits n 4 k ≠ 0 ∨ l ≠ [] ∨ dAt 4 k = 0 then l ++ [dgt (dBits n 4 k)] else l
def txtL (n : Nat) (pre : List Nat) : List UInt8 := pre.foldl (txtS n) []
set_option maxRecDepth 100000 in
theorem txtL_snoc (n : Nat) (pre : List Nat) (k : Nat) : txtL n (pre ++ [k]) = txtS n (txtL n pre) k := by simp [txtL]
set_option maxRecDepth 100000 in
theorem txtS_len (n : Nat) (l : List UInt8) (k : Nat) : (txtS n l k).length ≤ l.length + 1 := by unfold txtS; split <;> simp
set_option maxRecDepth 100000 in
theorem txtL_len (n : Nat) (pre : List Nat) : (txtL n pre).length ≤ pre.length := by
  unfold txtL
  suffices h : ∀ s : List UInt8, (pre.foldl (txtS n) s).length ≤ s.length + pre.length by simpa using h []
  induction pre with
  | nil => simp
  | cons k pre ih =>
    intro s
    have h1 := ih (txtS n s k)
    have h2 := txtS_len n s k
    simp only [List.foldl_cons, List.length_cons]
    omega

set_option maxRecDepth 100000 in
theorem idx_digit (y : Nat) (hy : y < 16) (w : World) : (Instr.index 9 (.string ⟨#[48, 49, 50, 51, 52, 53, 54, 55, 56, 57, 97, 98, 99, 100, 101, 102]⟩) (.int .u64 (y : Nat))).run Tryd.prog w = .ok (.int .u8 ((dgt y).toNat : Int)) w := by
  have h : y = 0 ∨ y = 1 ∨ y = 2 ∨ y = 3 ∨ y = 4 ∨ y = 5 ∨ y = 6 ∨ y = 7 ∨ y = 8 ∨ y = 9 ∨ y = 10 ∨ y = 11 ∨ y = 12 ∨ y = 13 ∨ y = 14 ∨ y = 15 := by omega
  rcases h with rfl | rfl | rfl | rfl | rfl | rfl | rfl | rfl | rfl | rfl | rfl | rfl | rfl | rfl | rfl | rfl <;> rfl

set_option maxRecDepth 100000 in
theorem RwI.drew {w : World} {N0 Bt gr cap : Nat} {l : List UInt8} {W : World} (h : RwI w N0 Bt gr cap l W) : RwI w N0 Bt gr cap l W.drew := h.ext (Ext.refl W).drew

set_option maxRecDepth 100000 in
/-- A byte is laid behind the row where there is room, and the variable is set. -/
theorem RwI.lay {w : World} {N0 Bt gr cap : Nat} {l : List UInt8} {W : World} (h : RwI w N0 Bt gr cap l W) (o : Obj) (c : UInt8) (hne : Bt ≠ gr) (hBt : w.heap.size ≤ Bt) (hgr : w.heap.size ≤ gr) (hl : l.length < cap) :
    RwI w N0 Bt gr cap (l ++ [c]) (((W.alloc o).setCell ⟨gr, l.length, none⟩ (bv c)).setCell ⟨Bt, 0, none⟩ (.slice (some ⟨gr, 0, none⟩) (l.length + 1) cap)) ∧
      (∀ g h : Nat, g < W.heap.size → h < W.heap.size → g ≠ Bt → g ≠ gr → h ≠ Bt → h ≠ gr → Stp g h W (((W.alloc o).setCell ⟨gr, l.length, none⟩ (bv c)).setCell ⟨Bt, 0, none⟩ (.slice (some ⟨gr, 0, none⟩) (l.length + 1) cap))) ∧
      (∃ u, W.cell? ⟨gr, l.length, none⟩ = some u) ∧ W.frozen? ⟨gr, l.length, none⟩ = false := by
  have hown := h.2.2.1
  rcases hown.2 with ⟨e, _⟩ | ⟨g, c', cur, e, hb, hg, hnc, hcm, hcs, htake⟩
  · cases e
  · injection e with e1 e2 e3
    injection e1 with e1
    injection e1 with e1
    subst e1
    subst e3
    have hrow : Cs W gr 5 cur := hg
    have hlt : l.length < cur.size := by rw [hcs]; omega
    refine ⟨(h.push o c hne hBt hgr ?_ (grown_set _ gr l.length (bv c))).1, (h.push o c hne hBt hgr ?_ (grown_set _ gr l.length (bv c))).2.1, ⟨cur[l.length], hrow.cell _ _ (Array.getElem?_eq_getElem hlt)⟩, hrow.frozen _⟩
    all_goals
      refine ⟨by simp, .inr ⟨gr, cap, cur.setIfInBounds l.length (bv c), rfl, hb, (hrow.alloc o).set l.length (bv c), by omega, hcm, by simpa using hcs, ?_⟩⟩
      rw [Array.toList_setIfInBounds, Nat.mul_one, List.take_set, List.take_succ_eq_append_getElem (by simpa using hlt)]
      rw [Nat.mul_one] at htake
      rw [htake]
      rw [List.set_append_right _ _ (by simp)]
      simp

end Go.Proofs.YthjmjccggkejhaaDoor
namespace Go.Proofs.YthjmjccggkejhaaDoor
open Go.RowKit

namespace Mu
set_option maxRecDepth 100000 in
theorem maskN (a : Nat) (ha : a < 18446744073709551616) : bits .and .u64 (a : Int) 4294967295 = ((a % 4294967296 : Nat) : Int) := by
  have h := u64_and_nat a 4294967295 ha (by omega)
  have e : a &&& 4294967295 = a % 4294967296 := Nat.and_two_pow_sub_one_eq_mod a 32
  rw [e] at h
  exact h
set_option maxRecDepth 100000 in
theorem divN (a : Nat) : (a : Int) / 4294967296 = ((a / 4294967296 : Nat) : Int) := by omega
set_option maxRecDepth 100000 in
theorem mulN (a b : Nat) : (a : Int) * (b : Int) = ((a * b : Nat) : Int) := (Int.natCast_mul a b).symm
set_option maxRecDepth 100000 in
theorem addN (a b : Nat) : (a : Int) + (b : Int) = ((a + b : Nat) : Int) := (Int.natCast_add a b).symm
set_option maxRecDepth 100000 in
theorem wrapN (a : Nat) (ha : a < 18446744073709551616) : IntKind.u64.wrap (a : Int) = (a : Int) := by rw [IntKind.wrap_u64]; omega
set_option maxRecDepth 100000 in
theorem wrapM (a : Nat) : IntKind.u64.wrap (a : Int) = ((a % 18446744073709551616 : Nat) : Int) := by rw [IntKind.wrap_u64]; omega
end Mu

/-- x times y, c and d added: the lower and the upper limb. -/
def maLo (x y c d : Nat) : Nat := (x * y + c + d) % 18446744073709551616
def maHi (x y c d : Nat) : Nat := (x * y + c + d) / 18446744073709551616

set_option maxRecDepth 100000 in
theorem mul_le64 (x y : Nat) (hx : x < 18446744073709551616) (hy : y < 18446744073709551616) : x * y ≤ 340282366920938463426481119284349108225 := by
  have h := Nat.mul_le_mul (Nat.le_pred_of_lt hx) (Nat.le_pred_of_lt hy)
  exact h

set_option maxRecDepth 100000 in
theorem ret_pair {k : IntKind} {a b a' b' : Int} (h1 : a = a') (h2 : b = b') : Ending.returned (.tuple #[.int k a, .int k b]) = .returned (.tuple #[.int k a', .int k b']) := by rw [h1, h2]

set_option maxRecDepth 100000 in
theorem lb_mod (n i : Nat) : lb n i = n % 18446744073709551616 ^ (i + 1) / 18446744073709551616 ^ i := by
  unfold lb
  rw [Nat.pow_succ, Nat.mod_mul_right_div_self]

/-- The number n, its limb at k another one. -/
def setD (n k z : Nat) : Nat := n % 18446744073709551616 ^ k + z * 18446744073709551616 ^ k + n / 18446744073709551616 ^ (k + 1) * 18446744073709551616 ^ (k + 1)

set_option maxRecDepth 100000 in
theorem setD_eq (n k z : Nat) : setD n k z + lb n k * 18446744073709551616 ^ k = n + z * 18446744073709551616 ^ k := by
  unfold setD lb
  have h1 := Nat.div_add_mod n (18446744073709551616 ^ k)
  have h2 := Nat.div_add_mod (n / 18446744073709551616 ^ k) 18446744073709551616
  rw [Nat.div_div_eq_div_mul, ← Nat.pow_succ] at h2
  have h3 : n / 18446744073709551616 ^ (k + 1) * 18446744073709551616 ^ (k + 1) + n / 18446744073709551616 ^ k % 18446744073709551616 * 18446744073709551616 ^ k = n / 18446744073709551616 ^ k * 18446744073709551616 ^ k := by
    have e : n / 18446744073709551616 ^ (k + 1) * 18446744073709551616 ^ (k + 1) = 18446744073709551616 * (n / 18446744073709551616 ^ (k + 1)) * 18446744073709551616 ^ k := by
      generalize n / 18446744073709551616 ^ (k + 1) = m
      rw [Nat.pow_succ, Nat.mul_comm (18446744073709551616 ^ k), ← Nat.mul_assoc, Nat.mul_comm m]
    rw [e, ← Nat.add_mul, h2]
  rw [Nat.mul_comm] at h1
  omega

set_option maxRecDepth 100000 in
theorem setD_lb (n k z i : Nat) (hz : z < 18446744073709551616) : lb (setD n k z) i = if i = k then z else lb n i := by
  have hB : ∀ j, 0 < 18446744073709551616 ^ j := fun j => Nat.pow_pos (by decide)
  have hlow : n % 18446744073709551616 ^ k + z * 18446744073709551616 ^ k < 18446744073709551616 ^ (k + 1) := by
    have h1 := Nat.mod_lt n (hB k)
    have h2 : (z + 1) * 18446744073709551616 ^ k ≤ 18446744073709551616 * 18446744073709551616 ^ k := Nat.mul_le_mul_right _ hz
    rw [Nat.pow_succ, Nat.mul_comm (18446744073709551616 ^ k)]
    rw [Nat.add_mul, Nat.one_mul] at h2
    omega
  by_cases hik : i = k
  · subst hik
    rw [if_pos rfl, lb_mod]
    unfold setD
    rw [Nat.add_mul_mod_self_right, Nat.mod_eq_of_lt hlow, Nat.add_mul_div_right _ _ (hB i), Nat.div_eq_of_lt (Nat.mod_lt _ (hB i)), Nat.zero_add]
  · rw [if_neg hik]
    by_cases hlt : i < k
    · rw [lb_mod, lb_mod]
      congr 1
      unfold setD
      obtain ⟨d, rfl⟩ : ∃ d, k = i + 1 + d := ⟨k - (i + 1), by omega⟩
      have e1 : z * 18446744073709551616 ^ (i + 1 + d) = z * 18446744073709551616 ^ d * 18446744073709551616 ^ (i + 1) := by rw [Nat.pow_add, Nat.mul_comm (18446744073709551616 ^ (i + 1)), Nat.mul_assoc]
      have e2 : n / 18446744073709551616 ^ (i + 1 + d + 1) * 18446744073709551616 ^ (i + 1 + d + 1) = n / 18446744073709551616 ^ (i + 1 + d + 1) * 18446744073709551616 ^ (d + 1) * 18446744073709551616 ^ (i + 1) := by
        rw [show i + 1 + d + 1 = d + 1 + (i + 1) by omega, Nat.pow_add, Nat.mul_assoc]
      rw [e1, e2, Nat.add_mul_mod_self_right, Nat.add_mul_mod_self_right]
      exact Nat.mod_mod_of_dvd _ (Nat.pow_dvd_pow _ (by omega))
    · have hgt : k + 1 ≤ i := by omega
      obtain ⟨d, rfl⟩ : ∃ d, i = k + 1 + d := ⟨i - (k + 1), by omega⟩
      unfold lb
      congr 1
      rw [Nat.pow_add, ← Nat.div_div_eq_div_mul, ← Nat.div_div_eq_div_mul]
      congr 1
      unfold setD
      rw [Nat.add_mul_div_right _ _ (hB (k + 1)), Nat.div_eq_of_lt hlow, Nat.zero_add]

/-- The eight cells of a product. -/
def pc (n : Nat) : Array Value := ((List.range 8).map fun i => lv (lb n i)).toArray
set_option maxRecDepth 100000 in
theorem pc_size (n : Nat) : (pc n).size = 8 := rfl
set_option maxRecDepth 100000 in
theorem pc_get (n i : Nat) (h : i < 8) : (pc n)[i]? = some (lv (lb n i)) := by
  unfold pc
  simp [h]
set_option maxRecDepth 100000 in
theorem pc_set (n k z : Nat) (hz : z < 18446744073709551616) : (pc n).setIfInBounds k (lv z) = pc (setD n k z) := by
  apply Array.toList_inj.1
  rw [Array.toList_setIfInBounds]
  show ((List.range 8).map fun i => lv (lb n i)).set k (lv z) = (List.range 8).map fun i => lv (lb (setD n k z) i)
  apply List.ext_getElem (by simp)
  intro i h1 h2
  rw [List.getElem_set]
  simp only [List.getElem_map, List.getElem_range, setD_lb n k z i hz]
  by_cases h : k = i
  · subst h
    simp
  · rw [if_neg h, if_neg (fun e => h e.symm)]
set_option maxRecDepth 100000 in
theorem pc_zero : pc 0 = #[.int .u64 0, .int .u64 0, .int .u64 0, .int .u64 0, .int .u64 0, .int .u64 0, .int .u64 0, .int .u64 0] := rfl


set_option maxRecDepth 100000 in
theorem lb_top (b j : Nat) : b % 18446744073709551616 ^ (j + 1) = b % 18446744073709551616 ^ j + lb b j * 18446744073709551616 ^ j := by
  unfold lb
  have h := Nat.mod_mul (x := b) (a := 18446744073709551616 ^ j) (b := 18446744073709551616)
  rw [Nat.pow_succ, h, Nat.mul_comm (18446744073709551616 ^ j)]

set_option maxRecDepth 100000 in
/-- One step of the inner loop. -/
theorem mul_step (P c x y A b i j : Nat) (_hi : i < 4) (hj : j < 4) (hy : y = lb b j) (hP : P < 18446744073709551616 ^ (i + 4)) (h : P + c * 18446744073709551616 ^ (i + j) = A * b + x * (b % 18446744073709551616 ^ j) * 18446744073709551616 ^ i) :
    setD P (i + j) (maLo x y (lb P (i + j)) c) + maHi x y (lb P (i + j)) c * 18446744073709551616 ^ (i + (j + 1)) = A * b + x * (b % 18446744073709551616 ^ (j + 1)) * 18446744073709551616 ^ i ∧ setD P (i + j) (maLo x y (lb P (i + j)) c) < 18446744073709551616 ^ (i + 4) := by
  have h1 := setD_eq P (i + j) (maLo x y (lb P (i + j)) c)
  have h2 : maLo x y (lb P (i + j)) c + 18446744073709551616 * maHi x y (lb P (i + j)) c = x * y + lb P (i + j) + c := Nat.mod_add_div _ _
  have hlo : maLo x y (lb P (i + j)) c < 18446744073709551616 := Nat.mod_lt _ (by decide)
  have e1 : maHi x y (lb P (i + j)) c * 18446744073709551616 ^ (i + (j + 1)) = 18446744073709551616 * maHi x y (lb P (i + j)) c * 18446744073709551616 ^ (i + j) := by
    rw [show i + (j + 1) = i + j + 1 by omega, Nat.pow_succ, Nat.mul_comm (18446744073709551616 ^ (i + j)), ← Nat.mul_assoc, Nat.mul_comm (maHi _ _ _ _)]
  have e2 : x * (b % 18446744073709551616 ^ (j + 1)) * 18446744073709551616 ^ i = x * (b % 18446744073709551616 ^ j) * 18446744073709551616 ^ i + x * y * 18446744073709551616 ^ (i + j) := by
    rw [lb_top, ← hy, Nat.mul_add, Nat.add_mul, Nat.pow_add, Nat.mul_comm (18446744073709551616 ^ i), Nat.mul_assoc x y, Nat.mul_assoc x (y * _), Nat.mul_assoc y]
  have h3 := congrArg (· * 18446744073709551616 ^ (i + j)) h2
  simp only [Nat.add_mul] at h3
  refine ⟨by rw [e1, e2]; omega, ?_⟩
  unfold setD
  have hq : P / 18446744073709551616 ^ (i + j + 1) < 18446744073709551616 ^ (3 - j) := by
    rw [Nat.div_lt_iff_lt_mul (Nat.pow_pos (by decide)), ← Nat.pow_add, show 3 - j + (i + j + 1) = i + 4 by omega]
    exact hP
  have hm := Nat.mod_lt P (show 0 < 18446744073709551616 ^ (i + j) from Nat.pow_pos (by decide))
  have h4 : (maLo x y (lb P (i + j)) c + 1) * 18446744073709551616 ^ (i + j) ≤ 18446744073709551616 * 18446744073709551616 ^ (i + j) := Nat.mul_le_mul_right _ hlo
  have h5 : (P / 18446744073709551616 ^ (i + j + 1) + 1) * 18446744073709551616 ^ (i + j + 1) ≤ 18446744073709551616 ^ (3 - j) * 18446744073709551616 ^ (i + j + 1) := Nat.mul_le_mul_right _ hq
  rw [← Nat.pow_add, show 3 - j + (i + j + 1) = i + 4 by omega, Nat.add_mul, Nat.one_mul] at h5
  rw [Nat.add_mul, Nat.one_mul] at h4
  have e3 : 18446744073709551616 ^ (i + j + 1) = 18446744073709551616 * 18446744073709551616 ^ (i + j) := by rw [Nat.pow_succ, Nat.mul_comm]
  omega

set_option maxRecDepth 100000 in
/-- The end of a round of the outer loop. -/
theorem mul_end (P c x A a b i : Nat) (hA : A = a % 18446744073709551616 ^ i) (hx : x = lb a i) (hP : P < 18446744073709551616 ^ (i + 4)) (hb : b < 18446744073709551616 ^ 4) (h : P + c * 18446744073709551616 ^ (i + 4) = A * b + x * (b % 18446744073709551616 ^ 4) * 18446744073709551616 ^ i) :
    setD P (i + 4) c = a % 18446744073709551616 ^ (i + 1) * b := by
  have h1 := setD_eq P (i + 4) c
  have h0 : lb P (i + 4) = 0 := by
    unfold lb
    rw [Nat.div_eq_of_lt hP]
  rw [h0, Nat.zero_mul, Nat.add_zero, h, Nat.mod_eq_of_lt hb] at h1
  rw [h1, lb_top, ← hx, ← hA, Nat.add_mul]
  congr 1
  rw [Nat.mul_assoc, Nat.mul_assoc, Nat.mul_comm b]

end Go.Proofs.YthjmjccggkejhaaDoor
namespace Go.Proofs.YthjmjccggkejhaaDoor
open Go.RowKit

set_option maxRecDepth 100000 in
theorem idx_word (a i : Nat) (hi : i < 4) (u : World) : (Instr.index 64 (wv a) (.int .i64 (i : Nat))).run Tryd.prog u = .ok (.int .u64 (lb a i : Nat)) u := by
  match i, hi with
  | 0, _ => rfl
  | 1, _ => rfl
  | 2, _ => rfl
  | 3, _ => rfl

set_option maxRecDepth 100000 in
theorem M256_B : M256 = 18446744073709551616 ^ 4 := rfl
set_option maxRecDepth 100000 in
theorem lb_low (P i : Nat) (hi : i < 4) : lb P i = lb (P % M256) i := by
  rw [lb_mod, lb_mod, M256_B, Nat.mod_mod_of_dvd _ (Nat.pow_dvd_pow _ (by omega))]
set_option maxRecDepth 100000 in
theorem lb_high (P i : Nat) : lb P (4 + i) = lb (P / M256) i := by
  unfold lb
  rw [M256_B, Nat.pow_add, ← Nat.div_div_eq_div_mul]

/-- The product, and whether it did not fit. -/
def mulN (a b : Nat) : Nat := a * b % M256
def mulO (a b : Nat) : Bool := decide (M256 ≤ a * b)

end Go.Proofs.YthjmjccggkejhaaDoor
