/- Contracts of package word: the small functions below the others. Contracts of package word: sums and differences. Contracts of package word: what is done bit by bit. Contracts of package word: Of, Small, Cmp; words that are the same. -/
import Derived.Test.YtjefbfabigkeiaaDoorRows
import Derived.Test.YtjefbfabigkeiaaDoorWra
import Derived.RegionTactic
import Derived.Deep.QuietTactic
import Derived.BigQuiet
import Derived.Outline
import Derived.Laws.BitsAllLaws
import Derived.Shelf.Spec.BitsCarry
import Derived.ChangeKeysEq
import Derived.Laws.StructEq
import Derived.Deep.RegionHeld3
namespace Go.Proofs.YtjefbfabigkeiaaDoor
open Go.RowKit

set_option maxRecDepth 100000 in
theorem add64 (x y c : Int) (hx : 0 ≤ x) (hy : 0 ≤ y) (hc0 : 0 ≤ c) (hc : c ≤ 1) (w : World) : (callFunc 56 #[.int .u64 x, .int .u64 y, .int .u64 c]).run Tryd.prog w =
    .ok (.value (.tuple #[.int .u64 ((x + y + c) % 18446744073709551616), .int .u64 ((x + y + c) / 18446744073709551616)])) w := by
  rw [run_callFunc_extern Tryd.func56 (by kernel_rfl) (by kernel_rfl) (by kernel_rfl) (e := add64Entry) (by kernel_rfl), run_add64 x y c hx hy hc0 hc]
  rfl

set_option maxRecDepth 100000 in
theorem winfo : (Tryd.prog.info? 36).map (·.size) = some 4 := by kernel_rfl

/-- The four cells of which the first k are f's, the others nought. -/
def partC (f : Nat → Nat) (k : Nat) : Array Value := ((List.range 4).map fun i => lv (if i < k then f i else 0)).toArray

set_option maxRecDepth 100000 in
theorem partC_zero (f : Nat → Nat) : partC f 0 = #[.int .u64 0, .int .u64 0, .int .u64 0, .int .u64 0] := rfl
set_option maxRecDepth 100000 in
theorem partC_size (f : Nat → Nat) (k : Nat) : (partC f k).size = 4 := rfl
set_option maxRecDepth 100000 in
theorem partC_four (f : Nat → Nat) : partC f 4 = #[lv (f 0), lv (f 1), lv (f 2), lv (f 3)] := rfl
set_option maxRecDepth 100000 in
theorem partC_step (f : Nat → Nat) (k : Nat) (h : k < 4) : (partC f k).setIfInBounds k (lv (f k)) = partC f (k + 1) := by
  match k, h with
  | 0, _ => rfl
  | 1, _ => rfl
  | 2, _ => rfl
  | 3, _ => rfl
set_option maxRecDepth 100000 in
theorem partC_get (f : Nat → Nat) (k i : Nat) (h : i < 4) : (partC f k)[i]? = some (lv (if i < k then f i else 0)) := by
  match i, h with
  | 0, _ => rfl
  | 1, _ => rfl
  | 2, _ => rfl
  | 3, _ => rfl

set_option maxRecDepth 100000 in
set_option maxHeartbeats 400000 in
theorem limbs_any (F : FuncId) (cap : Array Value) (f : Nat → Nat) (J : Nat → World → Prop) (row : Option Nat) (w : World)
    (hF : ∀ (args : Array Value) (u : World), (callFunc F args).run Tryd.prog u = .ok (.enter F args) u)
    (hrow : ∀ g, row = some g → g < w.heap.size) (hJ0 : J 0 w)
    (hst : ∀ i u u', J i u → (∀ k, k < w.heap.size → u'.heap[k]? = u.heap[k]?) → J i u')
    (hcall : ∀ i u, i < 4 → J i u → Calls Tryd.prog F (#[.int .i64 i] ++ cap) u (fun e u' => e = .returned (lv (f i)) ∧ J (i + 1) u' ∧ u.grownBy u' row)) (n : Nat) (_hn : n < M256) (hf : ∀ i, i < 4 → f i = lb n i) :
    Calls Tryd.prog 54 #[.func (.func F) #[] cap] w fun e w' => e = .returned (wv n) ∧ J 4 w' ∧ w.grownBy w' row := by
  have hfin : partC f 4 = wc n := by rw [partC_four, hf 0 (by omega), hf 1 (by omega), hf 2 (by omega), hf 3 (by omega)]; rfl
  have HFIN := Lib.hid hfin
  have HF := Lib.hid hF
  have HR := Lib.hid hrow
  have HST := Lib.hid hst
  have HC := Lib.hid hcall
  have HJ0 := Lib.hid hJ0
  clear hF hrow hst hcall hJ0 hf hfin
  go_enter Tryd.func54, Tryd.ntmps54
  go_wp2
  go_loopw [4, 5, 6, 7, 8, 9, 10, 11, 12, 13] (fun _ i _ _ _ _ _ _ _ _ wr => ∃ k : Nat, k ≤ 4 ∧ i = .int .i64 k ∧ Cs wr w.heap.size 36 (wc 0) ∧ Cs wr (w.heap.size + 1) 36 (partC f k) ∧ Hid (J k wr) ∧ Hid (w.grownBy wr row)) (fun _ i _ _ _ _ _ _ _ _ _ => 4 - (intOf i).toNat)
  case atStart =>
    refine ⟨0, by omega, rfl, heap_alloc2_old _ _ _, heap_alloc2_new _ _ _, ?_, ?_⟩
    · exact HST.out 0 _ _ HJ0.out (fun k hk => (Below.heap_alloc _ _ k (by simp; omega)).trans (Below.heap_alloc _ _ k hk))
    · exact grown_alloc (grown_alloc (World.grownBy.refl _ _) _) _
  case round =>
    obtain ⟨k, hk, rfl, hr0, hr1, HJ, HG⟩ := hrel
    have hrn : ∀ j, w.heap.size ≤ j → some j ≠ row := fun j hj e => by have := HR.out j e.symm; omega
    have HRN := Lib.hid hrn
    clear hrn
    by_cases hlt : k < 4
    · go_wp2
      rw [HF.out, Oper.upon_enter]
      refine (HC.out k _ hlt HJ.out).mono ?_
      rintro e w1 ⟨rfl, hj1, hg1⟩
      have hr0' := hr0.kept hg1 (HRN.out _ (by omega))
      have hr1' := hr1.kept hg1 (HRN.out _ (by omega))
      have hcell : w1.cell? ⟨w.heap.size + 1, k, none⟩ = some (lv (if k < k then f k else 0)) := hr1'.cell k _ (partC_get f k k hlt)
      have hfz : w1.frozen? ⟨w.heap.size + 1, k, none⟩ = false := hr1'.frozen k
      have HJ1 := Lib.hid hj1
      have HG1 := Lib.hid (grown_trans HG.out hg1)
      clear hj1 hg1 hr0 hr1
      rw [if_neg (by omega)] at hcell
      unfold lv at hcell
      unfold lv
      go_wp2
      go_roundw
      case rel =>
        refine ⟨k + 1, by omega, by go_num, hr0'.kept (grown_set _ _ _ _) (by simp), ?_, ?_, ?_⟩
        · rw [← partC_step f k hlt]
          exact hr1'.set k (lv (f k))
        · exact HST.out (k + 1) _ _ HJ1.out (fun j hj => heap_setCell_other _ _ _ _ (by simp; omega))
        · exact grown_setNew HG1.out _ (by simp) _
      case measure => simp [intOf]; omega
    · obtain rfl : k = 4 := by omega
      clear hlt hk
      rw [HFIN.out] at hr1
      go_wp2_with (first
        | (refine wpList_load_word rfl 36 24 (.tmp 3) rfl Tryd.underlying36 winfo (w.heap.size + 1) _ rfl hr1.wd ?_)
        | (refine wpList_store_word rfl rfl 36 (.tmp 2) (.tmp 14) rfl winfo w.heap.size _ _ rfl rfl hr0 rfl ?_; intro w3 hw3 hg3; have HW3 := Lib.hid hw3; have HG3 := Lib.hid hg3; clear hw3 hg3))
      refine bodyPost_ret (results_cell_row Tryd.results54 _ _ w.heap.size 36 (wc n) (0, 0) _ rfl HW3.out Tryd.underlying36 rfl winfo) rfl ⟨rfl, ?_, ?_⟩
      · exact HST.out 4 _ _ HJ.out (fun j hj => HG3.out.block j (by have := HG.out.size; omega) (by intro e; injection e with e; omega))
      · exact grown_new HG.out HG3.out (Nat.le_refl _)
end Go.Proofs.YtjefbfabigkeiaaDoor
namespace Go.Proofs.YtjefbfabigkeiaaDoor
open Go.RowKit

set_option maxRecDepth 100000 in
theorem ret_int {k : IntKind} {a b : Int} (h : a = b) : Ending.returned (.int k a) = .returned (.int k b) := by rw [h]

set_option maxRecDepth 100000 in
set_option maxHeartbeats 400000 in
theorem add1_any (i ga gb gc a b c : Nat) (hi : i < 4) (u : World) (ha : Wd u ga 36 a) (hb : Wd u gb 36 b) (hc : Cs u gc 24 #[lv c]) (hc1 : c ≤ 1) :
    Calls Tryd.prog 55 #[.int .i64 i, .pointer (some ⟨ga, 0, none⟩), .pointer (some ⟨gb, 0, none⟩), .pointer (some ⟨gc, 0, none⟩)] u fun e u' =>
      e = .returned (lv ((lb a i + lb b i + c) % 18446744073709551616)) ∧ Cs u' gc 24 #[lv ((lb a i + lb b i + c) / 18446744073709551616)] ∧ u.grownBy u' (some gc) := by
  have h1 := ha.cell i hi
  have h2 := hb.cell i hi
  have h3 := hc.cell 0 _ rfl
  have h4 := hc.frozen 0
  have HC := Lib.hid hc
  have h64 := add64 (lb a i : Nat) (lb b i : Nat) (c : Nat) (by omega) (by omega) (by omega) (by omega)
  clear ha hb hc
  unfold lv at *
  have hi1 : (0 : Int) ≤ (i : Int) := by omega
  have hi2 : (i : Int) < 4 := by omega
  generalize lb a i = x at *
  generalize lb b i = y at *
  go_enter Tryd.func55, Tryd.ntmps55
  go_wp2
  go_region
  go_wp2
  go_ret
  refine ⟨ret_int (by omega), ?_, grown_drew (grown_set _ _ _ _)⟩
  have := HC.out.set 0 (.int .u64 (((x + y + c) / 18446744073709551616 : Nat) : Int))
  rw [show (((x + y + c) / 18446744073709551616 : Nat) : Int) = ((x : Int) + y + c) / 18446744073709551616 by omega] at this ⊢
  exact this.drew

/-- The carry into the place i. -/
def cry (a b : Nat) : Nat → Nat
  | 0 => 0
  | i + 1 => (lb a i + lb b i + cry a b i) / 18446744073709551616
set_option maxRecDepth 100000 in
theorem cry_le (a b i : Nat) : cry a b i ≤ 1 := by
  induction i with
  | zero => exact Nat.zero_le _
  | succ i ih =>
    have h1 := lb_lt a i
    have h2 := lb_lt b i
    unfold cry
    omega
set_option maxRecDepth 100000 in
theorem add_limbs (a b : Nat) (ha : a < M256) (hb : b < M256) : (∀ i, i < 4 → (lb a i + lb b i + cry a b i) % 18446744073709551616 = lb ((a + b) % M256) i) ∧ cry a b 4 = (a + b) / M256 := by
  have hr : ∀ i, (lb a i + lb b i + cry a b i) % 18446744073709551616 < 18446744073709551616 := fun i => Nat.mod_lt _ (by decide)
  have e : ∀ i, lb a i + lb b i + cry a b i = (lb a i + lb b i + cry a b i) % 18446744073709551616 + 18446744073709551616 * cry a b (i + 1) := fun i => (Nat.mod_add_div _ _).symm
  have hc := chain _ _ _ _ _ _ _ _ _ _ _ _ _ _ _ _ _ (e 0) (e 1) (e 2) (e 3)
  have hl := lb_ofL _ _ _ _ (hr 0) (hr 1) (hr 2) (hr 3)
  have ht := ofL_lt _ _ _ _ (hr 0) (hr 1) (hr 2) (hr 3)
  rw [ofL_lb a ha, ofL_lb b hb] at hc
  have hc : a + b + 0 = _ := hc
  rw [Nat.add_zero] at hc
  clear e hr
  rw [hc, Nat.add_mul_mod_self_left, Nat.mod_eq_of_lt ht, Nat.add_mul_div_left _ _ (by decide), Nat.div_eq_of_lt ht]
  refine ⟨fun i hi => ?_, by simp⟩
  match i, hi with
  | 0, _ => exact hl.1.symm
  | 1, _ => exact hl.2.1.symm
  | 2, _ => exact hl.2.2.1.symm
  | 3, _ => exact hl.2.2.2.symm

/-- Whether a sum did not fit. -/
def ovr (a b : Nat) : Bool := decide (M256 ≤ a + b)
set_option maxRecDepth 100000 in
theorem ovr_cry (a b : Nat) (ha : a < M256) (hb : b < M256) : (((cry a b 4 : Nat) : Int) != 0) = ovr a b := by
  rw [(add_limbs a b ha hb).2]
  unfold ovr
  rw [Bool.eq_iff_iff]
  simp
  unfold M256 at *
  omega

set_option maxRecDepth 100000 in
set_option maxHeartbeats 400000 in
theorem add_any (a b : Nat) (w : World) (ha : a < M256) (hb : b < M256) :
    Calls Tryd.prog 40 #[wv a, wv b] w fun e w' => e = .returned (.tuple #[wv ((a + b) % M256), .bool (ovr a b)]) ∧ Ext w w' := by
  have HA := Lib.hid (add_limbs a b ha hb).1
  have HO := Lib.hid (ovr_cry a b ha hb)
  have HM := Lib.hid (show (a + b) % M256 < M256 from Nat.mod_lt _ (by decide))
  clear ha hb
  unfold wv
  go_enter Tryd.func40, Tryd.ntmps40
  go_wp2_with fail
  have k0 : Wd ((((w.alloc (.cells (wc a) 36)).alloc (.cells (wc b) 36)).alloc (.cells #[.int .u64 0, .int .u64 0, .int .u64 0, .int .u64 0] 36)).alloc (.cells #[.int .u64 0] 24)) w.heap.size 36 a := (((Cs.new w _ _ _ rfl).alloc _).alloc _).alloc _
  have k1 : Wd ((((w.alloc (.cells (wc a) 36)).alloc (.cells (wc b) 36)).alloc (.cells #[.int .u64 0, .int .u64 0, .int .u64 0, .int .u64 0] 36)).alloc (.cells #[.int .u64 0] 24)) (w.heap.size + 1) 36 b := ((Cs.new _ _ _ _ (by simp)).alloc _).alloc _
  have k2 : Cs ((((w.alloc (.cells (wc a) 36)).alloc (.cells (wc b) 36)).alloc (.cells #[.int .u64 0, .int .u64 0, .int .u64 0, .int .u64 0] 36)).alloc (.cells #[.int .u64 0] 24)) (w.heap.size + 1 + 1) 36 (wc 0) := (Cs.new _ _ _ _ (by simp)).alloc _
  have k3 : Cs ((((w.alloc (.cells (wc a) 36)).alloc (.cells (wc b) 36)).alloc (.cells #[.int .u64 0, .int .u64 0, .int .u64 0, .int .u64 0] 36)).alloc (.cells #[.int .u64 0] 24)) (w.heap.size + 1 + 1 + 1) 24 #[lv (cry a b 0)] := Cs.new _ _ _ _ (by simp)
  have hz : ((((w.alloc (.cells (wc a) 36)).alloc (.cells (wc b) 36)).alloc (.cells #[.int .u64 0, .int .u64 0, .int .u64 0, .int .u64 0] 36)).alloc (.cells #[.int .u64 0] 24)).heap.size = w.heap.size + 4 := by simp
  have HE : Hid (Ext w ((((w.alloc (.cells (wc a) 36)).alloc (.cells (wc b) 36)).alloc (.cells #[.int .u64 0, .int .u64 0, .int .u64 0, .int .u64 0] 36)).alloc (.cells #[.int .u64 0] 24))) := ((((Ext.refl w).alloc _).alloc _).alloc _).alloc _
  generalize ((((w.alloc (.cells (wc a) 36)).alloc (.cells (wc b) 36)).alloc (.cells #[.int .u64 0, .int .u64 0, .int .u64 0, .int .u64 0] 36)).alloc (.cells #[.int .u64 0] 24)) = w1 at *
  refine (limbs_any 55 _ (fun i => (lb a i + lb b i + cry a b i) % 18446744073709551616)
    (fun i u => Wd u w.heap.size 36 a ∧ Wd u (w.heap.size + 1) 36 b ∧ Cs u (w.heap.size + 1 + 1) 36 (wc 0) ∧ Cs u (w.heap.size + 1 + 1 + 1) 24 #[lv (cry a b i)]) (some (w.heap.size + 1 + 1 + 1)) w1
    (fun args u => Tryd.call55 args u) (fun g e => by injection e with e; omega) ⟨k0, k1, k2, k3⟩ ?_ ?_ _ HM.out HA.out).mono ?_
  · rintro i u u' ⟨h0, h1, h2, h3⟩ hk
    exact ⟨(hk _ (by omega)).trans h0, (hk _ (by omega)).trans h1, (hk _ (by omega)).trans h2, (hk _ (by omega)).trans h3⟩
  · rintro i u hi ⟨h0, h1, h2, h3⟩
    refine (add1_any i _ _ _ a b (cry a b i) hi u h0 h1 h3 (cry_le _ _ _)).mono ?_
    rintro e u' ⟨rfl, hc, hg⟩
    exact ⟨rfl, ⟨h0.kept hg (by simp; omega), h1.kept hg (by simp), h2.kept hg (by simp), hc⟩, hg⟩
  rintro e w2 ⟨rfl, ⟨h0, h1, h2, h3⟩, hg⟩
  have HG := Lib.hid (HE.out.grown hg (by omega))
  have hz2 := hg.size
  clear k0 k1 k2 k3 h0 h1 hg HE
  go_wp2_with (refine wpList_store_word rfl rfl 36 (.tmp 7) (.tmp 9) rfl winfo w2.heap.size (wc 0) _ rfl rfl (heap_alloc_new _ _) rfl ?_; intro w3 hw3 hg3)
  have HG3 := Lib.hid ((HG.out.alloc _).grown hg3 (by omega))
  have h2' := (h2.alloc _).kept hg3 (by simp; omega)
  have h3' := (h3.alloc _).kept hg3 (by simp; omega)
  clear hg3 h2 h3 HG
  have hs3 : w3.cell? ⟨w.heap.size + 1 + 1 + 1, 0, none⟩ = some (.int .u64 (cry a b 4 : Nat)) := h3'.cell 0 _ rfl
  obtain ⟨q0, q1, q2, q3⟩ := hw3.cs.four
  obtain ⟨p0, p1, p2, p3⟩ := h2'.four
  have f0 := h2'.frozen 0
  have f1 := h2'.frozen 1
  have f2 := h2'.frozen 2
  have f3 := h2'.frozen 3
  go_region
  go_wp2
  rw [HO.out]
  exact bodyPost_ret (results_word_tmp Tryd.results40 _ _ (w.heap.size + 1 + 1) _ rfl (h2'.laid _) Tryd.underlying36 winfo) rfl ⟨rfl, HG3.out.laid (by omega) _ _ _ _⟩

/-- What is borrowed where y is taken from x. -/
def bor (x y : Nat) : Nat := if x < y then 1 else 0
set_option maxRecDepth 100000 in
theorem bor_le (x y : Nat) : bor x y ≤ 1 := by unfold bor; split <;> omega

/-- What is borrowed from the place i. -/
def brw (a b : Nat) : Nat → Nat
  | 0 => 0
  | i + 1 => bor (lb a i) (lb b i + brw a b i)
set_option maxRecDepth 100000 in
theorem brw_le (a b i : Nat) : brw a b i ≤ 1 := by
  cases i with
  | zero => exact Nat.zero_le _
  | succ i => exact bor_le _ _
set_option maxRecDepth 100000 in
theorem sub_step (x y c : Nat) (hx : x < 18446744073709551616) (hy : y < 18446744073709551616) (hc : c ≤ 1) : (x + 18446744073709551616 - y - c) % 18446744073709551616 + y + c = x + 18446744073709551616 * bor x (y + c) := by
  unfold bor
  split <;> omega
set_option maxRecDepth 100000 in
theorem sub_limbs (a b : Nat) (ha : a < M256) (hb : b < M256) : (∀ i, i < 4 → (lb a i + 18446744073709551616 - lb b i - brw a b i) % 18446744073709551616 = lb ((a + M256 - b) % M256) i) ∧ brw a b 4 = bor a b := by
  have hr : ∀ i, (lb a i + 18446744073709551616 - lb b i - brw a b i) % 18446744073709551616 < 18446744073709551616 := fun i => Nat.mod_lt _ (by decide)
  have e : ∀ i, (lb a i + 18446744073709551616 - lb b i - brw a b i) % 18446744073709551616 + lb b i + brw a b i = lb a i + 18446744073709551616 * brw a b (i + 1) := fun i => sub_step _ _ _ (lb_lt _ _) (lb_lt _ _) (brw_le _ _ _)
  have hc := chain _ _ _ _ _ _ _ _ _ _ _ _ _ _ _ _ _ (e 0) (e 1) (e 2) (e 3)
  have hl := lb_ofL _ _ _ _ (hr 0) (hr 1) (hr 2) (hr 3)
  have ht := ofL_lt _ _ _ _ (hr 0) (hr 1) (hr 2) (hr 3)
  rw [ofL_lb a ha, ofL_lb b hb] at hc
  have hc : _ + b + 0 = _ := hc
  rw [Nat.add_zero, show brw a b (3 + 1) = brw a b 4 from rfl] at hc
  have hb4 := brw_le a b 4
  clear e hr
  generalize brw a b 4 = z at *
  generalize hR : ofL ((lb a 0 + 18446744073709551616 - lb b 0 - brw a b 0) % 18446744073709551616) ((lb a 1 + 18446744073709551616 - lb b 1 - brw a b 1) % 18446744073709551616) ((lb a 2 + 18446744073709551616 - lb b 2 - brw a b 2) % 18446744073709551616) ((lb a 3 + 18446744073709551616 - lb b 3 - brw a b 3) % 18446744073709551616) = R at *
  have hmod : (a + M256 - b) % M256 = R ∧ z = bor a b := by
    unfold bor M256 at *
    split <;> omega
  rw [hmod.1]
  refine ⟨fun i hi => ?_, hmod.2⟩
  match i, hi with
  | 0, _ => exact hl.1.symm
  | 1, _ => exact hl.2.1.symm
  | 2, _ => exact hl.2.2.1.symm
  | 3, _ => exact hl.2.2.2.symm

/-- Whether b is greater than a. -/
def und (a b : Nat) : Bool := decide (a < b)
set_option maxRecDepth 100000 in
theorem und_brw (a b : Nat) (ha : a < M256) (hb : b < M256) : (((brw a b 4 : Nat) : Int) != 0) = und a b := by
  rw [(sub_limbs a b ha hb).2]
  unfold und bor
  by_cases h : a < b <;> simp [h]

end Go.Proofs.YtjefbfabigkeiaaDoor
namespace Go.Proofs.YtjefbfabigkeiaaDoor
open Go.RowKit

set_option maxRecDepth 100000 in
theorem lb_and (a b i : Nat) : lb (a &&& b) i = lb a i &&& lb b i := by
  unfold lb
  rw [show (18446744073709551616 : Nat) = 2 ^ 64 from rfl, ← Nat.pow_mul, Nat.and_div_two_pow, Nat.and_mod_two_pow]
set_option maxRecDepth 100000 in
theorem lb_xor (a b i : Nat) : lb (a ^^^ b) i = lb a i ^^^ lb b i := by
  unfold lb
  rw [show (18446744073709551616 : Nat) = 2 ^ 64 from rfl, ← Nat.pow_mul, Nat.xor_div_two_pow, Nat.xor_mod_two_pow]
set_option maxRecDepth 100000 in
theorem lb_not (a i : Nat) (hi : i < 4) (ha : a < M256) : lb (M256 - 1 - a) i = 18446744073709551615 - lb a i := by
  have hl := ofL_lb a ha
  have h0 := lb_lt a 0
  have h1 := lb_lt a 1
  have h2 := lb_lt a 2
  have h3 := lb_lt a 3
  have e : M256 - 1 - a = ofL (18446744073709551615 - lb a 0) (18446744073709551615 - lb a 1) (18446744073709551615 - lb a 2) (18446744073709551615 - lb a 3) := by
    unfold ofL M256 at *
    omega
  have hb := lb_ofL (18446744073709551615 - lb a 0) (18446744073709551615 - lb a 1) (18446744073709551615 - lb a 2) (18446744073709551615 - lb a 3) (by omega) (by omega) (by omega) (by omega)
  rw [← e] at hb
  match i, hi with
  | 0, _ => exact hb.1
  | 1, _ => exact hb.2.1
  | 2, _ => exact hb.2.2.1
  | 3, _ => exact hb.2.2.2
set_option maxRecDepth 100000 in
theorem M256_pow : M256 = 2 ^ 256 := rfl

set_option maxRecDepth 100000 in
theorem xor_all (x : Nat) (hx : x < 18446744073709551616) : 18446744073709551615 ^^^ x = 18446744073709551615 - x := by
  have h := congrArg BitVec.toNat (BitVec.allOnes_xor (x := BitVec.ofNat 64 x))
  rw [BitVec.toNat_xor, BitVec.toNat_not, BitVec.toNat_allOnes, BitVec.toNat_ofNat, Nat.mod_eq_of_lt hx] at h
  exact h

end Go.Proofs.YtjefbfabigkeiaaDoor
namespace Go.Proofs.YtjefbfabigkeiaaDoor
open Go.RowKit

set_option maxRecDepth 100000 in
theorem wu_info : ∃ i, Tryd.prog.info? 24 = some i := ⟨_, rfl⟩
set_option maxRecDepth 100000 in
theorem wu_cells : Tryd.prog.cellsOf 24 = 1 := by kernel_rfl
set_option maxRecDepth 100000 in
theorem wu_plain : Tryd.prog.plainKey 24 = true := by kernel_rfl

set_option maxRecDepth 100000 in
theorem run_part_word (n i : Nat) (hi : i < 4) (w : World) : (part 24 (wc n) (i * 1)).run Tryd.prog w = .ok (lv (lb n i)) w := by
  rw [Nat.mul_one]
  exact run_part_plain w wu_plain (wc_get n i hi)

set_option maxRecDepth 100000 in
theorem run_eqItems_word (a b : Nat) (w : World) : ∀ is : List Nat, (∀ i ∈ is, i < 4) → (Op.eqItems 9999 24 1 (wc a) (wc b) is).run Tryd.prog w = .ok (is.all fun i => lb a i == lb b i) w
  | [], _ => by simp [Op.eqItems]
  | i :: is, h => by
    have ih := run_eqItems_word a b w is (fun j hj => h j (List.mem_cons_of_mem _ hj))
    simp only [Op.eqItems, Sem.run_bind, run_part_word a i (h i List.mem_cons_self), run_part_word b i (h i List.mem_cons_self), Result.andThen_ok, lv, run_equalIn_int w 9998 _ _ _ _ _ Tryd.underlying24]
    by_cases hb : lb a i = lb b i
    · have : ((lb a i : Int) == (lb b i : Int)) = true := by simp [hb]
      rw [this]
      simp [ih, hb]
    · have : ((lb a i : Int) == (lb b i : Int)) = false := by simp; omega
      rw [this]
      simp [hb]

set_option maxRecDepth 100000 in
theorem all_lb (a b : Nat) (ha : a < M256) (hb : b < M256) : ((List.range 4).all fun i => lb a i == lb b i) = (a == b) := by
  rw [Bool.eq_iff_iff]
  simp only [List.all_eq_true, List.mem_range, beq_iff_eq]
  constructor
  · exact lb_inj a b ha hb
  · rintro rfl i _
    rfl

set_option maxRecDepth 100000 in
theorem run_eql_word (a b : Nat) (ha : a < M256) (hb : b < M256) (w : World) : (binOp .eql 36 (.agg (wc a)) (.agg (wc b))).run Tryd.prog w = .ok (.bool (a == b)) w := by
  obtain ⟨i, hi⟩ := wu_info
  have h := run_equalIn_array w 9999 (wc a) (wc b) Tryd.underlying36 hi
  rw [wu_cells, run_eqItems_word a b w (List.range 4) (fun i hi => List.mem_range.1 hi), all_lb a b ha hb] at h
  simp only [binOp]
  simp [Op.equal, Op.maxDepth, h]
set_option maxRecDepth 100000 in
theorem run_neq_word (a b : Nat) (ha : a < M256) (hb : b < M256) (w : World) : (binOp .neq 36 (.agg (wc a)) (.agg (wc b))).run Tryd.prog w = .ok (.bool (a != b)) w := by
  obtain ⟨i, hi⟩ := wu_info
  have h := run_equalIn_array w 9999 (wc a) (wc b) Tryd.underlying36 hi
  rw [wu_cells, run_eqItems_word a b w (List.range 4) (fun i hi => List.mem_range.1 hi), all_lb a b ha hb] at h
  simp only [binOp]
  simp [Op.equal, Op.maxDepth, h, bne]
set_option maxRecDepth 100000 in
theorem word_guard : Tryd.prog.eqGuardType Tryd.prog.depth 36 = false := by kernel_rfl
set_option maxRecDepth 100000 in
theorem run_guard_eql (x y : Operand) (a b : Nat) (w : World) : (eqGuard .eql 36 x y (.agg (wc a)) (.agg (wc b))).run Tryd.prog w = .ok () w := by
  unfold eqGuard
  simp
set_option maxRecDepth 100000 in
theorem run_guard_neq (x y : Operand) (a b : Nat) (w : World) : (eqGuard .neq 36 x y (.agg (wc a)) (.agg (wc b))).run Tryd.prog w = .ok () w := by
  unfold eqGuard
  simp

set_option maxRecDepth 100000 in
/-- Two words are compared. -/
theorem wpList_eql_word {ops : Array Oper} {rest : List Oper} {o : Oper} {a : Act} {w : World} {Q : Exit → Act → World → Prop} (hgd : Region.wanted o (yielded ops a.tmps) = true) (x y : Operand) (ho : o.op = .binOp .eql 36 x y 36)
    (n m : Nat) (hn : n < M256) (hm : m < M256) (hx : a.eval x = wv n) (hy : a.eval y = wv m) (h : wpList Tryd.prog ops Q rest (a.put o.dst (.bool (n == m))) w) : wpList Tryd.prog ops Q (o :: rest) a w := by
  refine wpList_step fun K hK => ?_
  rw [if_pos hgd]
  unfold Oper.wp
  simp only [execOp, ho, hx, hy, wv, Sem.run_bind, run_guard_eql, Result.andThen_ok, run_eql_word n m hn hm]
  exact hK _ _ h
set_option maxRecDepth 100000 in
theorem wpList_neq_word {ops : Array Oper} {rest : List Oper} {o : Oper} {a : Act} {w : World} {Q : Exit → Act → World → Prop} (hgd : Region.wanted o (yielded ops a.tmps) = true) (x y : Operand) (ho : o.op = .binOp .neq 36 x y 36)
    (n m : Nat) (hn : n < M256) (hm : m < M256) (hx : a.eval x = wv n) (hy : a.eval y = wv m) (h : wpList Tryd.prog ops Q rest (a.put o.dst (.bool (n != m))) w) : wpList Tryd.prog ops Q (o :: rest) a w := by
  refine wpList_step fun K hK => ?_
  rw [if_pos hgd]
  unfold Oper.wp
  simp only [execOp, ho, hx, hy, wv, Sem.run_bind, run_guard_neq, Result.andThen_ok, run_neq_word n m hn hm]
  exact hK _ _ h

set_option maxRecDepth 100000 in
theorem wc_small (x : Nat) (hx : x < 18446744073709551616) : wc x = #[.int .u64 (x : Nat), .int .u64 0, .int .u64 0, .int .u64 0] := by
  have h := wc_ofL x 0 0 0 hx (by decide) (by decide) (by decide)
  rw [show ofL x 0 0 0 = x by unfold ofL; omega] at h
  rw [h]
  rfl

set_option maxRecDepth 100000 in
set_option maxHeartbeats 400000 in
theorem of_any (x : Nat) (xi : Int) (hxi : xi = (x : Int)) (w : World) (hx : x < 18446744073709551616) :
    Calls Tryd.prog 38 #[.int .u64 xi] w fun e w' => e = .returned (wv x) ∧ Ext w w' := by
  subst hxi
  have HW := Lib.hid (wc_small x hx)
  go_enter Tryd.func38, Tryd.ntmps38
  go_wp2
  have hr : Wd (w.alloc (.cells #[.int .u64 (x : Nat), .int .u64 0, .int .u64 0, .int .u64 0] 36)) w.heap.size 36 x := by rw [← HW.out]; exact heap_alloc_new _ _
  exact bodyPost_ret (results_word Tryd.results38 _ _ w.heap.size _ rfl hr Tryd.underlying36 winfo) rfl ⟨rfl, (Ext.refl _).alloc _⟩

set_option maxRecDepth 100000 in
theorem Ext.drewN {a w : World} (h : Ext a w) (n : Nat) : Ext a (w.drewN n) := ⟨h.os, h.tape, h.output, h.size, fun i hi => Below.block h i hi⟩
set_option maxRecDepth 100000 in
theorem Wd.drewN {w : World} {g : Nat} {t : TypeId} {n : Nat} (h : Wd w g t n) (k : Nat) : Wd (w.drewN k) g t n := h
set_option maxRecDepth 100000 in
theorem Cs.drewN {w : World} {g : Nat} {t : TypeId} {cs : Array Value} (h : Cs w g t cs) (k : Nat) : Cs (w.drewN k) g t cs := h
set_option maxRecDepth 100000 in
theorem quiet_left {P : Program} {f : FuncId} {args : Array Value} {w : World} {n : Nat} {v : Value}
    (h : Calls P f args (w.drewN n) fun e w' => e = .returned v ∧ w.drewN n = w') : Calls P f args (w.drewN n) fun e w'' => e = .returned v ∧ ∃ m, w'' = w.drewN m :=
  h.mono fun _ _ ⟨he, hm⟩ => ⟨he, n, hm.symm⟩

/-- -1, 0, 1. -/
def cmpN (a b : Nat) : Int := if a < b then -1 else if b < a then 1 else 0

set_option maxRecDepth 100000 in
set_option maxHeartbeats 400000 in
theorem compare_any (x y : Nat) (w : World) (_hx : x < 18446744073709551616) (_hy : y < 18446744073709551616) :
    Calls Tryd.prog 53 #[.int .u64 (x : Nat), .int .u64 (y : Nat)] w fun e w' => e = .returned (.int .i64 (cmpN x y)) ∧ w = w' := by
  go_enter Tryd.func53, Tryd.ntmps53
  go_wp2
  all_goals
    go_ret
    refine ⟨ret_int ?_, rfl⟩
    unfold cmpN
    split <;> (try split) <;> omega

set_option maxRecDepth 100000 in
/-- How a and b stand, from the limb k - 1 down. -/
theorem cmp_down (a b k : Nat) (hk : 0 < k) (hk4 : k ≤ 4) (ha : a < 18446744073709551616 ^ k) (hb : b < 18446744073709551616 ^ k) : cmpN a b = if cmpN (lb a (k - 1)) (lb b (k - 1)) = 0 then cmpN (a % 18446744073709551616 ^ (k - 1)) (b % 18446744073709551616 ^ (k - 1)) else cmpN (lb a (k - 1)) (lb b (k - 1)) := by
  unfold lb cmpN
  match k, hk, hk4 with
  | 1, _, _ => simp at *; (repeat' split) <;> omega
  | 2, _, _ => simp at *; (repeat' split) <;> omega
  | 3, _, _ => simp at *; (repeat' split) <;> omega
  | 4, _, _ => simp at *; (repeat' split) <;> omega

set_option maxRecDepth 100000 in
set_option maxHeartbeats 400000 in
theorem cmp_any (a b : Nat) (w : World) (ha : a < M256) (hb : b < M256) :
    Calls Tryd.prog 39 #[wv a, wv b] w fun e w' => e = .returned (.int .i64 (cmpN a b)) ∧ Ext w w' := by
  have ha4 : a < 18446744073709551616 ^ 4 := ha
  have hb4 : b < 18446744073709551616 ^ 4 := hb
  clear ha hb
  unfold wv
  go_enter Tryd.func39, Tryd.ntmps39
  go_wp2
  have k0 : Wd ((w.alloc (.cells (wc a) 36)).alloc (.cells (wc b) 36)) w.heap.size 36 a := (Cs.new w _ _ _ rfl).alloc _
  have k1 : Wd ((w.alloc (.cells (wc a) 36)).alloc (.cells (wc b) 36)) (w.heap.size + 1) 36 b := Cs.new _ _ _ _ (by simp)
  have HE : Hid (Ext w ((w.alloc (.cells (wc a) 36)).alloc (.cells (wc b) 36))) := ((Ext.refl w).alloc _).alloc _
  generalize ((w.alloc (.cells (wc a) 36)).alloc (.cells (wc b) 36)) = w1 at *
  go_loopw [5] (fun i wr => ∃ k : Nat, k ≤ 4 ∧ i = .int .i64 ((k : Int) - 1) ∧ Wd wr w.heap.size 36 a ∧ Wd wr (w.heap.size + 1) 36 b ∧ Hid (Ext w wr) ∧ Hid (cmpN a b = cmpN (a % 18446744073709551616 ^ k) (b % 18446744073709551616 ^ k))) (fun i _ => (intOf i + 1).toNat)
  case atStart =>
    refine ⟨4, by omega, rfl, k0, k1, HE, ?_⟩
    show _ = _
    rw [Nat.mod_eq_of_lt ha4, Nat.mod_eq_of_lt hb4]
  case round =>
    obtain ⟨k, hk, rfl, h0, h1, HX, HC⟩ := hrel
    clear k0 k1 HE ha4 hb4
    by_cases hlt : 0 < k
    · obtain ⟨j, rfl⟩ : ∃ j, k = j + 1 := ⟨k - 1, by omega⟩
      rw [show ((j + 1 : Nat) : Int) - 1 = (j : Int) by omega]
      have c0 := h0.cell j (by omega)
      have c1 := h1.cell j (by omega)
      have hi1 : (0 : Int) ≤ (j : Int) := by omega
      have hi2 : (j : Int) < 4 := by omega
      have hd := cmp_down (a % 18446744073709551616 ^ (j + 1)) (b % 18446744073709551616 ^ (j + 1)) (j + 1) (by omega) hk (Nat.mod_lt _ (Nat.pow_pos (by decide))) (Nat.mod_lt _ (Nat.pow_pos (by decide)))
      have hl : ∀ n, lb (n % 18446744073709551616 ^ (j + 1)) j = lb n j := by
        intro n
        unfold lb
        rw [Nat.pow_succ, Nat.mod_mul_right_div_self, Nat.mod_mod]
      have hm : ∀ n, n % 18446744073709551616 ^ (j + 1) % 18446744073709551616 ^ j = n % 18446744073709551616 ^ j := fun n => Nat.mod_mod_of_dvd _ (Nat.pow_dvd_pow _ (by omega))
      rw [Nat.add_sub_cancel, hl, hl, hm, hm] at hd
      have HD := Lib.hid (HC.out.trans hd)
      clear hd hl hm HC
      have bx := lb_lt a j
      have by' := lb_lt b j
      generalize lb a j = x at *
      generalize lb b j = y at *
      go_wp2
      go_quiet ((go_at_call 53; exact quiet_left (compare_any x y _ bx by')))
      go_wp2
      · go_ret
        have hne : (cmpN x y != 0) = true := by assumption
        refine ⟨ret_int ?_, HX.out.drewN nq⟩
        rw [HD.out, if_neg (by simpa using hne)]
      · have hne : (cmpN x y != 0) = false := by assumption
        refine ⟨⟨j, by omega, rfl, h0, h1, HX.out.drewN nq, ?_⟩, by simp [intOf]⟩
        show _ = _
        rw [HD.out, if_pos (by simpa using hne)]
    · obtain rfl : k = 0 := by omega
      have HC' := Lib.hid (show cmpN a b = 0 by rw [HC.out]; simp [cmpN, Nat.mod_one])
      clear HC
      go_wp2
      go_ret
      exact ⟨ret_int HC'.out.symm, HX.out⟩


/-- Whether the number is below 2^64. -/
def isSmall (n : Nat) : Bool := decide (n < 18446744073709551616)
/-- The number, if it is below 2^64, else 0. -/
def smallN (n : Nat) : Nat := if n < 18446744073709551616 then n else 0

set_option maxRecDepth 100000 in
set_option maxHeartbeats 400000 in
theorem small_any (n : Nat) (w : World) (hn : n < M256) :
    Calls Tryd.prog 49 #[wv n] w fun e w' => e = .returned (.tuple #[.int .u64 (smallN n : Nat), .bool (isSmall n)]) ∧ Ext w w' := by
  have HN := Lib.hid hn
  have hl := lb_lt n 0
  have hm : lb n 0 < M256 := by unfold M256; omega
  have HM := Lib.hid hm
  have hq : ∀ u : World, (binOp .neq 36 (.agg #[.int .u64 (lb n 0 : Nat), .int .u64 (lb n 1 : Nat), .int .u64 (lb n 2 : Nat), .int .u64 (lb n 3 : Nat)]) (wv (lb n 0))).run Tryd.prog u = .ok (.bool (n != lb n 0)) u := run_neq_word n (lb n 0) hn hm
  have hgq : ∀ u : World, (eqGuard .neq 36 (.tmp 4) (.tmp 7) (.agg #[.int .u64 (lb n 0 : Nat), .int .u64 (lb n 1 : Nat), .int .u64 (lb n 2 : Nat), .int .u64 (lb n 3 : Nat)]) (wv (lb n 0))).run Tryd.prog u = .ok () u := run_guard_neq (.tmp 4) (.tmp 7) n (lb n 0)
  clear hn hm
  unfold wv
  go_enter Tryd.func49, Tryd.ntmps49
  go_wp2
  have k0 : Wd (w.alloc (.cells (wc n) 36)) w.heap.size 36 n := Cs.new w _ _ _ rfl
  have HE : Hid (Ext w (w.alloc (.cells (wc n) 36))) := (Ext.refl w).alloc _
  obtain ⟨q0, q1, q2, q3⟩ := k0.cs.four
  generalize (w.alloc (.cells (wc n) 36)) = w1 at *
  have HQ := Lib.hid (And.intro q0 (And.intro q1 (And.intro q2 q3)))
  go_region_held3 (fun w' => w'.cell? ⟨w.heap.size, 0, none⟩ = some (.int .u64 (lb n 0 : Nat)) ∧ w'.cell? ⟨w.heap.size, 1, none⟩ = some (.int .u64 (lb n 1 : Nat)) ∧ w'.cell? ⟨w.heap.size, 2, none⟩ = some (.int .u64 (lb n 2 : Nat)) ∧ w'.cell? ⟨w.heap.size, 3, none⟩ = some (.int .u64 (lb n 3 : Nat)))
    (first | exact ⟨HE1.cell q0, HE1.cell q1, HE1.cell q2, HE1.cell q3⟩ | exact ⟨q0, q1, q2, q3⟩)
    (first | (go_at_call 38; refine (of_any (lb n 0) _ rfl _ hl).mono ?_; rintro e w2 ⟨rfl, HE1⟩))
  have HE2 := Lib.hid (HE.out.trans (((Ext.refl w1).drew).trans HE1))
  have c0 := HE1.cell (show w1.drew.cell? ⟨w.heap.size, 0, none⟩ = some (.int .u64 (lb n 0 : Nat)) from q0)
  have HS := Lib.hid (show (n != lb n 0) = !isSmall n by
    rw [Bool.eq_iff_iff]
    unfold isSmall
    rw [lb0]
    simp
    omega)
  clear HE HE1 q0 q1 q2 q3 k0 hq hgq
  rcases Bool.eq_false_or_eq_true (isSmall n) with hb | hb
  · have HV := Lib.hid (show ((lb n 0 : Nat) : Int) = (smallN n : Nat) by
      have : n < 18446744073709551616 := by simpa [isSmall] using hb
      unfold smallN
      rw [if_pos this, lb0, Nat.mod_eq_of_lt this])
    have HB := Lib.hid hb
    rw [HS.out, hb]
    clear hb
    go_wp2
    go_ret2
    exact ⟨by rw [HB.out, ← HV.out]; rfl, HE2.out⟩
  · have HV := Lib.hid (show (0 : Int) = (smallN n : Nat) by
      have : ¬ n < 18446744073709551616 := by simpa [isSmall] using hb
      unfold smallN
      rw [if_neg this]
      rfl)
    have HB := Lib.hid hb
    rw [HS.out, hb]
    clear hb
    go_wp2
    go_ret2
    exact ⟨by rw [HB.out, ← HV.out]; rfl, HE2.out⟩
end Go.Proofs.YtjefbfabigkeiaaDoor
