/- Contracts of package word: sums and differences. -/
import Derived.Test.YtmojbekihbmdfaaWrb
import Derived.Shelf.Spec.BitsCarry
namespace Go.Proofs.Ytmojbekihbmdfaa
open Go.RowKit

set_option maxRecDepth 100000 in
theorem ret_int {k : IntKind} {a b : Int} (h : a = b) : Ending.returned (.int k a) = .returned (.int k b) := by rw [h]

set_option maxRecDepth 100000 in
set_option maxHeartbeats 400000 in
theorem add1_any (i ga gb gc a b c : Nat) (hi : i < 4) (u : World) (ha : Wd u ga 31 a) (hb : Wd u gb 31 b) (hc : Cs u gc 28 #[lv c]) (hc1 : c ≤ 1) :
    Calls Try.prog 61 #[.int .i64 i, .pointer (some ⟨ga, 0, none⟩), .pointer (some ⟨gb, 0, none⟩), .pointer (some ⟨gc, 0, none⟩)] u fun e u' =>
      e = .returned (lv ((lb a i + lb b i + c) % 18446744073709551616)) ∧ Cs u' gc 28 #[lv ((lb a i + lb b i + c) / 18446744073709551616)] ∧ u.grownBy u' (some gc) := by
  have h1 := ha.cell i hi
  have h2 := hb.cell i hi
  have h3 := hc.cell 0 _ rfl
  have h4 := hc.frozen 0
  have HC := Lib.hid hc
  have h64 := add64 (lb a i : Nat) (lb b i : Nat) (c : Nat) (by omega) (by omega) (by omega) (by omega)
  clear ha hb hc
  unfold lv at *
  have hi1 : (0 : Int) ≤ (i : Int) := by omega
  have hi2 : (i : Int) < 4 := by omega
  generalize lb a i = x at *
  generalize lb b i = y at *
  go_enter Try.func61, Try.ntmps61
  go_wp2
  go_region
  go_wp2
  go_ret
  refine ⟨ret_int (by omega), ?_, grown_drew (grown_set _ _ _ _)⟩
  have := HC.out.set 0 (.int .u64 (((x + y + c) / 18446744073709551616 : Nat) : Int))
  rw [show (((x + y + c) / 18446744073709551616 : Nat) : Int) = ((x : Int) + y + c) / 18446744073709551616 by omega] at this ⊢
  exact this.drew

/-- The carry into the place i. -/
def cry (a b : Nat) : Nat → Nat
  | 0 => 0
  | i + 1 => (lb a i + lb b i + cry a b i) / 18446744073709551616
set_option maxRecDepth 100000 in
theorem cry_le (a b i : Nat) : cry a b i ≤ 1 := by
  induction i with
  | zero => exact Nat.zero_le _
  | succ i ih =>
    have h1 := lb_lt a i
    have h2 := lb_lt b i
    unfold cry
    omega
set_option maxRecDepth 100000 in
theorem add_limbs (a b : Nat) (ha : a < M256) (hb : b < M256) : (∀ i, i < 4 → (lb a i + lb b i + cry a b i) % 18446744073709551616 = lb ((a + b) % M256) i) ∧ cry a b 4 = (a + b) / M256 := by
  have hr : ∀ i, (lb a i + lb b i + cry a b i) % 18446744073709551616 < 18446744073709551616 := fun i => Nat.mod_lt _ (by decide)
  have e : ∀ i, lb a i + lb b i + cry a b i = (lb a i + lb b i + cry a b i) % 18446744073709551616 + 18446744073709551616 * cry a b (i + 1) := fun i => (Nat.mod_add_div _ _).symm
  have hc := chain _ _ _ _ _ _ _ _ _ _ _ _ _ _ _ _ _ (e 0) (e 1) (e 2) (e 3)
  have hl := lb_ofL _ _ _ _ (hr 0) (hr 1) (hr 2) (hr 3)
  have ht := ofL_lt _ _ _ _ (hr 0) (hr 1) (hr 2) (hr 3)
  rw [ofL_lb a ha, ofL_lb b hb] at hc
  have hc : a + b + 0 = _ := hc
  rw [Nat.add_zero] at hc
  clear e hr
  rw [hc, Nat.add_mul_mod_self_left, Nat.mod_eq_of_lt ht, Nat.add_mul_div_left _ _ (by decide), Nat.div_eq_of_lt ht]
  refine ⟨fun i hi => ?_, by simp⟩
  match i, hi with
  | 0, _ => exact hl.1.symm
  | 1, _ => exact hl.2.1.symm
  | 2, _ => exact hl.2.2.1.symm
  | 3, _ => exact hl.2.2.2.symm

/-- Whether a sum did not fit. -/
def ovr (a b : Nat) : Bool := decide (M256 ≤ a + b)
set_option maxRecDepth 100000 in
theorem ovr_cry (a b : Nat) (ha : a < M256) (hb : b < M256) : (((cry a b 4 : Nat) : Int) != 0) = ovr a b := by
  rw [(add_limbs a b ha hb).2]
  unfold ovr
  rw [Bool.eq_iff_iff]
  simp
  unfold M256 at *
  omega

set_option maxRecDepth 100000 in
set_option maxHeartbeats 400000 in
theorem add_any (a b : Nat) (w : World) (ha : a < M256) (hb : b < M256) :
    Calls Try.prog 30 #[wv a, wv b] w fun e w' => e = .returned (.tuple #[wv ((a + b) % M256), .bool (ovr a b)]) ∧ Ext w w' := by
  have HA := Lib.hid (add_limbs a b ha hb).1
  have HO := Lib.hid (ovr_cry a b ha hb)
  have HM := Lib.hid (show (a + b) % M256 < M256 from Nat.mod_lt _ (by decide))
  clear ha hb
  unfold wv
  go_enter Try.func30, Try.ntmps30
  go_wp2_with fail
  have k0 : Wd ((((w.alloc (.cells (wc a) 31)).alloc (.cells (wc b) 31)).alloc (.cells #[.int .u64 0, .int .u64 0, .int .u64 0, .int .u64 0] 31)).alloc (.cells #[.int .u64 0] 28)) w.heap.size 31 a := (((Cs.new w _ _ _ rfl).alloc _).alloc _).alloc _
  have k1 : Wd ((((w.alloc (.cells (wc a) 31)).alloc (.cells (wc b) 31)).alloc (.cells #[.int .u64 0, .int .u64 0, .int .u64 0, .int .u64 0] 31)).alloc (.cells #[.int .u64 0] 28)) (w.heap.size + 1) 31 b := ((Cs.new _ _ _ _ (by simp)).alloc _).alloc _
  have k2 : Cs ((((w.alloc (.cells (wc a) 31)).alloc (.cells (wc b) 31)).alloc (.cells #[.int .u64 0, .int .u64 0, .int .u64 0, .int .u64 0] 31)).alloc (.cells #[.int .u64 0] 28)) (w.heap.size + 1 + 1) 31 (wc 0) := (Cs.new _ _ _ _ (by simp)).alloc _
  have k3 : Cs ((((w.alloc (.cells (wc a) 31)).alloc (.cells (wc b) 31)).alloc (.cells #[.int .u64 0, .int .u64 0, .int .u64 0, .int .u64 0] 31)).alloc (.cells #[.int .u64 0] 28)) (w.heap.size + 1 + 1 + 1) 28 #[lv (cry a b 0)] := Cs.new _ _ _ _ (by simp)
  have hz : ((((w.alloc (.cells (wc a) 31)).alloc (.cells (wc b) 31)).alloc (.cells #[.int .u64 0, .int .u64 0, .int .u64 0, .int .u64 0] 31)).alloc (.cells #[.int .u64 0] 28)).heap.size = w.heap.size + 4 := by simp
  have HE : Hid (Ext w ((((w.alloc (.cells (wc a) 31)).alloc (.cells (wc b) 31)).alloc (.cells #[.int .u64 0, .int .u64 0, .int .u64 0, .int .u64 0] 31)).alloc (.cells #[.int .u64 0] 28))) := ((((Ext.refl w).alloc _).alloc _).alloc _).alloc _
  generalize ((((w.alloc (.cells (wc a) 31)).alloc (.cells (wc b) 31)).alloc (.cells #[.int .u64 0, .int .u64 0, .int .u64 0, .int .u64 0] 31)).alloc (.cells #[.int .u64 0] 28)) = w1 at *
  refine (limbs_any 61 _ (fun i => (lb a i + lb b i + cry a b i) % 18446744073709551616)
    (fun i u => Wd u w.heap.size 31 a ∧ Wd u (w.heap.size + 1) 31 b ∧ Cs u (w.heap.size + 1 + 1) 31 (wc 0) ∧ Cs u (w.heap.size + 1 + 1 + 1) 28 #[lv (cry a b i)]) (some (w.heap.size + 1 + 1 + 1)) w1
    (fun args u => Try.call61 args u) (fun g e => by injection e with e; omega) ⟨k0, k1, k2, k3⟩ ?_ ?_ _ HM.out HA.out).mono ?_
  · rintro i u u' ⟨h0, h1, h2, h3⟩ hk
    exact ⟨(hk _ (by omega)).trans h0, (hk _ (by omega)).trans h1, (hk _ (by omega)).trans h2, (hk _ (by omega)).trans h3⟩
  · rintro i u hi ⟨h0, h1, h2, h3⟩
    refine (add1_any i _ _ _ a b (cry a b i) hi u h0 h1 h3 (cry_le _ _ _)).mono ?_
    rintro e u' ⟨rfl, hc, hg⟩
    exact ⟨rfl, ⟨h0.kept hg (by simp; omega), h1.kept hg (by simp), h2.kept hg (by simp), hc⟩, hg⟩
  rintro e w2 ⟨rfl, ⟨h0, h1, h2, h3⟩, hg⟩
  have HG := Lib.hid (HE.out.grown hg (by omega))
  have hz2 := hg.size
  clear k0 k1 k2 k3 h0 h1 hg HE
  go_wp2_with (refine wpList_store_word rfl rfl 31 (.tmp 7) (.tmp 9) rfl winfo w2.heap.size (wc 0) _ rfl rfl (heap_alloc_new _ _) rfl ?_; intro w3 hw3 hg3)
  have HG3 := Lib.hid ((HG.out.alloc _).grown hg3 (by omega))
  have h2' := (h2.alloc _).kept hg3 (by simp; omega)
  have h3' := (h3.alloc _).kept hg3 (by simp; omega)
  clear hg3 h2 h3 HG
  have hs3 : w3.cell? ⟨w.heap.size + 1 + 1 + 1, 0, none⟩ = some (.int .u64 (cry a b 4 : Nat)) := h3'.cell 0 _ rfl
  obtain ⟨q0, q1, q2, q3⟩ := hw3.cs.four
  obtain ⟨p0, p1, p2, p3⟩ := h2'.four
  have f0 := h2'.frozen 0
  have f1 := h2'.frozen 1
  have f2 := h2'.frozen 2
  have f3 := h2'.frozen 3
  go_region
  go_wp2
  rw [HO.out]
  exact bodyPost_ret (results_word_tmp Try.results30 _ _ (w.heap.size + 1 + 1) _ rfl (h2'.laid _) Try.underlying31 winfo) rfl ⟨rfl, HG3.out.laid (by omega) _ _ _ _⟩

/-- What is borrowed where y is taken from x. -/
def bor (x y : Nat) : Nat := if x < y then 1 else 0
set_option maxRecDepth 100000 in
theorem bor_le (x y : Nat) : bor x y ≤ 1 := by unfold bor; split <;> omega

set_option maxRecDepth 100000 in
theorem sub64 (x y b : Nat) (hx : 0 ≤ x) (hy0 : 0 ≤ y) (hy : y < 18446744073709551616) (hb0 : 0 ≤ b) (hb : b ≤ 1) (w : World) : (callFunc 64 #[.int .u64 (x : Nat), .int .u64 (y : Nat), .int .u64 (b : Nat)]).run Try.prog w =
    .ok (.value (.tuple #[.int .u64 (((x : Int) - y - b) % 18446744073709551616), .int .u64 ((bor x (y + b) : Nat) : Int)])) w := by
  rw [run_callFunc_extern Try.func64 (by kernel_rfl) (by kernel_rfl) (by kernel_rfl) (e := sub64Entry) (by kernel_rfl), run_sub64 x y b hb]
  have e1 : (((x + 18446744073709551616 - y - b) % 18446744073709551616 : Nat) : Int) = ((x : Int) - y - b) % 18446744073709551616 := by omega
  rw [← e1]
  rfl

set_option maxRecDepth 100000 in
set_option maxHeartbeats 400000 in
theorem sub1_any (i ga gb gc a b c : Nat) (hi : i < 4) (u : World) (ha : Wd u ga 31 a) (hb : Wd u gb 31 b) (hc : Cs u gc 28 #[lv c]) (hc1 : c ≤ 1) :
    Calls Try.prog 63 #[.int .i64 i, .pointer (some ⟨ga, 0, none⟩), .pointer (some ⟨gb, 0, none⟩), .pointer (some ⟨gc, 0, none⟩)] u fun e u' =>
      e = .returned (lv ((lb a i + 18446744073709551616 - lb b i - c) % 18446744073709551616)) ∧ Cs u' gc 28 #[lv (bor (lb a i) (lb b i + c))] ∧ u.grownBy u' (some gc) := by
  have h1 := ha.cell i hi
  have h2 := hb.cell i hi
  have h3 := hc.cell 0 _ rfl
  have h4 := hc.frozen 0
  have HC := Lib.hid hc
  have h64 := sub64 (lb a i : Nat) (lb b i : Nat) (c : Nat) (by omega) (by omega) (by have := lb_lt b i; omega) (by omega) (by omega)
  clear ha hb hc
  unfold lv at *
  have hi1 : (0 : Int) ≤ (i : Int) := by omega
  have hi2 : (i : Int) < 4 := by omega
  have hyb := lb_lt b i
  generalize lb a i = x at *
  generalize lb b i = y at *
  go_enter Try.func63, Try.ntmps63
  go_wp2
  go_region
  go_wp2
  go_ret
  refine ⟨ret_int (by omega), ?_, grown_drew (grown_set _ _ _ _)⟩
  have := HC.out.set 0 (.int .u64 ((bor x (y + c) : Nat) : Int))
  exact this.drew

/-- What is borrowed from the place i. -/
def brw (a b : Nat) : Nat → Nat
  | 0 => 0
  | i + 1 => bor (lb a i) (lb b i + brw a b i)
set_option maxRecDepth 100000 in
theorem brw_le (a b i : Nat) : brw a b i ≤ 1 := by
  cases i with
  | zero => exact Nat.zero_le _
  | succ i => exact bor_le _ _
set_option maxRecDepth 100000 in
theorem sub_step (x y c : Nat) (hx : x < 18446744073709551616) (hy : y < 18446744073709551616) (hc : c ≤ 1) : (x + 18446744073709551616 - y - c) % 18446744073709551616 + y + c = x + 18446744073709551616 * bor x (y + c) := by
  unfold bor
  split <;> omega
set_option maxRecDepth 100000 in
theorem sub_limbs (a b : Nat) (ha : a < M256) (hb : b < M256) : (∀ i, i < 4 → (lb a i + 18446744073709551616 - lb b i - brw a b i) % 18446744073709551616 = lb ((a + M256 - b) % M256) i) ∧ brw a b 4 = bor a b := by
  have hr : ∀ i, (lb a i + 18446744073709551616 - lb b i - brw a b i) % 18446744073709551616 < 18446744073709551616 := fun i => Nat.mod_lt _ (by decide)
  have e : ∀ i, (lb a i + 18446744073709551616 - lb b i - brw a b i) % 18446744073709551616 + lb b i + brw a b i = lb a i + 18446744073709551616 * brw a b (i + 1) := fun i => sub_step _ _ _ (lb_lt _ _) (lb_lt _ _) (brw_le _ _ _)
  have hc := chain _ _ _ _ _ _ _ _ _ _ _ _ _ _ _ _ _ (e 0) (e 1) (e 2) (e 3)
  have hl := lb_ofL _ _ _ _ (hr 0) (hr 1) (hr 2) (hr 3)
  have ht := ofL_lt _ _ _ _ (hr 0) (hr 1) (hr 2) (hr 3)
  rw [ofL_lb a ha, ofL_lb b hb] at hc
  have hc : _ + b + 0 = _ := hc
  rw [Nat.add_zero, show brw a b (3 + 1) = brw a b 4 from rfl] at hc
  have hb4 := brw_le a b 4
  clear e hr
  generalize brw a b 4 = z at *
  generalize hR : ofL ((lb a 0 + 18446744073709551616 - lb b 0 - brw a b 0) % 18446744073709551616) ((lb a 1 + 18446744073709551616 - lb b 1 - brw a b 1) % 18446744073709551616) ((lb a 2 + 18446744073709551616 - lb b 2 - brw a b 2) % 18446744073709551616) ((lb a 3 + 18446744073709551616 - lb b 3 - brw a b 3) % 18446744073709551616) = R at *
  have hmod : (a + M256 - b) % M256 = R ∧ z = bor a b := by
    unfold bor M256 at *
    split <;> omega
  rw [hmod.1]
  refine ⟨fun i hi => ?_, hmod.2⟩
  match i, hi with
  | 0, _ => exact hl.1.symm
  | 1, _ => exact hl.2.1.symm
  | 2, _ => exact hl.2.2.1.symm
  | 3, _ => exact hl.2.2.2.symm

/-- Whether b is greater than a. -/
def und (a b : Nat) : Bool := decide (a < b)
set_option maxRecDepth 100000 in
theorem und_brw (a b : Nat) (ha : a < M256) (hb : b < M256) : (((brw a b 4 : Nat) : Int) != 0) = und a b := by
  rw [(sub_limbs a b ha hb).2]
  unfold und bor
  by_cases h : a < b <;> simp [h]

set_option maxRecDepth 100000 in
set_option maxHeartbeats 400000 in
theorem sub_any (a b : Nat) (w : World) (ha : a < M256) (hb : b < M256) :
    Calls Try.prog 31 #[wv a, wv b] w fun e w' => e = .returned (.tuple #[wv ((a + M256 - b) % M256), .bool (und a b)]) ∧ Ext w w' := by
  have HA := Lib.hid (sub_limbs a b ha hb).1
  have HO := Lib.hid (und_brw a b ha hb)
  have HM := Lib.hid (show (a + M256 - b) % M256 < M256 from Nat.mod_lt _ (by decide))
  clear ha hb
  unfold wv
  go_enter Try.func31, Try.ntmps31
  go_wp2_with fail
  have k0 : Wd ((((w.alloc (.cells (wc a) 31)).alloc (.cells (wc b) 31)).alloc (.cells #[.int .u64 0, .int .u64 0, .int .u64 0, .int .u64 0] 31)).alloc (.cells #[.int .u64 0] 28)) w.heap.size 31 a := (((Cs.new w _ _ _ rfl).alloc _).alloc _).alloc _
  have k1 : Wd ((((w.alloc (.cells (wc a) 31)).alloc (.cells (wc b) 31)).alloc (.cells #[.int .u64 0, .int .u64 0, .int .u64 0, .int .u64 0] 31)).alloc (.cells #[.int .u64 0] 28)) (w.heap.size + 1) 31 b := ((Cs.new _ _ _ _ (by simp)).alloc _).alloc _
  have k2 : Cs ((((w.alloc (.cells (wc a) 31)).alloc (.cells (wc b) 31)).alloc (.cells #[.int .u64 0, .int .u64 0, .int .u64 0, .int .u64 0] 31)).alloc (.cells #[.int .u64 0] 28)) (w.heap.size + 1 + 1) 31 (wc 0) := (Cs.new _ _ _ _ (by simp)).alloc _
  have k3 : Cs ((((w.alloc (.cells (wc a) 31)).alloc (.cells (wc b) 31)).alloc (.cells #[.int .u64 0, .int .u64 0, .int .u64 0, .int .u64 0] 31)).alloc (.cells #[.int .u64 0] 28)) (w.heap.size + 1 + 1 + 1) 28 #[lv (brw a b 0)] := Cs.new _ _ _ _ (by simp)
  have hz : ((((w.alloc (.cells (wc a) 31)).alloc (.cells (wc b) 31)).alloc (.cells #[.int .u64 0, .int .u64 0, .int .u64 0, .int .u64 0] 31)).alloc (.cells #[.int .u64 0] 28)).heap.size = w.heap.size + 4 := by simp
  have HE : Hid (Ext w ((((w.alloc (.cells (wc a) 31)).alloc (.cells (wc b) 31)).alloc (.cells #[.int .u64 0, .int .u64 0, .int .u64 0, .int .u64 0] 31)).alloc (.cells #[.int .u64 0] 28))) := ((((Ext.refl w).alloc _).alloc _).alloc _).alloc _
  generalize ((((w.alloc (.cells (wc a) 31)).alloc (.cells (wc b) 31)).alloc (.cells #[.int .u64 0, .int .u64 0, .int .u64 0, .int .u64 0] 31)).alloc (.cells #[.int .u64 0] 28)) = w1 at *
  refine (limbs_any 63 _ (fun i => (lb a i + 18446744073709551616 - lb b i - brw a b i) % 18446744073709551616)
    (fun i u => Wd u w.heap.size 31 a ∧ Wd u (w.heap.size + 1) 31 b ∧ Cs u (w.heap.size + 1 + 1) 31 (wc 0) ∧ Cs u (w.heap.size + 1 + 1 + 1) 28 #[lv (brw a b i)]) (some (w.heap.size + 1 + 1 + 1)) w1
    (fun args u => Try.call63 args u) (fun g e => by injection e with e; omega) ⟨k0, k1, k2, k3⟩ ?_ ?_ _ HM.out HA.out).mono ?_
  · rintro i u u' ⟨h0, h1, h2, h3⟩ hk
    exact ⟨(hk _ (by omega)).trans h0, (hk _ (by omega)).trans h1, (hk _ (by omega)).trans h2, (hk _ (by omega)).trans h3⟩
  · rintro i u hi ⟨h0, h1, h2, h3⟩
    refine (sub1_any i _ _ _ a b (brw a b i) hi u h0 h1 h3 (brw_le _ _ _)).mono ?_
    rintro e u' ⟨rfl, hc, hg⟩
    exact ⟨rfl, ⟨h0.kept hg (by simp; omega), h1.kept hg (by simp), h2.kept hg (by simp), hc⟩, hg⟩
  rintro e w2 ⟨rfl, ⟨h0, h1, h2, h3⟩, hg⟩
  have HG := Lib.hid (HE.out.grown hg (by omega))
  have hz2 := hg.size
  clear k0 k1 k2 k3 h0 h1 hg HE
  go_wp2_with (refine wpList_store_word rfl rfl 31 (.tmp 7) (.tmp 9) rfl winfo w2.heap.size (wc 0) _ rfl rfl (heap_alloc_new _ _) rfl ?_; intro w3 hw3 hg3)
  have HG3 := Lib.hid ((HG.out.alloc _).grown hg3 (by omega))
  have h2' := (h2.alloc _).kept hg3 (by simp; omega)
  have h3' := (h3.alloc _).kept hg3 (by simp; omega)
  clear hg3 h2 h3 HG
  have hs3 : w3.cell? ⟨w.heap.size + 1 + 1 + 1, 0, none⟩ = some (.int .u64 (brw a b 4 : Nat)) := h3'.cell 0 _ rfl
  obtain ⟨q0, q1, q2, q3⟩ := hw3.cs.four
  obtain ⟨p0, p1, p2, p3⟩ := h2'.four
  have f0 := h2'.frozen 0
  have f1 := h2'.frozen 1
  have f2 := h2'.frozen 2
  have f3 := h2'.frozen 3
  go_region
  go_wp2
  rw [HO.out]
  exact bodyPost_ret (results_word_tmp Try.results31 _ _ (w.heap.size + 1 + 1) _ rfl (h2'.laid _) Try.underlying31 winfo) rfl ⟨rfl, HG3.out.laid (by omega) _ _ _ _⟩
end Go.Proofs.Ytmojbekihbmdfaa
