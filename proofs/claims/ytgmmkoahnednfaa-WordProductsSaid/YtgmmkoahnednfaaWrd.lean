/- Contracts of package word: what is done bit by bit. -/
import Derived.Test.YtgmmkoahnednfaaWrc
namespace Go.Proofs.Ytgmmkoahnednfaa
open Go.RowKit

set_option maxRecDepth 100000 in
theorem lb_and (a b i : Nat) : lb (a &&& b) i = lb a i &&& lb b i := by
  unfold lb
  rw [show (18446744073709551616 : Nat) = 2 ^ 64 from rfl, ← Nat.pow_mul, Nat.and_div_two_pow, Nat.and_mod_two_pow]
set_option maxRecDepth 100000 in
theorem lb_xor (a b i : Nat) : lb (a ^^^ b) i = lb a i ^^^ lb b i := by
  unfold lb
  rw [show (18446744073709551616 : Nat) = 2 ^ 64 from rfl, ← Nat.pow_mul, Nat.xor_div_two_pow, Nat.xor_mod_two_pow]
set_option maxRecDepth 100000 in
theorem lb_not (a i : Nat) (hi : i < 4) (ha : a < M256) : lb (M256 - 1 - a) i = 18446744073709551615 - lb a i := by
  have hl := ofL_lb a ha
  have h0 := lb_lt a 0
  have h1 := lb_lt a 1
  have h2 := lb_lt a 2
  have h3 := lb_lt a 3
  have e : M256 - 1 - a = ofL (18446744073709551615 - lb a 0) (18446744073709551615 - lb a 1) (18446744073709551615 - lb a 2) (18446744073709551615 - lb a 3) := by
    unfold ofL M256 at *
    omega
  have hb := lb_ofL (18446744073709551615 - lb a 0) (18446744073709551615 - lb a 1) (18446744073709551615 - lb a 2) (18446744073709551615 - lb a 3) (by omega) (by omega) (by omega) (by omega)
  rw [← e] at hb
  match i, hi with
  | 0, _ => exact hb.1
  | 1, _ => exact hb.2.1
  | 2, _ => exact hb.2.2.1
  | 3, _ => exact hb.2.2.2
set_option maxRecDepth 100000 in
theorem M256_pow : M256 = 2 ^ 256 := rfl

set_option maxRecDepth 100000 in
theorem xor_all (x : Nat) (hx : x < 18446744073709551616) : 18446744073709551615 ^^^ x = 18446744073709551615 - x := by
  have h := congrArg BitVec.toNat (BitVec.allOnes_xor (x := BitVec.ofNat 64 x))
  rw [BitVec.toNat_xor, BitVec.toNat_not, BitVec.toNat_allOnes, BitVec.toNat_ofNat, Nat.mod_eq_of_lt hx] at h
  exact h

set_option maxRecDepth 100000 in
set_option maxHeartbeats 400000 in
theorem not1_any (i ga a : Nat) (hi : i < 4) (u : World) (ha : Wd u ga 27 a) :
    Calls Try.prog 84 #[.int .i64 i, .pointer (some ⟨ga, 0, none⟩)] u fun e u' => e = .returned (lv (18446744073709551615 - lb a i)) ∧ Ext u u' := by
  have h1 := ha.cell i hi
  clear ha
  unfold lv at *
  have hi1 : (0 : Int) ≤ (i : Int) := by omega
  have hi2 : (i : Int) < 4 := by omega
  have hxb := lb_lt a i
  generalize lb a i = x at *
  go_enter Try.func84, Try.ntmps84
  go_wp2
  go_ret
  refine ⟨ret_int ?_, Ext.refl _⟩
  rw [show IntKind.u64.max = ((18446744073709551615 : Nat) : Int) from rfl, u64_xor_nat _ _ (by omega) hxb, xor_all x hxb]

set_option maxRecDepth 100000 in
set_option maxHeartbeats 400000 in
theorem not_any (a : Nat) (w : World) (ha : a < M256) :
    Calls Try.prog 51 #[wv a] w fun e w' => e = .returned (wv (M256 - 1 - a)) ∧ Ext w w' := by
  have HA := Lib.hid (show ∀ i, i < 4 → 18446744073709551615 - lb a i = lb (M256 - 1 - a) i from fun i hi => (lb_not a i hi ha).symm)
  have HM := Lib.hid (show M256 - 1 - a < M256 by unfold M256; omega)
  clear ha
  unfold wv
  go_enter Try.func51, Try.ntmps51
  go_wp2_with fail
  have k0 : Wd ((w.alloc (.cells (wc a) 27)).alloc (.cells #[.int .u64 0, .int .u64 0, .int .u64 0, .int .u64 0] 27)) w.heap.size 27 a := (Cs.new w _ _ _ rfl).alloc _
  have k2 : Cs ((w.alloc (.cells (wc a) 27)).alloc (.cells #[.int .u64 0, .int .u64 0, .int .u64 0, .int .u64 0] 27)) (w.heap.size + 1) 27 (wc 0) := Cs.new _ _ _ _ (by simp)
  have hz : ((w.alloc (.cells (wc a) 27)).alloc (.cells #[.int .u64 0, .int .u64 0, .int .u64 0, .int .u64 0] 27)).heap.size = w.heap.size + 2 := by simp
  have HE : Hid (Ext w ((w.alloc (.cells (wc a) 27)).alloc (.cells #[.int .u64 0, .int .u64 0, .int .u64 0, .int .u64 0] 27))) := ((Ext.refl w).alloc _).alloc _
  generalize ((w.alloc (.cells (wc a) 27)).alloc (.cells #[.int .u64 0, .int .u64 0, .int .u64 0, .int .u64 0] 27)) = w1 at *
  refine (limbs_any 84 _ (fun i => 18446744073709551615 - lb a i)
    (fun i u => Wd u w.heap.size 27 a ∧ Cs u (w.heap.size + 1) 27 (wc 0)) none w1
    (fun args u => Try.call84 args u) (fun g e => by cases e) ⟨k0, k2⟩ ?_ ?_ _ HM.out HA.out).mono ?_
  · rintro i u u' ⟨h0, h2⟩ hk
    exact ⟨(hk _ (by omega)).trans h0, (hk _ (by omega)).trans h2⟩
  · rintro i u hi ⟨h0, h2⟩
    refine (not1_any i _ a hi u h0).mono ?_
    rintro e u' ⟨rfl, he⟩
    exact ⟨rfl, ⟨h0.ext he, h2.ext he⟩, grown_of_ext he _⟩
  rintro e w2 ⟨rfl, ⟨h0, h2⟩, hg⟩
  have HG := Lib.hid (HE.out.trans (ext_of_grown hg))
  clear k0 k2 h0 hg HE
  go_wp2_with (refine wpList_store_word rfl rfl 27 (.tmp 2) (.tmp 4) rfl winfo (w.heap.size + 1) (wc 0) _ rfl rfl h2 rfl ?_; intro w3 hw3 hg3; have HW3 := Lib.hid hw3; have HG3 := Lib.hid (HG.out.grown hg3 (by omega)); clear hw3 hg3)
  exact bodyPost_ret (results_word Try.results51 _ _ (w.heap.size + 1) _ rfl HW3.out Try.underlying27 winfo) rfl ⟨rfl, HG3.out⟩

end Go.Proofs.Ytgmmkoahnednfaa
