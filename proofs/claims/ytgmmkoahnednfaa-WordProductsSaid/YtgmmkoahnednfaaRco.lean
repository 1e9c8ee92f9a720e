/- The document's own answers of layer 2: Div. -/
import Derived.Test.YtgmmkoahnednfaaRcm
import Derived.Test.YtgmmkoahnednfaaRcd
import Derived.Test.YtgmmkoahnednfaaWrh
import Derived.Deep.Cut
namespace Go.Proofs.Ytgmmkoahnednfaa
open Go.RowKit

/-! ### A block that a drawn region stores into -/
def Rw (W : World) (g : Nat) (c : Bool) (old new : Nat) : Prop := Wd W g 27 (if c = true then new else old)
set_option maxRecDepth 100000 in
theorem Rw.start {W : World} {g : Nat} {c : Bool} {old new : Nat} (h : Wd W g 27 old) (hc : c = false) : Rw W.drew g c old new := by
  unfold Rw
  rw [if_neg (by rw [hc]; simp)]
  exact h
set_option maxRecDepth 100000 in
theorem Rw.old {W : World} {g : Nat} {c : Bool} {old new : Nat} (h : Rw W g c old new) (hc : c = false) : Wd W g 27 old := by
  unfold Rw at h
  rwa [if_neg (by rw [hc]; simp)] at h
set_option maxRecDepth 100000 in
theorem Rw.new {W : World} {g : Nat} {c : Bool} {old new : Nat} (h : Rw W g c old new) (hc : c = true) : Wd W g 27 new := by
  unfold Rw at h
  rwa [if_pos hc] at h
set_option maxRecDepth 100000 in
theorem Rw.done {W : World} {g i : Nat} {L : Nat → Bool} {old new : Nat} (h : Wd W g 27 new) : Rw W g (More L i i) old new := by
  unfold Rw
  rw [if_pos (by unfold More; rw [if_pos rfl])]
  exact h
set_option maxRecDepth 100000 in
theorem Rw.ext {W W' : World} {g : Nat} {c c' : Bool} {old new : Nat} (h : Rw W g c old new) (he : Ext W W') (hc : c' = c) : Rw W' g c' old new := by
  subst hc
  exact Wd.ext h he
set_option maxRecDepth 100000 in
theorem Rw.other {W W' : World} {g g' : Nat} {c c' : Bool} {old new : Nat} (h : Rw W g c old new) (hg : W.grownBy W' (some g')) (hne : g ≠ g') (hc : c' = c) : Rw W' g c' old new := by
  subst hc
  exact Wd.kept h hg (some_ne hne)
set_option maxRecDepth 100000 in
theorem more_at {L : Nat → Bool} {i j : Nat} (h : (j == i) = false) : More L i j = L j := by
  unfold More
  rw [if_neg (by simpa using h)]

/-- The six words of Div. -/
def Dd (w W : World) (a b q r : Nat) : Prop :=
  Wd W (w.heap.size) 27 a ∧ Wd W (w.heap.size + 1) 27 b ∧ Wd W (w.heap.size + 1 + 1) 27 0 ∧ Wd W (w.heap.size + 1 + 1 + 1) 27 0 ∧ Wd W (w.heap.size + 1 + 1 + 1 + 1) 27 q ∧ Wd W (w.heap.size + 1 + 1 + 1 + 1 + 1) 27 r ∧ Ext w W
set_option maxRecDepth 100000 in
theorem Dd.ext {w W W' : World} {a b q r : Nat} (h : Dd w W a b q r) (he : Ext W W') : Dd w W' a b q r :=
  ⟨h.1.ext he, h.2.1.ext he, h.2.2.1.ext he, h.2.2.2.1.ext he, h.2.2.2.2.1.ext he, h.2.2.2.2.2.1.ext he, h.2.2.2.2.2.2.trans he⟩
set_option maxRecDepth 100000 in
theorem Dd.setQ {w W W' : World} {a b q r q' : Nat} (h : Dd w W a b q r) (hg : W.grownBy W' (some (w.heap.size + 1 + 1 + 1 + 1))) (hq : Wd W' (w.heap.size + 1 + 1 + 1 + 1) 27 q') : Dd w W' a b q' r :=
  ⟨h.1.kept hg (some_ne (by omega)), h.2.1.kept hg (some_ne (by omega)), h.2.2.1.kept hg (some_ne (by omega)), h.2.2.2.1.kept hg (some_ne (by omega)), hq, h.2.2.2.2.2.1.kept hg (some_ne (by omega)), h.2.2.2.2.2.2.grown hg (by omega)⟩
set_option maxRecDepth 100000 in
theorem Dd.setR {w W W' : World} {a b q r r' : Nat} (h : Dd w W a b q r) (hg : W.grownBy W' (some (w.heap.size + 1 + 1 + 1 + 1 + 1))) (hr : Wd W' (w.heap.size + 1 + 1 + 1 + 1 + 1) 27 r') : Dd w W' a b q r' :=
  ⟨h.1.kept hg (some_ne (by omega)), h.2.1.kept hg (some_ne (by omega)), h.2.2.1.kept hg (some_ne (by omega)), h.2.2.2.1.kept hg (some_ne (by omega)), h.2.2.2.2.1.kept hg (some_ne (by omega)), hr, h.2.2.2.2.2.2.grown hg (by omega)⟩

/-! ### One round -/
set_option maxRecDepth 100000 in
theorem half_step (a m : Nat) : a / 2 ^ m = 2 * (a / 2 ^ (m + 1)) + bitN a m := by
  unfold bitN
  rw [Nat.pow_succ, ← Nat.div_div_eq_div_mul]
  omega
set_option maxRecDepth 100000 in
theorem div_yes (A b c : Nat) (hb : 0 < b) (hc : c < 2) (h : b ≤ 2 * (A % b) + c) : (2 * A + c) / b = 2 * (A / b) + 1 ∧ (2 * A + c) % b = 2 * (A % b) + c - b := by
  have e := Nat.div_add_mod A b
  have hr := Nat.mod_lt A hb
  generalize A / b = q at *
  generalize A % b = r at *
  have h1 : 2 * A + c = (2 * r + c - b) + b * (2 * q + 1) := by
    have h2 : b * (2 * q + 1) = 2 * (b * q) + b := by rw [Nat.mul_add, Nat.mul_one, Nat.mul_left_comm]
    omega
  rw [h1, Nat.add_mul_div_left _ _ hb, Nat.add_mul_mod_self_left, Nat.div_eq_of_lt (by omega), Nat.mod_eq_of_lt (by omega)]
  omega
set_option maxRecDepth 100000 in
theorem div_no (A b c : Nat) (hb : 0 < b) (h : 2 * (A % b) + c < b) : (2 * A + c) / b = 2 * (A / b) ∧ (2 * A + c) % b = 2 * (A % b) + c := by
  have e := Nat.div_add_mod A b
  generalize A / b = q at *
  generalize A % b = r at *
  have h1 : 2 * A + c = (2 * r + c) + b * (2 * q) := by
    have h2 : b * (2 * q) = 2 * (b * q) := Nat.mul_left_comm _ _ _
    omega
  rw [h1, Nat.add_mul_div_left _ _ hb, Nat.add_mul_mod_self_left, Nat.div_eq_of_lt (by omega), Nat.mod_eq_of_lt (by omega)]
  omega
set_option maxRecDepth 100000 in
theorem top_over (r c : Nat) (hr : r < M256) (hc : c < 2) : bitN r 255 = 1 ↔ M256 ≤ 2 * r + c := by
  unfold bitN
  have h : M256 = 2 * 2 ^ 255 := by decide
  rw [h] at hr ⊢
  clear h
  generalize 2 ^ 255 = p at *
  have hp : 0 < p ∨ p = 0 := by omega
  rcases hp with hp | rfl
  · have h2 : r / p < 2 := (Nat.div_lt_iff_lt_mul hp).2 (by omega)
    constructor
    · intro h
      have := Nat.mod_eq_of_lt h2
      have h3 : r / p = 1 := by omega
      have := Nat.div_mul_le_self r p
      rw [h3] at this
      omega
    · intro h
      have : 1 ≤ r / p := (Nat.le_div_iff_mul_le hp).2 (by omega)
      omega
  · omega

set_option maxRecDepth 100000 in
set_option maxHeartbeats 4000000 in
theorem refDiv_any (a b : Nat) (w : World) (ha : a < M256) (hb : b < M256) :
    Calls Try.prog 25 #[wv a, wv b] w fun e w' => e = .returned (.tuple #[wv (quoN a b), wv (remN a b)]) ∧ Ext w w' := by
  have HA := Lib.hid ha
  have HB := Lib.hid hb
  clear ha hb
  have HD : Hid (Dd w ((((((w.alloc (.cells (wc a) 27)).alloc (.cells (wc b) 27)).alloc (.cells #[.int .u64 0, .int .u64 0, .int .u64 0, .int .u64 0] 27)).alloc (.cells #[.int .u64 0, .int .u64 0, .int .u64 0, .int .u64 0] 27)).alloc (.cells #[.int .u64 0, .int .u64 0, .int .u64 0, .int .u64 0] 27)).alloc (.cells #[.int .u64 0, .int .u64 0, .int .u64 0, .int .u64 0] 27)) a b 0 0) :=
    ⟨((((((Cs.new _ _ _ _ rfl).alloc _).alloc _).alloc _).alloc _).alloc _).wd, (((((Cs.new _ _ _ _ (by simp)).alloc _).alloc _).alloc _).alloc _).wd, ((((Cs.new _ (wc 0) _ _ (by simp)).alloc _).alloc _).alloc _).wd, (((Cs.new _ (wc 0) _ _ (by simp)).alloc _).alloc _).wd, ((Cs.new _ (wc 0) _ _ (by simp)).alloc _).wd, (Cs.new _ (wc 0) _ _ (by simp)).wd, ((((((Ext.refl w).alloc _).alloc _).alloc _).alloc _).alloc _).alloc _⟩
  unfold wv
  go_enter Try.func25, Try.ntmps25
  go_upto_region 2 with (fail)
  generalize ((((((w.alloc (.cells (wc a) 27)).alloc (.cells (wc b) 27)).alloc (.cells #[.int .u64 0, .int .u64 0, .int .u64 0, .int .u64 0] 27)).alloc (.cells #[.int .u64 0, .int .u64 0, .int .u64 0, .int .u64 0] 27)).alloc (.cells #[.int .u64 0, .int .u64 0, .int .u64 0, .int .u64 0] 27)).alloc (.cells #[.int .u64 0, .int .u64 0, .int .u64 0, .int .u64 0] 27)) = w0 at *
  by_cases hb0 : b = 0
  · subst hb0
    have HV := Lib.hid (show (wv (quoN a 0), wv (remN a 0)) = (wv 0, wv 0) by unfold quoN remN; rw [if_pos rfl, Nat.div_zero])
    have HV := Lib.hid (show Ending.returned (.tuple #[wv (quoN a 0), wv (remN a 0)]) = Ending.returned (.tuple #[wv 0, wv 0]) by rw [(Prod.mk.inj HV.out).1, (Prod.mk.inj HV.out).2])
    go_wp2_with (first
      | ((with_reducible refine wpList_load_wordG ?_ 27 25 (.tmp 3) rfl Try.underlying27 winfo (w.heap.size + 1) (0) ?_ ?_ ?_); (exact rfl); (exact rfl); (exact HD.out.2.1))
      | ((with_reducible refine wpList_eql_word ?_ (.tmp 11) (.tmp 12) rfl 0 0 (by decide) (by decide) ?_ ?_ ?_); (exact rfl); (exact rfl); (exact rfl); rw [show ((0 : Nat) == 0) = true from rfl]))
    have HS : Ks w [(w.heap.size, a), (w.heap.size + 1, 0), (w.heap.size + 1 + 1 + 1 + 1, 0), (w.heap.size + 1 + 1 + 1 + 1 + 1, 0)] w0 := ⟨fun x hx => by
      simp only [List.mem_cons, List.not_mem_nil, or_false] at hx
      rcases hx with rfl | rfl | rfl | rfl
      · exact HD.out.1
      · exact HD.out.2.1
      · exact HD.out.2.2.2.2.1
      · exact HD.out.2.2.2.2.2.1, HD.out.2.2.2.2.2.2⟩
    refine wp_named fun a0 ha0 => ?_
    obtain ⟨fr, hfr⟩ : ∃ fr : (Nat → Value) → Act, ∀ V, fr V = ((a0.put (some 14) (V 0)).put (some 15) (V 1)) := ⟨fun V => ((a0.put (some 14) (V 0)).put (some 15) (V 1)), fun _ => rfl⟩
    rw [ha0] at hfr
    simp only [Act.put, List.setIfInBounds_toArray, List.set_cons_zero, List.set_cons_succ] at hfr
    have HFR := Lib.hid hfr
    clear hfr
    refine wp_region_inv (by kernel_rfl) (by kernel_rfl) (fun L A W => ∃ V : Nat → Value, A = fr V ∧ Ks w [(w.heap.size, a), (w.heap.size + 1, 0), (w.heap.size + 1 + 1 + 1 + 1, 0), (w.heap.size + 1 + 1 + 1 + 1 + 1, 0)] W ∧ Vals (fun j => ([some (wv (0)), some (wv (0)), none, none] : List (Option Value)).getD j none) L V ∧ Rw W (w.heap.size + 1 + 1) (L 2) (0) (0) ∧ Rw W (w.heap.size + 1 + 1 + 1) (L 3) (0) (0)) ?_ ⟨?_, ?_, ?_, ?_, trivial⟩ ?_
    · refine ⟨fun j => a0.tmps.getD (([14, 15, 0, 0] : List Nat).getD j 0) undef, ?_, HS.drew, Vals.no _ _ _ (far_none _ _ rfl), Rw.start (HD.out.2.2.1) (by decide), Rw.start (HD.out.2.2.2.1) (by decide)⟩
      rw [HFR.out, ha0]
      rfl
    all_goals clear ha0
    · rintro L A W K hL hC hW ⟨V, rfl, HS, HV, f2, f3⟩ hK
      have H := Lib.hid (show ∀ W', Ext W W' → K (fr (upd V 0 (wv (0)))) W' from fun W' he => hK _ _ ⟨upd V 0 (wv (0)), rfl, HS.ext he, HV.up 0 _ (fun x hx => Option.some.inj hx), Rw.ext f2 he (more_at (by decide)), Rw.ext f3 he (more_at (by decide))⟩)
      clear hK hC hW hL HV f2 f3
      rw [HFR.out]
      refine wpList_load_wordG rfl 27 25 (.tmp 6) rfl Try.underlying27 winfo (w.heap.size + 1 + 1 + 1 + 1) (0) rfl (HS.at (w.heap.size + 1 + 1 + 1 + 1) (0) (by simp)) ?_
      show K _ _
      have := H.out _ (Ext.refl _)
      rw [HFR.out] at this
      exact this
    · rintro L A W K hL hC hW ⟨V, rfl, HS, HV, f2, f3⟩ hK
      have H := Lib.hid (show ∀ W', Ext W W' → K (fr (upd V 1 (wv (0)))) W' from fun W' he => hK _ _ ⟨upd V 1 (wv (0)), rfl, HS.ext he, HV.up 1 _ (fun x hx => Option.some.inj hx), Rw.ext f2 he (more_at (by decide)), Rw.ext f3 he (more_at (by decide))⟩)
      clear hK hC hW hL HV f2 f3
      rw [HFR.out]
      refine wpList_load_wordG rfl 27 25 (.tmp 7) rfl Try.underlying27 winfo (w.heap.size + 1 + 1 + 1 + 1 + 1) (0) rfl (HS.at (w.heap.size + 1 + 1 + 1 + 1 + 1) (0) (by simp)) ?_
      show K _ _
      have := H.out _ (Ext.refl _)
      rw [HFR.out] at this
      exact this
    · rintro L A W K hL hC hW ⟨V, rfl, HS, HV, f2, f3⟩ hK
      have e0 : V 0 = wv (0) := HV 0 _ rfl (hW 0 rfl)
      have u0 : (V) 0 = wv (0) := e0
      have HU := Lib.hid (show (V) 0 = wv (0) from u0)
      clear u0
      rw [HFR.out]
      rw [e0]
      refine wpList_store_word rfl rfl 27 (.tmp 4) (.tmp 14) rfl winfo (w.heap.size + 1 + 1) (wc (0)) (0) rfl rfl (Rw.old f2 hL).cs rfl ?_
      intro W' hw hgr
      show K _ _
      have := hK _ _ ⟨V, rfl, HS.far hgr ((by omega)) ((fun x hx => by simp only [List.mem_cons, List.not_mem_nil, or_false] at hx; rcases hx with rfl | rfl | rfl | rfl <;> dsimp only <;> omega)), HV.st 2 rfl, Rw.done hw, Rw.other f3 hgr (Ne.symm ((show (w.heap.size + 1 + 1) ≠ w.heap.size + 1 + 1 + 1 by omega))) (more_at (by decide))⟩
      rw [HFR.out] at this
      obtain u0 := HU.out
      rw [u0] at this
      exact this
    · rintro L A W K hL hC hW ⟨V, rfl, HS, HV, f2, f3⟩ hK
      have e1 : V 1 = wv (0) := HV 1 _ rfl (hW 1 rfl)
      have u1 : (V) 1 = wv (0) := e1
      have HU := Lib.hid (show (V) 1 = wv (0) from u1)
      clear u1
      rw [HFR.out]
      rw [e1]
      refine wpList_store_word rfl rfl 27 (.tmp 5) (.tmp 15) rfl winfo (w.heap.size + 1 + 1 + 1) (wc (0)) (0) rfl rfl (Rw.old f3 hL).cs rfl ?_
      intro W' hw hgr
      show K _ _
      have := hK _ _ ⟨V, rfl, HS.far hgr ((by omega)) ((fun x hx => by simp only [List.mem_cons, List.not_mem_nil, or_false] at hx; rcases hx with rfl | rfl | rfl | rfl <;> dsimp only <;> omega)), HV.st 3 rfl, Rw.other f2 hgr ((show (w.heap.size + 1 + 1) ≠ w.heap.size + 1 + 1 + 1 by omega)) (more_at (by decide)), Rw.done hw⟩
      rw [HFR.out] at this
      obtain u1 := HU.out
      rw [u1] at this
      exact this
    · rintro L A W hL ⟨V, rfl, HS, HV, f2, f3⟩
      have e0 : V 0 = wv (0) := HV 0 _ rfl (hL 0 (by simp))
      have e1 : V 1 = wv (0) := HV 1 _ rfl (hL 1 (by simp))
      have z4 := Rw.new f2 (hL 2 (by simp))
      have z5 := Rw.new f3 (hL 3 (by simp))
      rw [HFR.out]
      rw [e0, e1]
      clear hL HV e0 e1 f2 f3
      go_wp2_with fail
      exact bodyPost_ret (results_word_word Try.results25 _ _ (w.heap.size + 1 + 1) _ (w.heap.size + 1 + 1 + 1) _ rfl z4 rfl z5 Try.underlying27 winfo) rfl ⟨HV.out.symm, HS.2⟩
  · have HBP := Lib.hid (show 0 < b by omega)
    have hne : (b == 0) = false := by simp [hb0]
    have H0 := Lib.hid (show Dd w w0 a b (a / 2 ^ 256 / b) (a / 2 ^ 256 % b) by
      have : a / 2 ^ 256 = 0 := Nat.div_eq_of_lt (by rw [← M256_pow]; exact HA.out)
      rw [this, Nat.zero_div, Nat.zero_mod]
      exact HD.out)
    go_wp2_with (first
      | ((with_reducible refine wpList_load_wordG ?_ 27 25 (.tmp 3) rfl Try.underlying27 winfo (w.heap.size + 1) (b) ?_ ?_ ?_); (exact rfl); (exact rfl); (exact HD.out.2.1))
      | ((with_reducible refine wpList_eql_word ?_ (.tmp 11) (.tmp 12) rfl b 0 HB.out (by decide) ?_ ?_ ?_); (exact rfl); (exact rfl); (exact rfl)))
    clear HD
    go_loopw [8, 9, 10, 16, 17, 18, 19, 20, 21, 22, 23, 24, 25, 26, 27, 28, 29, 30, 31, 32, 33, 34, 35, 36, 37, 38, 39, 40, 41, 42, 43] (fun i _ _ _ _ _ _ _ _ _ _ _ _ _ _ _ _ _ _ _ _ _ _ _ _ _ _ _ _ _ _ wr => ∃ k : Nat, k ≤ 256 ∧ i = .int .i64 ((k : Int) - 1) ∧ Hid (Dd w wr a b (a / 2 ^ k / b) (a / 2 ^ k % b))) (fun i _ _ _ _ _ _ _ _ _ _ _ _ _ _ _ _ _ _ _ _ _ _ _ _ _ _ _ _ _ _ _ => (intOf i + 1).toNat)
    case atStart => exact ⟨256, by omega, rfl, H0⟩
    case round =>
      clear H0
      obtain ⟨k, hk, rfl, HD⟩ := hrel
      cases k with
      | zero =>
        have HV := Lib.hid (show Ending.returned (.tuple #[wv (quoN a b), wv (remN a b)]) = Ending.returned (.tuple #[wv (a / 2 ^ 0 / b), wv (a / 2 ^ 0 % b)]) by
          unfold quoN remN
          rw [if_neg (by have := HBP.out; omega), Nat.pow_zero, Nat.div_one])
        generalize a / 2 ^ 0 / b = q at *
        generalize a / 2 ^ 0 % b = r at *
        have HS : Ks w [(w.heap.size, a), (w.heap.size + 1, b), (w.heap.size + 1 + 1 + 1 + 1, q), (w.heap.size + 1 + 1 + 1 + 1 + 1, r)] wr := ⟨fun x hx => by
          simp only [List.mem_cons, List.not_mem_nil, or_false] at hx
          rcases hx with rfl | rfl | rfl | rfl
          · exact HD.out.1
          · exact HD.out.2.1
          · exact HD.out.2.2.2.2.1
          · exact HD.out.2.2.2.2.2.1, HD.out.2.2.2.2.2.2⟩
        go_wp2_with fail
        refine wp_named fun a0 ha0 => ?_
        obtain ⟨fr, hfr⟩ : ∃ fr : (Nat → Value) → Act, ∀ V, fr V = ((a0.put (some 44) (V 0)).put (some 45) (V 1)) := ⟨fun V => ((a0.put (some 44) (V 0)).put (some 45) (V 1)), fun _ => rfl⟩
        rw [ha0] at hfr
        simp only [Act.put, List.setIfInBounds_toArray, List.set_cons_zero, List.set_cons_succ] at hfr
        have HFR := Lib.hid hfr
        clear hfr
        refine wp_region_inv (by kernel_rfl) (by kernel_rfl) (fun L A W => ∃ V : Nat → Value, A = fr V ∧ Ks w [(w.heap.size, a), (w.heap.size + 1, b), (w.heap.size + 1 + 1 + 1 + 1, q), (w.heap.size + 1 + 1 + 1 + 1 + 1, r)] W ∧ Vals (fun j => ([some (wv (q)), some (wv (r)), none, none] : List (Option Value)).getD j none) L V ∧ Rw W (w.heap.size + 1 + 1) (L 2) (0) (q) ∧ Rw W (w.heap.size + 1 + 1 + 1) (L 3) (0) (r)) ?_ ⟨?_, ?_, ?_, ?_, trivial⟩ ?_
        · refine ⟨fun j => a0.tmps.getD (([44, 45, 0, 0] : List Nat).getD j 0) undef, ?_, HS.drew, Vals.no _ _ _ (far_none _ _ rfl), Rw.start (HD.out.2.2.1) (by decide), Rw.start (HD.out.2.2.2.1) (by decide)⟩
          rw [HFR.out, ha0]
          rfl
        all_goals clear ha0
        · rintro L A W K hL hC hW ⟨V, rfl, HS, HV, f2, f3⟩ hK
          have H := Lib.hid (show ∀ W', Ext W W' → K (fr (upd V 0 (wv (q)))) W' from fun W' he => hK _ _ ⟨upd V 0 (wv (q)), rfl, HS.ext he, HV.up 0 _ (fun x hx => Option.some.inj hx), Rw.ext f2 he (more_at (by decide)), Rw.ext f3 he (more_at (by decide))⟩)
          clear hK hC hW hL HV f2 f3
          rw [HFR.out]
          refine wpList_load_wordG rfl 27 25 (.tmp 6) rfl Try.underlying27 winfo (w.heap.size + 1 + 1 + 1 + 1) (q) rfl (HS.at (w.heap.size + 1 + 1 + 1 + 1) (q) (by simp)) ?_
          show K _ _
          have := H.out _ (Ext.refl _)
          rw [HFR.out] at this
          exact this
        · rintro L A W K hL hC hW ⟨V, rfl, HS, HV, f2, f3⟩ hK
          have H := Lib.hid (show ∀ W', Ext W W' → K (fr (upd V 1 (wv (r)))) W' from fun W' he => hK _ _ ⟨upd V 1 (wv (r)), rfl, HS.ext he, HV.up 1 _ (fun x hx => Option.some.inj hx), Rw.ext f2 he (more_at (by decide)), Rw.ext f3 he (more_at (by decide))⟩)
          clear hK hC hW hL HV f2 f3
          rw [HFR.out]
          refine wpList_load_wordG rfl 27 25 (.tmp 7) rfl Try.underlying27 winfo (w.heap.size + 1 + 1 + 1 + 1 + 1) (r) rfl (HS.at (w.heap.size + 1 + 1 + 1 + 1 + 1) (r) (by simp)) ?_
          show K _ _
          have := H.out _ (Ext.refl _)
          rw [HFR.out] at this
          exact this
        · rintro L A W K hL hC hW ⟨V, rfl, HS, HV, f2, f3⟩ hK
          have e0 : V 0 = wv (q) := HV 0 _ rfl (hW 0 rfl)
          have u0 : (V) 0 = wv (q) := e0
          have HU := Lib.hid (show (V) 0 = wv (q) from u0)
          clear u0
          rw [HFR.out]
          rw [e0]
          refine wpList_store_word rfl rfl 27 (.tmp 4) (.tmp 44) rfl winfo (w.heap.size + 1 + 1) (wc (0)) (q) rfl rfl (Rw.old f2 hL).cs rfl ?_
          intro W' hw hgr
          show K _ _
          have := hK _ _ ⟨V, rfl, HS.far hgr ((by omega)) ((fun x hx => by simp only [List.mem_cons, List.not_mem_nil, or_false] at hx; rcases hx with rfl | rfl | rfl | rfl <;> dsimp only <;> omega)), HV.st 2 rfl, Rw.done hw, Rw.other f3 hgr (Ne.symm ((show (w.heap.size + 1 + 1) ≠ w.heap.size + 1 + 1 + 1 by omega))) (more_at (by decide))⟩
          rw [HFR.out] at this
          obtain u0 := HU.out
          rw [u0] at this
          exact this
        · rintro L A W K hL hC hW ⟨V, rfl, HS, HV, f2, f3⟩ hK
          have e1 : V 1 = wv (r) := HV 1 _ rfl (hW 1 rfl)
          have u1 : (V) 1 = wv (r) := e1
          have HU := Lib.hid (show (V) 1 = wv (r) from u1)
          clear u1
          rw [HFR.out]
          rw [e1]
          refine wpList_store_word rfl rfl 27 (.tmp 5) (.tmp 45) rfl winfo (w.heap.size + 1 + 1 + 1) (wc (0)) (r) rfl rfl (Rw.old f3 hL).cs rfl ?_
          intro W' hw hgr
          show K _ _
          have := hK _ _ ⟨V, rfl, HS.far hgr ((by omega)) ((fun x hx => by simp only [List.mem_cons, List.not_mem_nil, or_false] at hx; rcases hx with rfl | rfl | rfl | rfl <;> dsimp only <;> omega)), HV.st 3 rfl, Rw.other f2 hgr ((show (w.heap.size + 1 + 1) ≠ w.heap.size + 1 + 1 + 1 by omega)) (more_at (by decide)), Rw.done hw⟩
          rw [HFR.out] at this
          obtain u1 := HU.out
          rw [u1] at this
          exact this
        · rintro L A W hL ⟨V, rfl, HS, HV, f2, f3⟩
          have e0 : V 0 = wv (q) := HV 0 _ rfl (hL 0 (by simp))
          have e1 : V 1 = wv (r) := HV 1 _ rfl (hL 1 (by simp))
          have z4 := Rw.new f2 (hL 2 (by simp))
          have z5 := Rw.new f3 (hL 3 (by simp))
          rw [HFR.out]
          rw [e0, e1]
          clear hL HV e0 e1 f2 f3
          go_wp2_with fail
          exact bodyPost_ret (results_word_word Try.results25 _ _ (w.heap.size + 1 + 1) _ (w.heap.size + 1 + 1 + 1) _ rfl z4 rfl z5 Try.underlying27 winfo) rfl ⟨HV.out.symm, HS.2⟩
      | succ m =>
        rw [show (((m + 1 : Nat) : Int) - 1) = (m : Int) by omega]
        have hge : decide ((0 : Int) ≤ (m : Int)) = true := by simp
        have hmx : m < 9223372036854775807 := by omega
        have HH := Lib.hid (half_step a m)
        have HQL := Lib.hid (show 2 * (a / 2 ^ (m + 1) / b) + 1 < M256 ∨ True from .inr trivial)
        clear HQL
        have hr : a / 2 ^ (m + 1) % b < M256 := Nat.lt_trans (Nat.mod_lt _ HBP.out) HB.out
        have HRB := Lib.hid (Nat.mod_lt (a / 2 ^ (m + 1)) HBP.out)
        have HYES := Lib.hid (div_yes (a / 2 ^ (m + 1)) b (bitN a m) HBP.out (bitN_lt a m))
        have HNO := Lib.hid (div_no (a / 2 ^ (m + 1)) b (bitN a m) HBP.out)
        have HAL := Lib.hid (show a / 2 ^ m / b < M256 from Nat.lt_of_le_of_lt (Nat.le_trans (Nat.div_le_self _ _) (Nat.div_le_self _ _)) HA.out)
        rw [HH.out] at HAL
        have hq : a / 2 ^ (m + 1) / b < M256 := Nat.lt_of_le_of_lt (Nat.le_trans (Nat.div_le_self _ _) (Nat.div_le_self _ _)) HA.out
        generalize a / 2 ^ (m + 1) = A0 at *
        generalize hqq : A0 / b = q at *
        generalize hrr : A0 % b = r at *
        have HTO := Lib.hid (top_over r (bitN a m) hr (bitN_lt a m))
        have hc2 := bitN_lt a m
        have hbb := HB.out
        go_wp2_with ((with_reducible refine wpList_load_wordG ?_ 27 25 (.tmp 7) rfl Try.underlying27 winfo (w.heap.size + 1 + 1 + 1 + 1 + 1) (r) ?_ ?_ ?_); (exact rfl); (exact rfl); (exact HD.out.2.2.2.2.2.1))
        refine (bit_any r 255 _ hr (by omega)).mono ?_
        rintro e w4 ⟨rfl, he4⟩
        have HD := Lib.hid (HD.out.ext he4)
        clear he4
        by_cases ho : bitN r 255 = 1
        · have hov : M256 ≤ 2 * r + bitN a m := HTO.out.1 ho
          have HY := Lib.hid (HYES.out (by omega))
          have HU := Lib.hid (show subN (upN r (bitN a m)) b = 2 * r + bitN a m - b by
            unfold subN upN
            have hr' := HRB.out
            have e1 : (2 * r + bitN a m) % M256 = 2 * r + bitN a m - M256 := by rw [Nat.mod_eq_sub_mod hov, Nat.mod_eq_of_lt (by omega)]
            rw [e1, show 2 * r + bitN a m - M256 + M256 - b = 2 * r + bitN a m - b by omega, Nat.mod_eq_of_lt (by omega)])
          rw [ho]
          clear ho hov HTO HNO HYES
          go_wp2_with fail
          have HS : Ks w [(w.heap.size, a), (w.heap.size + 1, b), (w.heap.size + 1 + 1, 0), (w.heap.size + 1 + 1 + 1, 0), (w.heap.size + 1 + 1 + 1 + 1, q)] w4 := ⟨fun x hx => by
            simp only [List.mem_cons, List.not_mem_nil, or_false] at hx
            rcases hx with rfl | rfl | rfl | rfl | rfl
            · exact HD.out.1
            · exact HD.out.2.1
            · exact HD.out.2.2.1
            · exact HD.out.2.2.2.1
            · exact HD.out.2.2.2.2.1, HD.out.2.2.2.2.2.2⟩
          refine wp_named fun a0 ha0 => ?_
          obtain ⟨fr, hfr⟩ : ∃ fr : (Nat → Value) → Act, ∀ V, fr V = (((((a0.put (some 23) (V 0)).put (some 24) (V 1)).put (some 25) (V 2)).put (some 26) (V 3)).put (some 27) (V 4)) := ⟨fun V => (((((a0.put (some 23) (V 0)).put (some 24) (V 1)).put (some 25) (V 2)).put (some 26) (V 3)).put (some 27) (V 4)), fun _ => rfl⟩
          rw [ha0] at hfr
          simp only [Act.put, List.setIfInBounds_toArray, List.set_cons_zero, List.set_cons_succ] at hfr
          have HFR := Lib.hid hfr
          clear hfr
          refine wp_region_inv (by kernel_rfl) (by kernel_rfl) (fun L A W => ∃ V : Nat → Value, A = fr V ∧ Ks w [(w.heap.size, a), (w.heap.size + 1, b), (w.heap.size + 1 + 1, 0), (w.heap.size + 1 + 1 + 1, 0), (w.heap.size + 1 + 1 + 1 + 1, q)] W ∧ Vals (fun j => ([some (wv (r)), some (wv (a)), some (.int .i64 (m : Nat)), some (.int .i64 (bitN a m : Nat)), some (wv (upN r (bitN a m))), none] : List (Option Value)).getD j none) L V ∧ Rw W (w.heap.size + 1 + 1 + 1 + 1 + 1) (L 5) (r) (upN r (bitN a m))) ?_ ⟨?_, ?_, ?_, ?_, ?_, ?_, trivial⟩ ?_
          · refine ⟨fun j => a0.tmps.getD (([23, 24, 25, 26, 27, 0] : List Nat).getD j 0) undef, ?_, HS.drew, Vals.no _ _ _ (far_none _ _ rfl), Rw.start (HD.out.2.2.2.2.2.1) (by decide)⟩
            rw [HFR.out, ha0]
            rfl
          all_goals clear ha0
          · rintro L A W K hL hC hW ⟨V, rfl, HS, HV, f5⟩ hK
            have hz := Rw.old f5 (hC.no hL 5 _ rfl rfl)
            have H := Lib.hid (show ∀ W', Ext W W' → K (fr (upd V 0 (wv (r)))) W' from fun W' he => hK _ _ ⟨upd V 0 (wv (r)), rfl, HS.ext he, HV.up 0 _ (fun x hx => Option.some.inj hx), Rw.ext f5 he (more_at (by decide))⟩)
            clear hK hC hW hL HV f5
            rw [HFR.out]
            refine wpList_load_wordG rfl 27 25 (.tmp 7) rfl Try.underlying27 winfo (w.heap.size + 1 + 1 + 1 + 1 + 1) (r) rfl hz ?_
            show K _ _
            have := H.out _ (Ext.refl _)
            rw [HFR.out] at this
            exact this
          · rintro L A W K hL hC hW ⟨V, rfl, HS, HV, f5⟩ hK
            have H := Lib.hid (show ∀ W', Ext W W' → K (fr (upd V 1 (wv (a)))) W' from fun W' he => hK _ _ ⟨upd V 1 (wv (a)), rfl, HS.ext he, HV.up 1 _ (fun x hx => Option.some.inj hx), Rw.ext f5 he (more_at (by decide))⟩)
            clear hK hC hW hL HV f5
            rw [HFR.out]
            refine wpList_load_wordG rfl 27 25 (.tmp 2) rfl Try.underlying27 winfo (w.heap.size) (a) rfl (HS.at (w.heap.size) (a) (by simp)) ?_
            show K _ _
            have := H.out _ (Ext.refl _)
            rw [HFR.out] at this
            exact this
          · rintro L A W K hL hC hW ⟨V, rfl, HS, HV, f5⟩ hK
            have H := Lib.hid (show ∀ W', Ext W W' → K (fr (upd V 2 (.int .i64 (m : Nat)))) W' from fun W' he => hK _ _ ⟨upd V 2 (.int .i64 (m : Nat)), rfl, HS.ext he, HV.up 2 _ (fun x hx => Option.some.inj hx), Rw.ext f5 he (more_at (by decide))⟩)
            clear hK hC hW hL HV f5
            rw [HFR.out]
            go_wp2_with fail
            show K _ _
            have := H.out _ (Ext.refl _)
            rw [HFR.out] at this
            exact this
          · rintro L A W K hL hC hW ⟨V, rfl, HS, HV, f5⟩ hK
            have e1 : V 1 = wv (a) := HV 1 _ rfl (hW 1 rfl)
            have e2 : V 2 = .int .i64 (m : Nat) := HV 2 _ rfl (hW 2 rfl)
            have u1 : (upd V 3 (.int .i64 (bitN a m : Nat))) 1 = wv (a) := e1
            have u2 : (upd V 3 (.int .i64 (bitN a m : Nat))) 2 = .int .i64 (m : Nat) := e2
            have HU := Lib.hid (show (upd V 3 (.int .i64 (bitN a m : Nat))) 1 = wv (a) ∧ (upd V 3 (.int .i64 (bitN a m : Nat))) 2 = .int .i64 (m : Nat) from ⟨u1, u2⟩)
            clear u1 u2
            have H := Lib.hid (show ∀ W', Ext W W' → K (fr (upd V 3 (.int .i64 (bitN a m : Nat)))) W' from fun W' he => hK _ _ ⟨upd V 3 (.int .i64 (bitN a m : Nat)), rfl, HS.ext he, HV.up 3 _ (fun x hx => Option.some.inj hx), Rw.ext f5 he (more_at (by decide))⟩)
            clear hK hC hW hL HV f5
            rw [HFR.out]
            rw [e1, e2]
            clear e1 e2
            go_wp2_with fail
            refine (bit_any a m _ HA.out hmx).mono ?_
            rintro e wx ⟨rfl, he⟩
            have := H.out _ he
            clear H
            go_wp2_with fail
            show K _ _
            rw [HFR.out] at this
            obtain ⟨u1, u2⟩ := HU.out
            rw [u1, u2] at this
            exact this
          · rintro L A W K hL hC hW ⟨V, rfl, HS, HV, f5⟩ hK
            have e0 : V 0 = wv (r) := HV 0 _ rfl (hW 0 rfl)
            have e3 : V 3 = .int .i64 (bitN a m : Nat) := HV 3 _ rfl (hW 3 rfl)
            have u0 : (upd V 4 (wv (upN r (bitN a m)))) 0 = wv (r) := e0
            have u3 : (upd V 4 (wv (upN r (bitN a m)))) 3 = .int .i64 (bitN a m : Nat) := e3
            have HU := Lib.hid (show (upd V 4 (wv (upN r (bitN a m)))) 0 = wv (r) ∧ (upd V 4 (wv (upN r (bitN a m)))) 3 = .int .i64 (bitN a m : Nat) from ⟨u0, u3⟩)
            clear u0 u3
            have H := Lib.hid (show ∀ W', Ext W W' → K (fr (upd V 4 (wv (upN r (bitN a m))))) W' from fun W' he => hK _ _ ⟨upd V 4 (wv (upN r (bitN a m))), rfl, HS.ext he, HV.up 4 _ (fun x hx => Option.some.inj hx), Rw.ext f5 he (more_at (by decide))⟩)
            clear hK hC hW hL HV f5
            rw [HFR.out]
            rw [e0, e3]
            clear e0 e3
            go_wp2_with fail
            refine (refUp_any r (bitN a m) _ hr (bitN_lt a m)).mono ?_
            rintro e wx ⟨rfl, he⟩
            have := H.out _ he
            clear H
            go_wp2_with fail
            show K _ _
            rw [HFR.out] at this
            obtain ⟨u0, u3⟩ := HU.out
            rw [u0, u3] at this
            exact this
          · rintro L A W K hL hC hW ⟨V, rfl, HS, HV, f5⟩ hK
            have e4 : V 4 = wv (upN r (bitN a m)) := HV 4 _ rfl (hW 4 rfl)
            have u4 : (V) 4 = wv (upN r (bitN a m)) := e4
            have HU := Lib.hid (show (V) 4 = wv (upN r (bitN a m)) from u4)
            clear u4
            rw [HFR.out]
            rw [e4]
            refine wpList_store_word rfl rfl 27 (.tmp 7) (.tmp 27) rfl winfo (w.heap.size + 1 + 1 + 1 + 1 + 1) (wc (r)) (upN r (bitN a m)) rfl rfl (Rw.old f5 hL).cs rfl ?_
            intro W' hw hgr
            show K _ _
            have := hK _ _ ⟨V, rfl, HS.far hgr ((by omega)) ((fun x hx => by simp only [List.mem_cons, List.not_mem_nil, or_false] at hx; rcases hx with rfl | rfl | rfl | rfl | rfl <;> dsimp only <;> omega)), HV.st 5 rfl, Rw.done hw⟩
            rw [HFR.out] at this
            obtain u4 := HU.out
            rw [u4] at this
            exact this
          · rintro L A W hL ⟨V, rfl, HS, HV, f5⟩
            have e0 : V 0 = wv (r) := HV 0 _ rfl (hL 0 (by simp))
            have e1 : V 1 = wv (a) := HV 1 _ rfl (hL 1 (by simp))
            have e2 : V 2 = .int .i64 (m : Nat) := HV 2 _ rfl (hL 2 (by simp))
            have e3 : V 3 = .int .i64 (bitN a m : Nat) := HV 3 _ rfl (hL 3 (by simp))
            have e4 : V 4 = wv (upN r (bitN a m)) := HV 4 _ rfl (hL 4 (by simp))
            have z7 := Rw.new f5 (hL 5 (by simp))
            rw [HFR.out]
            rw [e0, e1, e2, e3, e4]
            clear hL HV e0 e1 e2 e3 e4 f5
            have HD := Lib.hid (show Dd w W a b q (upN r (bitN a m)) from ⟨HS.at _ _ (by simp), HS.at _ _ (by simp), HS.at _ 0 (by simp), HS.at _ 0 (by simp), HS.at _ _ (by simp), z7, HS.2⟩)
            clear HFR HS z7
            have hu := upN_lt r (bitN a m)
            generalize upN r (bitN a m) = u at *
            go_wp2_with (first
              | ((with_reducible refine wpList_load_wordG ?_ 27 25 (.tmp 7) rfl Try.underlying27 winfo (w.heap.size + 1 + 1 + 1 + 1 + 1) (u) ?_ ?_ ?_); (exact rfl); (exact rfl); (exact HD.out.2.2.2.2.2.1))
              | ((with_reducible refine wpList_load_wordG ?_ 27 25 (.tmp 3) rfl Try.underlying27 winfo (w.heap.size + 1) (b) ?_ ?_ ?_); (exact rfl); (exact rfl); (exact HD.out.2.1)))
            refine (refSub_any u b _ hu hbb).mono ?_
            rintro e w7 ⟨rfl, hs7, he7⟩
            have HD := Lib.hid (HD.out.ext he7)
            have HR2 := Lib.hid (show subN u b = a / 2 ^ m % b by rw [HU.out, HH.out, HY.out.2])
            rw [HR2.out]
            clear he7 hs7 HU
            go_upto_region 12 with ((with_reducible refine wpList_store_word rfl rfl 27 (.tmp 7) (.tmp 39) rfl winfo (w.heap.size + 1 + 1 + 1 + 1 + 1) (wc u) (a / 2 ^ m % b) ?_ ?_ ?_ ?_ ?_); (exact rfl); (exact rfl); (exact HD.out.2.2.2.2.2.1.cs); (exact rfl); intro w8 k8 g8; have HD8 := Lib.hid (HD.out.setR g8 k8); clear k8 g8)
            have HD := HD8
            clear HD8
            have hq1 : q < M256 := hq
            go_wp2_with (first
              | ((with_reducible refine wpList_load_wordG ?_ 27 25 (.tmp 6) rfl Try.underlying27 winfo (w.heap.size + 1 + 1 + 1 + 1) (q) ?_ ?_ ?_); (exact rfl); (exact rfl); (exact HD.out.2.2.2.2.1)))
            refine (refUp_any q 1 _ hq (by decide)).mono ?_
            rintro e w9 ⟨rfl, he9⟩
            have HD := Lib.hid (HD.out.ext he9)
            clear he9
            go_wp2_with ((with_reducible refine wpList_store_word rfl rfl 27 (.tmp 6) (.tmp 43) rfl winfo (w.heap.size + 1 + 1 + 1 + 1) (wc q) (upN q 1) ?_ ?_ ?_ ?_ ?_); (exact rfl); (exact rfl); (exact HD.out.2.2.2.2.1.cs); (exact rfl); intro w10 k10 g10; have HD2 := Lib.hid (HD.out.setQ g10 k10); clear k10 g10)
            have HF := Lib.hid (show upN q 1 = a / 2 ^ m / b by
              rw [HH.out, HY.out.1]
              have := HAL.out
              rw [HY.out.1] at this
              exact Nat.mod_eq_of_lt this)
            rw [HF.out] at HD2
            go_roundw
            case rel => exact ⟨m, by omega, rfl, HD2⟩
            case measure => simp [intOf]
        · have hnov : 2 * r + bitN a m < M256 := by have := mt HTO.out.2 ho; omega
          have hor : (((bitN r 255 : Nat) : Int) == 1) = false := by simp only [beq_eq_false_iff_ne]; omega
          have HUP := Lib.hid (show upN r (bitN a m) = 2 * r + bitN a m from Nat.mod_eq_of_lt hnov)
          by_cases hge2 : b ≤ 2 * r + bitN a m
          · have HY := Lib.hid (HYES.out hge2)
            have HU := Lib.hid (show subN (upN r (bitN a m)) b = 2 * r + bitN a m - b by
              rw [HUP.out]
              unfold subN
              have hr' := HRB.out
              rw [show 2 * r + bitN a m + M256 - b = (2 * r + bitN a m - b) + M256 by omega, Nat.add_mod_right, Nat.mod_eq_of_lt (by omega)])
            have HCM := Lib.hid (show decide ((0 : Int) ≤ cmpN (upN r (bitN a m)) b) = true by
              rw [HUP.out]
              unfold cmpN
              rw [if_neg (by omega)]
              split <;> rfl)
            clear ho hnov HTO HNO HYES HUP hge2
            go_wp2_with fail
            have HS : Ks w [(w.heap.size, a), (w.heap.size + 1, b), (w.heap.size + 1 + 1, 0), (w.heap.size + 1 + 1 + 1, 0), (w.heap.size + 1 + 1 + 1 + 1, q)] w4 := ⟨fun x hx => by
              simp only [List.mem_cons, List.not_mem_nil, or_false] at hx
              rcases hx with rfl | rfl | rfl | rfl | rfl
              · exact HD.out.1
              · exact HD.out.2.1
              · exact HD.out.2.2.1
              · exact HD.out.2.2.2.1
              · exact HD.out.2.2.2.2.1, HD.out.2.2.2.2.2.2⟩
            refine wp_named fun a0 ha0 => ?_
            obtain ⟨fr, hfr⟩ : ∃ fr : (Nat → Value) → Act, ∀ V, fr V = (((((a0.put (some 23) (V 0)).put (some 24) (V 1)).put (some 25) (V 2)).put (some 26) (V 3)).put (some 27) (V 4)) := ⟨fun V => (((((a0.put (some 23) (V 0)).put (some 24) (V 1)).put (some 25) (V 2)).put (some 26) (V 3)).put (some 27) (V 4)), fun _ => rfl⟩
            rw [ha0] at hfr
            simp only [Act.put, List.setIfInBounds_toArray, List.set_cons_zero, List.set_cons_succ] at hfr
            have HFR := Lib.hid hfr
            clear hfr
            refine wp_region_inv (by kernel_rfl) (by kernel_rfl) (fun L A W => ∃ V : Nat → Value, A = fr V ∧ Ks w [(w.heap.size, a), (w.heap.size + 1, b), (w.heap.size + 1 + 1, 0), (w.heap.size + 1 + 1 + 1, 0), (w.heap.size + 1 + 1 + 1 + 1, q)] W ∧ Vals (fun j => ([some (wv (r)), some (wv (a)), some (.int .i64 (m : Nat)), some (.int .i64 (bitN a m : Nat)), some (wv (upN r (bitN a m))), none] : List (Option Value)).getD j none) L V ∧ Rw W (w.heap.size + 1 + 1 + 1 + 1 + 1) (L 5) (r) (upN r (bitN a m))) ?_ ⟨?_, ?_, ?_, ?_, ?_, ?_, trivial⟩ ?_
            · refine ⟨fun j => a0.tmps.getD (([23, 24, 25, 26, 27, 0] : List Nat).getD j 0) undef, ?_, HS.drew, Vals.no _ _ _ (far_none _ _ rfl), Rw.start (HD.out.2.2.2.2.2.1) (by decide)⟩
              rw [HFR.out, ha0]
              rfl
            all_goals clear ha0
            · rintro L A W K hL hC hW ⟨V, rfl, HS, HV, f5⟩ hK
              have hz := Rw.old f5 (hC.no hL 5 _ rfl rfl)
              have H := Lib.hid (show ∀ W', Ext W W' → K (fr (upd V 0 (wv (r)))) W' from fun W' he => hK _ _ ⟨upd V 0 (wv (r)), rfl, HS.ext he, HV.up 0 _ (fun x hx => Option.some.inj hx), Rw.ext f5 he (more_at (by decide))⟩)
              clear hK hC hW hL HV f5
              rw [HFR.out]
              refine wpList_load_wordG rfl 27 25 (.tmp 7) rfl Try.underlying27 winfo (w.heap.size + 1 + 1 + 1 + 1 + 1) (r) rfl hz ?_
              show K _ _
              have := H.out _ (Ext.refl _)
              rw [HFR.out] at this
              exact this
            · rintro L A W K hL hC hW ⟨V, rfl, HS, HV, f5⟩ hK
              have H := Lib.hid (show ∀ W', Ext W W' → K (fr (upd V 1 (wv (a)))) W' from fun W' he => hK _ _ ⟨upd V 1 (wv (a)), rfl, HS.ext he, HV.up 1 _ (fun x hx => Option.some.inj hx), Rw.ext f5 he (more_at (by decide))⟩)
              clear hK hC hW hL HV f5
              rw [HFR.out]
              refine wpList_load_wordG rfl 27 25 (.tmp 2) rfl Try.underlying27 winfo (w.heap.size) (a) rfl (HS.at (w.heap.size) (a) (by simp)) ?_
              show K _ _
              have := H.out _ (Ext.refl _)
              rw [HFR.out] at this
              exact this
            · rintro L A W K hL hC hW ⟨V, rfl, HS, HV, f5⟩ hK
              have H := Lib.hid (show ∀ W', Ext W W' → K (fr (upd V 2 (.int .i64 (m : Nat)))) W' from fun W' he => hK _ _ ⟨upd V 2 (.int .i64 (m : Nat)), rfl, HS.ext he, HV.up 2 _ (fun x hx => Option.some.inj hx), Rw.ext f5 he (more_at (by decide))⟩)
              clear hK hC hW hL HV f5
              rw [HFR.out]
              go_wp2_with fail
              show K _ _
              have := H.out _ (Ext.refl _)
              rw [HFR.out] at this
              exact this
            · rintro L A W K hL hC hW ⟨V, rfl, HS, HV, f5⟩ hK
              have e1 : V 1 = wv (a) := HV 1 _ rfl (hW 1 rfl)
              have e2 : V 2 = .int .i64 (m : Nat) := HV 2 _ rfl (hW 2 rfl)
              have u1 : (upd V 3 (.int .i64 (bitN a m : Nat))) 1 = wv (a) := e1
              have u2 : (upd V 3 (.int .i64 (bitN a m : Nat))) 2 = .int .i64 (m : Nat) := e2
              have HU := Lib.hid (show (upd V 3 (.int .i64 (bitN a m : Nat))) 1 = wv (a) ∧ (upd V 3 (.int .i64 (bitN a m : Nat))) 2 = .int .i64 (m : Nat) from ⟨u1, u2⟩)
              clear u1 u2
              have H := Lib.hid (show ∀ W', Ext W W' → K (fr (upd V 3 (.int .i64 (bitN a m : Nat)))) W' from fun W' he => hK _ _ ⟨upd V 3 (.int .i64 (bitN a m : Nat)), rfl, HS.ext he, HV.up 3 _ (fun x hx => Option.some.inj hx), Rw.ext f5 he (more_at (by decide))⟩)
              clear hK hC hW hL HV f5
              rw [HFR.out]
              rw [e1, e2]
              clear e1 e2
              go_wp2_with fail
              refine (bit_any a m _ HA.out hmx).mono ?_
              rintro e wx ⟨rfl, he⟩
              have := H.out _ he
              clear H
              go_wp2_with fail
              show K _ _
              rw [HFR.out] at this
              obtain ⟨u1, u2⟩ := HU.out
              rw [u1, u2] at this
              exact this
            · rintro L A W K hL hC hW ⟨V, rfl, HS, HV, f5⟩ hK
              have e0 : V 0 = wv (r) := HV 0 _ rfl (hW 0 rfl)
              have e3 : V 3 = .int .i64 (bitN a m : Nat) := HV 3 _ rfl (hW 3 rfl)
              have u0 : (upd V 4 (wv (upN r (bitN a m)))) 0 = wv (r) := e0
              have u3 : (upd V 4 (wv (upN r (bitN a m)))) 3 = .int .i64 (bitN a m : Nat) := e3
              have HU := Lib.hid (show (upd V 4 (wv (upN r (bitN a m)))) 0 = wv (r) ∧ (upd V 4 (wv (upN r (bitN a m)))) 3 = .int .i64 (bitN a m : Nat) from ⟨u0, u3⟩)
              clear u0 u3
              have H := Lib.hid (show ∀ W', Ext W W' → K (fr (upd V 4 (wv (upN r (bitN a m))))) W' from fun W' he => hK _ _ ⟨upd V 4 (wv (upN r (bitN a m))), rfl, HS.ext he, HV.up 4 _ (fun x hx => Option.some.inj hx), Rw.ext f5 he (more_at (by decide))⟩)
              clear hK hC hW hL HV f5
              rw [HFR.out]
              rw [e0, e3]
              clear e0 e3
              go_wp2_with fail
              refine (refUp_any r (bitN a m) _ hr (bitN_lt a m)).mono ?_
              rintro e wx ⟨rfl, he⟩
              have := H.out _ he
              clear H
              go_wp2_with fail
              show K _ _
              rw [HFR.out] at this
              obtain ⟨u0, u3⟩ := HU.out
              rw [u0, u3] at this
              exact this
            · rintro L A W K hL hC hW ⟨V, rfl, HS, HV, f5⟩ hK
              have e4 : V 4 = wv (upN r (bitN a m)) := HV 4 _ rfl (hW 4 rfl)
              have u4 : (V) 4 = wv (upN r (bitN a m)) := e4
              have HU := Lib.hid (show (V) 4 = wv (upN r (bitN a m)) from u4)
              clear u4
              rw [HFR.out]
              rw [e4]
              refine wpList_store_word rfl rfl 27 (.tmp 7) (.tmp 27) rfl winfo (w.heap.size + 1 + 1 + 1 + 1 + 1) (wc (r)) (upN r (bitN a m)) rfl rfl (Rw.old f5 hL).cs rfl ?_
              intro W' hw hgr
              show K _ _
              have := hK _ _ ⟨V, rfl, HS.far hgr ((by omega)) ((fun x hx => by simp only [List.mem_cons, List.not_mem_nil, or_false] at hx; rcases hx with rfl | rfl | rfl | rfl | rfl <;> dsimp only <;> omega)), HV.st 5 rfl, Rw.done hw⟩
              rw [HFR.out] at this
              obtain u4 := HU.out
              rw [u4] at this
              exact this
            · rintro L A W hL ⟨V, rfl, HS, HV, f5⟩
              have e0 : V 0 = wv (r) := HV 0 _ rfl (hL 0 (by simp))
              have e1 : V 1 = wv (a) := HV 1 _ rfl (hL 1 (by simp))
              have e2 : V 2 = .int .i64 (m : Nat) := HV 2 _ rfl (hL 2 (by simp))
              have e3 : V 3 = .int .i64 (bitN a m : Nat) := HV 3 _ rfl (hL 3 (by simp))
              have e4 : V 4 = wv (upN r (bitN a m)) := HV 4 _ rfl (hL 4 (by simp))
              have z7 := Rw.new f5 (hL 5 (by simp))
              rw [HFR.out]
              rw [e0, e1, e2, e3, e4]
              clear hL HV e0 e1 e2 e3 e4 f5
              have HD := Lib.hid (show Dd w W a b q (upN r (bitN a m)) from ⟨HS.at _ _ (by simp), HS.at _ _ (by simp), HS.at _ 0 (by simp), HS.at _ 0 (by simp), HS.at _ _ (by simp), z7, HS.2⟩)
              clear HFR HS z7
              have hu := upN_lt r (bitN a m)
              generalize upN r (bitN a m) = u at *
              go_wp2_with (first
                | ((with_reducible refine wpList_load_wordG ?_ 27 25 (.tmp 7) rfl Try.underlying27 winfo (w.heap.size + 1 + 1 + 1 + 1 + 1) (u) ?_ ?_ ?_); (exact rfl); (exact rfl); (exact HD.out.2.2.2.2.2.1))
                | ((with_reducible refine wpList_load_wordG ?_ 27 25 (.tmp 3) rfl Try.underlying27 winfo (w.heap.size + 1) (b) ?_ ?_ ?_); (exact rfl); (exact rfl); (exact HD.out.2.1)))
              refine (refCmp_any u b _ hu hbb).mono ?_
              rintro e w6 ⟨rfl, he6⟩
              have HD := Lib.hid (HD.out.ext he6)
              have hcm := HCM.out
              generalize cmpN u b = cv at *
              clear he6
              go_wp2_with (first
                | ((with_reducible refine wpList_load_wordG ?_ 27 25 (.tmp 7) rfl Try.underlying27 winfo (w.heap.size + 1 + 1 + 1 + 1 + 1) (u) ?_ ?_ ?_); (exact rfl); (exact rfl); (exact HD.out.2.2.2.2.2.1))
                | ((with_reducible refine wpList_load_wordG ?_ 27 25 (.tmp 3) rfl Try.underlying27 winfo (w.heap.size + 1) (b) ?_ ?_ ?_); (exact rfl); (exact rfl); (exact HD.out.2.1)))
              refine (refSub_any u b _ hu hbb).mono ?_
              rintro e w7 ⟨rfl, hs7, he7⟩
              have HD := Lib.hid (HD.out.ext he7)
              have HR2 := Lib.hid (show subN u b = a / 2 ^ m % b by rw [HU.out, HH.out, HY.out.2])
              rw [HR2.out]
              clear he7 hs7 HU
              go_upto_region 12 with ((with_reducible refine wpList_store_word rfl rfl 27 (.tmp 7) (.tmp 39) rfl winfo (w.heap.size + 1 + 1 + 1 + 1 + 1) (wc u) (a / 2 ^ m % b) ?_ ?_ ?_ ?_ ?_); (exact rfl); (exact rfl); (exact HD.out.2.2.2.2.2.1.cs); (exact rfl); intro w8 k8 g8; have HD8 := Lib.hid (HD.out.setR g8 k8); clear k8 g8)
              have HD := HD8
              clear HD8
              have hq1 : q < M256 := hq
              go_wp2_with (first
                | ((with_reducible refine wpList_load_wordG ?_ 27 25 (.tmp 6) rfl Try.underlying27 winfo (w.heap.size + 1 + 1 + 1 + 1) (q) ?_ ?_ ?_); (exact rfl); (exact rfl); (exact HD.out.2.2.2.2.1)))
              refine (refUp_any q 1 _ hq (by decide)).mono ?_
              rintro e w9 ⟨rfl, he9⟩
              have HD := Lib.hid (HD.out.ext he9)
              clear he9
              go_wp2_with ((with_reducible refine wpList_store_word rfl rfl 27 (.tmp 6) (.tmp 43) rfl winfo (w.heap.size + 1 + 1 + 1 + 1) (wc q) (upN q 1) ?_ ?_ ?_ ?_ ?_); (exact rfl); (exact rfl); (exact HD.out.2.2.2.2.1.cs); (exact rfl); intro w10 k10 g10; have HD2 := Lib.hid (HD.out.setQ g10 k10); clear k10 g10)
              have HF := Lib.hid (show upN q 1 = a / 2 ^ m / b by
                rw [HH.out, HY.out.1]
                have := HAL.out
                rw [HY.out.1] at this
                exact Nat.mod_eq_of_lt this)
              rw [HF.out] at HD2
              go_roundw
              case rel => exact ⟨m, by omega, rfl, HD2⟩
              case measure => simp [intOf]
          · have HY := Lib.hid (HNO.out (by omega))
            have HCM := Lib.hid (show decide ((0 : Int) ≤ cmpN (upN r (bitN a m)) b) = false by
              rw [HUP.out]
              unfold cmpN
              rw [if_pos (by omega)]
              rfl)
            clear ho hnov HTO HNO HYES hge2
            go_wp2_with fail
            have HS : Ks w [(w.heap.size, a), (w.heap.size + 1, b), (w.heap.size + 1 + 1, 0), (w.heap.size + 1 + 1 + 1, 0), (w.heap.size + 1 + 1 + 1 + 1, q)] w4 := ⟨fun x hx => by
              simp only [List.mem_cons, List.not_mem_nil, or_false] at hx
              rcases hx with rfl | rfl | rfl | rfl | rfl
              · exact HD.out.1
              · exact HD.out.2.1
              · exact HD.out.2.2.1
              · exact HD.out.2.2.2.1
              · exact HD.out.2.2.2.2.1, HD.out.2.2.2.2.2.2⟩
            refine wp_named fun a0 ha0 => ?_
            obtain ⟨fr, hfr⟩ : ∃ fr : (Nat → Value) → Act, ∀ V, fr V = (((((a0.put (some 23) (V 0)).put (some 24) (V 1)).put (some 25) (V 2)).put (some 26) (V 3)).put (some 27) (V 4)) := ⟨fun V => (((((a0.put (some 23) (V 0)).put (some 24) (V 1)).put (some 25) (V 2)).put (some 26) (V 3)).put (some 27) (V 4)), fun _ => rfl⟩
            rw [ha0] at hfr
            simp only [Act.put, List.setIfInBounds_toArray, List.set_cons_zero, List.set_cons_succ] at hfr
            have HFR := Lib.hid hfr
            clear hfr
            refine wp_region_inv (by kernel_rfl) (by kernel_rfl) (fun L A W => ∃ V : Nat → Value, A = fr V ∧ Ks w [(w.heap.size, a), (w.heap.size + 1, b), (w.heap.size + 1 + 1, 0), (w.heap.size + 1 + 1 + 1, 0), (w.heap.size + 1 + 1 + 1 + 1, q)] W ∧ Vals (fun j => ([some (wv (r)), some (wv (a)), some (.int .i64 (m : Nat)), some (.int .i64 (bitN a m : Nat)), some (wv (upN r (bitN a m))), none] : List (Option Value)).getD j none) L V ∧ Rw W (w.heap.size + 1 + 1 + 1 + 1 + 1) (L 5) (r) (upN r (bitN a m))) ?_ ⟨?_, ?_, ?_, ?_, ?_, ?_, trivial⟩ ?_
            · refine ⟨fun j => a0.tmps.getD (([23, 24, 25, 26, 27, 0] : List Nat).getD j 0) undef, ?_, HS.drew, Vals.no _ _ _ (far_none _ _ rfl), Rw.start (HD.out.2.2.2.2.2.1) (by decide)⟩
              rw [HFR.out, ha0]
              rfl
            all_goals clear ha0
            · rintro L A W K hL hC hW ⟨V, rfl, HS, HV, f5⟩ hK
              have hz := Rw.old f5 (hC.no hL 5 _ rfl rfl)
              have H := Lib.hid (show ∀ W', Ext W W' → K (fr (upd V 0 (wv (r)))) W' from fun W' he => hK _ _ ⟨upd V 0 (wv (r)), rfl, HS.ext he, HV.up 0 _ (fun x hx => Option.some.inj hx), Rw.ext f5 he (more_at (by decide))⟩)
              clear hK hC hW hL HV f5
              rw [HFR.out]
              refine wpList_load_wordG rfl 27 25 (.tmp 7) rfl Try.underlying27 winfo (w.heap.size + 1 + 1 + 1 + 1 + 1) (r) rfl hz ?_
              show K _ _
              have := H.out _ (Ext.refl _)
              rw [HFR.out] at this
              exact this
            · rintro L A W K hL hC hW ⟨V, rfl, HS, HV, f5⟩ hK
              have H := Lib.hid (show ∀ W', Ext W W' → K (fr (upd V 1 (wv (a)))) W' from fun W' he => hK _ _ ⟨upd V 1 (wv (a)), rfl, HS.ext he, HV.up 1 _ (fun x hx => Option.some.inj hx), Rw.ext f5 he (more_at (by decide))⟩)
              clear hK hC hW hL HV f5
              rw [HFR.out]
              refine wpList_load_wordG rfl 27 25 (.tmp 2) rfl Try.underlying27 winfo (w.heap.size) (a) rfl (HS.at (w.heap.size) (a) (by simp)) ?_
              show K _ _
              have := H.out _ (Ext.refl _)
              rw [HFR.out] at this
              exact this
            · rintro L A W K hL hC hW ⟨V, rfl, HS, HV, f5⟩ hK
              have H := Lib.hid (show ∀ W', Ext W W' → K (fr (upd V 2 (.int .i64 (m : Nat)))) W' from fun W' he => hK _ _ ⟨upd V 2 (.int .i64 (m : Nat)), rfl, HS.ext he, HV.up 2 _ (fun x hx => Option.some.inj hx), Rw.ext f5 he (more_at (by decide))⟩)
              clear hK hC hW hL HV f5
              rw [HFR.out]
              go_wp2_with fail
              show K _ _
              have := H.out _ (Ext.refl _)
              rw [HFR.out] at this
              exact this
            · rintro L A W K hL hC hW ⟨V, rfl, HS, HV, f5⟩ hK
              have e1 : V 1 = wv (a) := HV 1 _ rfl (hW 1 rfl)
              have e2 : V 2 = .int .i64 (m : Nat) := HV 2 _ rfl (hW 2 rfl)
              have u1 : (upd V 3 (.int .i64 (bitN a m : Nat))) 1 = wv (a) := e1
              have u2 : (upd V 3 (.int .i64 (bitN a m : Nat))) 2 = .int .i64 (m : Nat) := e2
              have HU := Lib.hid (show (upd V 3 (.int .i64 (bitN a m : Nat))) 1 = wv (a) ∧ (upd V 3 (.int .i64 (bitN a m : Nat))) 2 = .int .i64 (m : Nat) from ⟨u1, u2⟩)
              clear u1 u2
              have H := Lib.hid (show ∀ W', Ext W W' → K (fr (upd V 3 (.int .i64 (bitN a m : Nat)))) W' from fun W' he => hK _ _ ⟨upd V 3 (.int .i64 (bitN a m : Nat)), rfl, HS.ext he, HV.up 3 _ (fun x hx => Option.some.inj hx), Rw.ext f5 he (more_at (by decide))⟩)
              clear hK hC hW hL HV f5
              rw [HFR.out]
              rw [e1, e2]
              clear e1 e2
              go_wp2_with fail
              refine (bit_any a m _ HA.out hmx).mono ?_
              rintro e wx ⟨rfl, he⟩
              have := H.out _ he
              clear H
              go_wp2_with fail
              show K _ _
              rw [HFR.out] at this
              obtain ⟨u1, u2⟩ := HU.out
              rw [u1, u2] at this
              exact this
            · rintro L A W K hL hC hW ⟨V, rfl, HS, HV, f5⟩ hK
              have e0 : V 0 = wv (r) := HV 0 _ rfl (hW 0 rfl)
              have e3 : V 3 = .int .i64 (bitN a m : Nat) := HV 3 _ rfl (hW 3 rfl)
              have u0 : (upd V 4 (wv (upN r (bitN a m)))) 0 = wv (r) := e0
              have u3 : (upd V 4 (wv (upN r (bitN a m)))) 3 = .int .i64 (bitN a m : Nat) := e3
              have HU := Lib.hid (show (upd V 4 (wv (upN r (bitN a m)))) 0 = wv (r) ∧ (upd V 4 (wv (upN r (bitN a m)))) 3 = .int .i64 (bitN a m : Nat) from ⟨u0, u3⟩)
              clear u0 u3
              have H := Lib.hid (show ∀ W', Ext W W' → K (fr (upd V 4 (wv (upN r (bitN a m))))) W' from fun W' he => hK _ _ ⟨upd V 4 (wv (upN r (bitN a m))), rfl, HS.ext he, HV.up 4 _ (fun x hx => Option.some.inj hx), Rw.ext f5 he (more_at (by decide))⟩)
              clear hK hC hW hL HV f5
              rw [HFR.out]
              rw [e0, e3]
              clear e0 e3
              go_wp2_with fail
              refine (refUp_any r (bitN a m) _ hr (bitN_lt a m)).mono ?_
              rintro e wx ⟨rfl, he⟩
              have := H.out _ he
              clear H
              go_wp2_with fail
              show K _ _
              rw [HFR.out] at this
              obtain ⟨u0, u3⟩ := HU.out
              rw [u0, u3] at this
              exact this
            · rintro L A W K hL hC hW ⟨V, rfl, HS, HV, f5⟩ hK
              have e4 : V 4 = wv (upN r (bitN a m)) := HV 4 _ rfl (hW 4 rfl)
              have u4 : (V) 4 = wv (upN r (bitN a m)) := e4
              have HU := Lib.hid (show (V) 4 = wv (upN r (bitN a m)) from u4)
              clear u4
              rw [HFR.out]
              rw [e4]
              refine wpList_store_word rfl rfl 27 (.tmp 7) (.tmp 27) rfl winfo (w.heap.size + 1 + 1 + 1 + 1 + 1) (wc (r)) (upN r (bitN a m)) rfl rfl (Rw.old f5 hL).cs rfl ?_
              intro W' hw hgr
              show K _ _
              have := hK _ _ ⟨V, rfl, HS.far hgr ((by omega)) ((fun x hx => by simp only [List.mem_cons, List.not_mem_nil, or_false] at hx; rcases hx with rfl | rfl | rfl | rfl | rfl <;> dsimp only <;> omega)), HV.st 5 rfl, Rw.done hw⟩
              rw [HFR.out] at this
              obtain u4 := HU.out
              rw [u4] at this
              exact this
            · rintro L A W hL ⟨V, rfl, HS, HV, f5⟩
              have e0 : V 0 = wv (r) := HV 0 _ rfl (hL 0 (by simp))
              have e1 : V 1 = wv (a) := HV 1 _ rfl (hL 1 (by simp))
              have e2 : V 2 = .int .i64 (m : Nat) := HV 2 _ rfl (hL 2 (by simp))
              have e3 : V 3 = .int .i64 (bitN a m : Nat) := HV 3 _ rfl (hL 3 (by simp))
              have e4 : V 4 = wv (upN r (bitN a m)) := HV 4 _ rfl (hL 4 (by simp))
              have z7 := Rw.new f5 (hL 5 (by simp))
              rw [HFR.out]
              rw [e0, e1, e2, e3, e4]
              clear hL HV e0 e1 e2 e3 e4 f5
              have HD := Lib.hid (show Dd w W a b q (upN r (bitN a m)) from ⟨HS.at _ _ (by simp), HS.at _ _ (by simp), HS.at _ 0 (by simp), HS.at _ 0 (by simp), HS.at _ _ (by simp), z7, HS.2⟩)
              clear HFR HS z7
              have hu := upN_lt r (bitN a m)
              generalize upN r (bitN a m) = u at *
              go_wp2_with (first
                | ((with_reducible refine wpList_load_wordG ?_ 27 25 (.tmp 7) rfl Try.underlying27 winfo (w.heap.size + 1 + 1 + 1 + 1 + 1) (u) ?_ ?_ ?_); (exact rfl); (exact rfl); (exact HD.out.2.2.2.2.2.1))
                | ((with_reducible refine wpList_load_wordG ?_ 27 25 (.tmp 3) rfl Try.underlying27 winfo (w.heap.size + 1) (b) ?_ ?_ ?_); (exact rfl); (exact rfl); (exact HD.out.2.1)))
              refine (refCmp_any u b _ hu hbb).mono ?_
              rintro e w6 ⟨rfl, he6⟩
              have HD := Lib.hid (HD.out.ext he6)
              have hcm := HCM.out
              generalize cmpN u b = cv at *
              clear he6
              have HR2 := Lib.hid (show u = a / 2 ^ m % b by rw [HUP.out, HH.out, HY.out.2])
              rw [HR2.out] at HD
              have hq1 : q < M256 := hq
              go_wp2_with (first
                | ((with_reducible refine wpList_load_wordG ?_ 27 25 (.tmp 6) rfl Try.underlying27 winfo (w.heap.size + 1 + 1 + 1 + 1) (q) ?_ ?_ ?_); (exact rfl); (exact rfl); (exact HD.out.2.2.2.2.1)))
              refine (refUp_any q 0 _ hq (by decide)).mono ?_
              rintro e w9 ⟨rfl, he9⟩
              have HD := Lib.hid (HD.out.ext he9)
              clear he9
              go_wp2_with ((with_reducible refine wpList_store_word rfl rfl 27 (.tmp 6) (.tmp 43) rfl winfo (w.heap.size + 1 + 1 + 1 + 1) (wc q) (upN q 0) ?_ ?_ ?_ ?_ ?_); (exact rfl); (exact rfl); (exact HD.out.2.2.2.2.1.cs); (exact rfl); intro w10 k10 g10; have HD2 := Lib.hid (HD.out.setQ g10 k10); clear k10 g10)
              have HF := Lib.hid (show upN q 0 = a / 2 ^ m / b by
                rw [HH.out, HY.out.1]
                have := HAL.out
                rw [HY.out.1] at this
                exact Nat.mod_eq_of_lt this)
              rw [HF.out] at HD2
              go_roundw
              case rel => exact ⟨m, by omega, rfl, HD2⟩
              case measure => simp [intOf]
end Go.Proofs.Ytgmmkoahnednfaa
