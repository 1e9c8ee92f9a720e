/- Package gas: End, Lend, change, Save, Call; the document's of these. -/
import Derived.Test.YtjefbfabigkeiaaDoorGsp
import Derived.Test.YtjefbfabigkeiaaDoorRcd
namespace Go.Proofs.YtjefbfabigkeiaaDoor
open Go.ChangeShapes Go.WideShapes Go.ChangeAt Go.RowKit

set_option maxRecDepth 100000 in
theorem end_over (a n : Nat) : (ovr a n || !isSmall ((a + n) % M256)) = decide (18446744073709551616 ≤ a + n) := by
  rcases Nat.lt_or_ge (a + n) 18446744073709551616 with h | h
  · have h1 : ovr a n = false := decide_eq_false (by unfold M256; omega)
    have h2 : isSmall ((a + n) % M256) = true := decide_eq_true (by rw [Nat.mod_eq_of_lt (by unfold M256; omega)]; exact h)
    rw [h1, h2, decide_eq_false (by omega)]
    rfl
  · rw [decide_eq_true h]
    rcases Nat.lt_or_ge (a + n) M256 with k | k
    · have h2 : isSmall ((a + n) % M256) = false := decide_eq_false (by rw [Nat.mod_eq_of_lt k]; omega)
      rw [h2]
      simp
    · have h1 : ovr a n = true := decide_eq_true k
      rw [h1]
      rfl
set_option maxRecDepth 100000 in
theorem M0 : 0 < M256 := by decide
/-- Two blocks of words behind what was there. -/
def W2 (w : World) (g1 g2 a b : Nat) (w' : World) : Prop := Wd w' g1 36 a ∧ Wd w' g2 36 b ∧ Ext w w'
set_option maxRecDepth 100000 in
theorem W2.new (w : World) (a b : Nat) : W2 w w.heap.size (w.heap.size + 1) a b ((w.alloc (.cells (wc a) 36)).alloc (.cells (wc b) 36)) :=
  ⟨(Cs.new w _ _ _ rfl).alloc _, Cs.new _ _ _ _ (by simp), ((Ext.refl w).alloc _).alloc _⟩
set_option maxRecDepth 100000 in
theorem W2.ext {w : World} {g1 g2 a b : Nat} {w1 w2 : World} (h : W2 w g1 g2 a b w1) (he : Ext w1 w2) : W2 w g1 g2 a b w2 := ⟨h.1.ext he, h.2.1.ext he, h.2.2.trans he⟩

set_option maxRecDepth 100000 in
set_option maxHeartbeats 1000000 in
theorem endG_any (a n : Nat) (w : World) (ha : a < M256) (hn : n < M256) : Calls Tryd.prog 26 #[wv a, wv n] w fun e w' => e = .returned (.int .u64 (endG a n : Nat)) ∧ Ext w w' := by
  have HA := Lib.hid ha
  have HN := Lib.hid hn
  have HW := Lib.hid (W2.new w a n)
  have hq : ∀ u : World, (binOp .eql 36 (.agg #[.int .u64 (lb n 0 : Nat), .int .u64 (lb n 1 : Nat), .int .u64 (lb n 2 : Nat), .int .u64 (lb n 3 : Nat)]) (wv 0)).run Tryd.prog u = .ok (.bool (n == 0)) u := run_eql_word n 0 hn M0
  have hgq : ∀ u : World, (eqGuard .eql 36 (.tmp 9) (.tmp 10) (.agg #[.int .u64 (lb n 0 : Nat), .int .u64 (lb n 1 : Nat), .int .u64 (lb n 2 : Nat), .int .u64 (lb n 3 : Nat)]) (wv 0)).run Tryd.prog u = .ok () u := run_guard_eql (.tmp 9) (.tmp 10) n 0
  clear ha hn
  unfold wv
  go_enter Tryd.func26, Tryd.ntmps26
  go_upto_region 1 with fail
  generalize ((w.alloc (.cells (wc a) 36)).alloc (.cells (wc n) 36)) = w1 at *
  obtain ⟨g1, hg1⟩ : ∃ g, w.heap.size = g := ⟨_, rfl⟩
  rw [hg1] at HW ⊢
  obtain ⟨g2, hg2⟩ : ∃ g, g1 + 1 = g := ⟨_, rfl⟩
  rw [hg2] at HW ⊢
  clear hg1 hg2
  obtain ⟨q0, q1, q2, q3⟩ := HW.out.2.1.cs.four
  go_region_held3 (fun w' => w'.cell? ⟨g2, 0, none⟩ = some (.int .u64 (lb n 0 : Nat)) ∧ w'.cell? ⟨g2, 1, none⟩ = some (.int .u64 (lb n 1 : Nat)) ∧ w'.cell? ⟨g2, 2, none⟩ = some (.int .u64 (lb n 2 : Nat)) ∧ w'.cell? ⟨g2, 3, none⟩ = some (.int .u64 (lb n 3 : Nat)))
    (first | exact ⟨HE1.cell q0, HE1.cell q1, HE1.cell q2, HE1.cell q3⟩ | exact ⟨q0, q1, q2, q3⟩)
    (first | (go_at_call 38; refine (of_any 0 _ rfl _ (by decide)).mono ?_; rintro e w2 ⟨rfl, HE1⟩))
  have HX := Lib.hid (HW.out.ext (((Ext.refl w1).drew).trans HE1))
  clear HW HE1 q0 q1 q2 q3 hq hgq
  by_cases hz : n = 0
  · subst hz
    go_wp2
    go_ret
    exact ⟨rfl, HX.out.2.2⟩
  · have hb : (n == 0) = false := by simpa using hz
    rw [hb]
    clear hb
    go_upto_region 3 with fail
    have k1 := HX.out.1
    have k2 := HX.out.2.1
    go_wp2_with (first | ((with_reducible refine wpList_load_wordG ?_ 36 24 (.tmp 2) rfl Tryd.underlying36 winfo g1 a ?_ ?_ ?_); (exact rfl); (exact rfl); (exact k1)) | ((with_reducible refine wpList_load_wordG ?_ 36 24 (.tmp 3) rfl Tryd.underlying36 winfo g2 n ?_ ?_ ?_); (exact rfl); (exact rfl); (exact k2)))
    refine (add_any a n w2 HA.out HN.out).mono ?_
    rintro e w3 ⟨rfl, HE3⟩
    have HX3 := Lib.hid (HX.out.ext HE3)
    clear HX k1 k2
    have HS := Lib.hid (Nat.mod_lt (a + n) (show 0 < M256 from M0))
    have HV := Lib.hid (end_over a n)
    have HU := Lib.hid (show a + n < 18446744073709551616 → smallN ((a + n) % M256) = a + n from fun h => by
      unfold smallN M256
      rw [Nat.mod_eq_of_lt (by omega), if_pos h])
    generalize (a + n) % M256 = s at *
    generalize ovr a n = o at *
    have hcs : Cs (w3.alloc (.cells #[.int .u64 0, .int .u64 0, .int .u64 0, .int .u64 0] 36)) w3.heap.size 36 (wc 0) := Cs.new _ _ _ _ rfl
    have HX4 := Lib.hid (HX3.out.2.2.alloc (.cells #[.int .u64 0, .int .u64 0, .int .u64 0, .int .u64 0] 36))
    have HSZ := Lib.hid (Nat.le_refl w3.heap.size)
    go_upto_region 4 with (refine wpList_store_word rfl rfl 36 (.tmp 5) (.tmp 16) rfl winfo w3.heap.size (wc 0) s rfl rfl hcs rfl ?_; intro w4 hw4 hg4; have HW4 := Lib.hid hw4; have HX5 := Lib.hid (HX4.out.grown hg4 (HX3.out.2.2.size)); clear hw4 hg4 hcs HX4)
    obtain ⟨g3, hg3⟩ : ∃ g, w3.heap.size = g := ⟨_, rfl⟩
    rw [hg3] at HW4 ⊢
    go_wp2_with ((with_reducible refine wpList_load_wordG ?_ 36 24 (.tmp 5) rfl Tryd.underlying36 winfo g3 s ?_ ?_ ?_); (exact rfl); (exact rfl); (exact HW4.out))
    refine (small_any s w4 HS.out).mono ?_
    rintro e w5 ⟨rfl, HE5⟩
    have HX6 := Lib.hid (HX5.out.trans HE5)
    rcases Nat.lt_or_ge (a + n) 18446744073709551616 with hlt | hge
    · have hv := HV.out
      have hu := HU.out hlt
      rw [decide_eq_false (by omega)] at hv
      obtain ⟨rfl, hsm⟩ : o = false ∧ isSmall s = true := by
        cases o <;> simp at hv ⊢
        exact hv
      rw [hsm, hu]
      go_wp2_with fail
      refine (upG_any w5).mono ?_
      rintro e w6 ⟨rfl, h6, HE6⟩
      unfold cloG
      go_wp2_with fail
      refine (cutG_any (a + n) noGas _ w6 hlt (by decide) h6).mono ?_
      rintro e w ⟨rfl, rfl⟩
      go_wp2
      go_ret
      exact ⟨ret_int (by unfold endG; rw [if_neg hz]), HX6.out.trans HE6⟩
    · have hv := HV.out
      rw [decide_eq_true hge] at hv
      have HR := Lib.hid (show (1099511627776 : Int) = (endG a n : Nat) by
        unfold endG noGas
        rw [if_neg hz, Nat.min_eq_right (by omega)]
        rfl)
      cases o
      · have hsm : isSmall s = false := by simpa using hv
        rw [hsm]
        go_wp2
        go_ret
        exact ⟨ret_int HR.out, HX6.out⟩
      · go_wp2
        go_ret
        exact ⟨ret_int HR.out, HX6.out⟩
end Go.Proofs.YtjefbfabigkeiaaDoor
