/- Package gas: Lend, change, Save, Call; the document's End, Lend, Save, Call. -/
import Derived.Test.YtjefbfabigkeiaaDoorGsq
namespace Go.Proofs.YtjefbfabigkeiaaDoor
open Go.ChangeShapes Go.WideShapes Go.ChangeAt Go.RowKit

set_option maxRecDepth 100000 in
theorem W1new (w : World) (a : Nat) : Wd (w.alloc (.cells (wc a) 36)) w.heap.size 36 a ∧ Ext w (w.alloc (.cells (wc a) 36)) := ⟨Cs.new w _ _ _ rfl, (Ext.refl w).alloc _⟩
set_option maxRecDepth 100000 in
theorem partG_lt {n : Nat} (h : n < 18446744073709551616) : partG n < 18446744073709551616 := Nat.lt_of_le_of_lt (partG_le n) h
set_option maxRecDepth 100000 in
theorem lend_yes {left a : Nat} (hs : isSmall a = true) (h : smallN a < partG left) : smallN a = lendG left a := by
  have h1 : a < 18446744073709551616 := by simpa [isSmall] using hs
  unfold smallN at *
  rw [if_pos h1] at *
  unfold lendG
  omega
set_option maxRecDepth 100000 in
theorem lend_no {left a : Nat} (hl : left < 18446744073709551616) (h : isSmall a = true → ¬ smallN a < partG left) : partG left = lendG left a := by
  unfold lendG
  have hp := partG_lt hl
  rcases Nat.lt_or_ge a 18446744073709551616 with h1 | h1
  · have h2 := h (decide_eq_true h1)
    unfold smallN at h2
    rw [if_pos h1] at h2
    omega
  · omega
set_option maxRecDepth 100000 in
set_option maxHeartbeats 1000000 in
theorem lendG_any (left a : Nat) (w : World) (hl : left < 18446744073709551616) (ha : a < M256) : Calls Tryd.prog 28 #[.int .u64 (left : Nat), wv a] w fun e w' => e = .returned (.int .u64 (lendG left a : Nat)) ∧ Ext w w' := by
  have HA := Lib.hid ha
  have HW := Lib.hid (W1new w a)
  have HL := Lib.hid hl
  have HS := Lib.hid (show smallN a < 18446744073709551616 by unfold smallN; split <;> omega)
  clear ha
  unfold wv
  go_enter Tryd.func28, Tryd.ntmps28
  go_wp2_with fail
  generalize w.alloc (.cells (wc a) 36) = w1 at *
  obtain ⟨g1, hg1⟩ : ∃ g, w.heap.size = g := ⟨_, rfl⟩
  rw [hg1] at HW ⊢
  clear hg1
  refine (partG_any left w1 hl).mono ?_
  rintro e w1 ⟨rfl, rfl⟩
  go_wp2_with ((with_reducible refine wpList_load_wordG ?_ 36 24 (.tmp 3) rfl Tryd.underlying36 winfo g1 a ?_ ?_ ?_); (exact rfl); (exact rfl); (exact HW.out.1))
  refine (small_any a w1 HA.out).mono ?_
  rintro e w2 ⟨rfl, HE2⟩
  have HX := Lib.hid (HW.out.2.trans HE2)
  have hs := HS.out
  have hp := partG_lt hl
  have HYes := Lib.hid (fun h1 h2 => lend_yes (left := left) (a := a) h1 h2)
  have HNo := Lib.hid (fun h => lend_no (a := a) hl h)
  clear HW HE2 HS hl HL
  generalize smallN a = m at *
  generalize partG left = p at *
  rcases Bool.eq_false_or_eq_true (isSmall a) with hb | hb
  · rw [hb] at HYes HNo ⊢
    clear hb
    go_wp2
    · go_ret
      exact ⟨ret_int (by rw [HYes.out trivial (by omega)]), HX.out⟩
    · go_ret
      exact ⟨ret_int (by rw [HNo.out (fun _ => by omega)]), HX.out⟩
  · rw [hb] at HNo ⊢
    clear hb
    go_wp2
    go_ret
    exact ⟨ret_int (by rw [HNo.out (fun h => by cases h)]), HX.out⟩
/-- What a slot costs, the cold aside. -/
def chgG (was is : Nat) : Nat := if is = was then 10 else if was = 0 then 2000 else 290
set_option maxRecDepth 100000 in
set_option maxHeartbeats 1000000 in
theorem changeG_any (a n : Nat) (w : World) (ha : a < M256) (hn : n < M256) : Calls Tryd.prog 52 #[wv a, wv n] w fun e w' => e = .returned (.int .u64 (chgG a n : Nat)) ∧ Ext w w' := by
  have HA := Lib.hid ha
  have HN := Lib.hid hn
  have HW := Lib.hid (W2.new w a n)
  have hq : ∀ u : World, (binOp .eql 36 (.agg #[.int .u64 (lb a 0 : Nat), .int .u64 (lb a 1 : Nat), .int .u64 (lb a 2 : Nat), .int .u64 (lb a 3 : Nat)]) (wv 0)).run Tryd.prog u = .ok (.bool (a == 0)) u := run_eql_word a 0 ha M0
  have hgq : ∀ u : World, (eqGuard .eql 36 (.tmp 10) (.tmp 11) (.agg #[.int .u64 (lb a 0 : Nat), .int .u64 (lb a 1 : Nat), .int .u64 (lb a 2 : Nat), .int .u64 (lb a 3 : Nat)]) (wv 0)).run Tryd.prog u = .ok () u := run_guard_eql (.tmp 10) (.tmp 11) a 0
  clear ha hn
  unfold wv
  go_enter Tryd.func52, Tryd.ntmps52
  go_upto_region 1 with fail
  generalize ((w.alloc (.cells (wc a) 36)).alloc (.cells (wc n) 36)) = w1 at *
  obtain ⟨g1, hg1⟩ : ∃ g, w.heap.size = g := ⟨_, rfl⟩
  rw [hg1] at HW ⊢
  obtain ⟨g2, hg2⟩ : ∃ g, g1 + 1 = g := ⟨_, rfl⟩
  rw [hg2] at HW ⊢
  clear hg1 hg2
  have k1 := HW.out.1
  have k2 := HW.out.2.1
  go_upto_region 3 with (first | ((with_reducible refine wpList_load_wordG ?_ 36 24 (.tmp 2) rfl Tryd.underlying36 winfo g1 a ?_ ?_ ?_); (exact rfl); (exact rfl); (exact k1)) | ((with_reducible refine wpList_load_wordG ?_ 36 24 (.tmp 3) rfl Tryd.underlying36 winfo g2 n ?_ ?_ ?_); (exact rfl); (exact rfl); (exact k2)) | ((with_reducible refine wpList_eql_word ?_ (.tmp 6) (.tmp 7) ?_ n a HN.out HA.out ?_ ?_ ?_); (exact rfl); (exact rfl); (exact rfl); (exact rfl)))
  · go_ret
    have he : (n == a) = true := by assumption
    exact ⟨ret_int (by unfold chgG; rw [if_pos (by simpa using he)]; rfl), HW.out.2.2⟩
  · have he : (n == a) = false := by assumption
    have hne : ¬ n = a := by simpa using he
    obtain ⟨q0, q1, q2, q3⟩ := HW.out.1.cs.four
    clear k1 k2 he
    go_region_held3 (fun w' => w'.cell? ⟨g1, 0, none⟩ = some (.int .u64 (lb a 0 : Nat)) ∧ w'.cell? ⟨g1, 1, none⟩ = some (.int .u64 (lb a 1 : Nat)) ∧ w'.cell? ⟨g1, 2, none⟩ = some (.int .u64 (lb a 2 : Nat)) ∧ w'.cell? ⟨g1, 3, none⟩ = some (.int .u64 (lb a 3 : Nat)))
      (first | exact ⟨HE1.cell q0, HE1.cell q1, HE1.cell q2, HE1.cell q3⟩ | exact ⟨q0, q1, q2, q3⟩)
      (first | (go_at_call 38; refine (of_any 0 _ rfl _ (by decide)).mono ?_; rintro e w2 ⟨rfl, HE1⟩))
    have HX := Lib.hid (HW.out.2.2.trans (((Ext.refl w1).drew).trans HE1))
    clear HW HE1 q0 q1 q2 q3 hq hgq
    go_wp2
    · go_ret
      have hz : (a == 0) = true := by assumption
      exact ⟨ret_int (by unfold chgG; rw [if_neg hne, if_pos (by simpa using hz)]; rfl), HX.out⟩
    · go_ret
      have hz : (a == 0) = false := by assumption
      exact ⟨ret_int (by unfold chgG; rw [if_neg hne, if_neg (by simpa using hz)]; rfl), HX.out⟩
set_option maxRecDepth 100000 in
theorem ends_over (a n : Nat) (hn : n ≠ 0) : if ovr a n = true then endG a n = noGas else endG a n = min (addN a n) noGas := by
  unfold endG addN
  rw [if_neg hn]
  split
  · rename_i h
    have h1 : M256 ≤ a + n := of_decide_eq_true h
    unfold M256 at h1
    unfold noGas
    omega
  · rename_i h
    have h1 : ¬ M256 ≤ a + n := fun k => h (decide_eq_true k)
    rw [Nat.mod_eq_of_lt (by omega)]
/-- A saving, a calling as values. -/
def svv (a n : Nat) (c : Bool) : Value := .agg #[.int .u64 (lb a 0 : Nat), .int .u64 (lb a 1 : Nat), .int .u64 (lb a 2 : Nat), .int .u64 (lb a 3 : Nat), .int .u64 (lb n 0 : Nat), .int .u64 (lb n 1 : Nat), .int .u64 (lb n 2 : Nat), .int .u64 (lb n 3 : Nat), .bool c]
def clv (c v n : Bool) : Value := .agg #[.bool c, .bool v, .bool n]
set_option maxRecDepth 100000 in
set_option maxHeartbeats 1000000 in
theorem saveG_any (a n : Nat) (c : Bool) (w : World) (ha : a < M256) (hn : n < M256) : Calls Tryd.prog 30 #[svv a n c] w fun e w' => e = .returned (.int .u64 (saveG a n c : Nat)) ∧ Ext w w' := by
  have HA := Lib.hid ha
  have HN := Lib.hid hn
  clear ha hn
  unfold svv
  go_enter Tryd.func30, Tryd.ntmps30
  go_wp2_with fail
  have HC := Lib.hid (show (w.alloc (Obj.cells #[.int .u64 (lb a 0 : Nat), .int .u64 (lb a 1 : Nat), .int .u64 (lb a 2 : Nat), .int .u64 (lb a 3 : Nat), .int .u64 (lb n 0 : Nat), .int .u64 (lb n 1 : Nat), .int .u64 (lb n 2 : Nat), .int .u64 (lb n 3 : Nat), .bool c] 44)).cell? ⟨w.heap.size, 8, none⟩ = some (.bool c) by rw [World.cell?_alloc_new]; rfl)
  have HE := Lib.hid ((Ext.refl w).alloc (Obj.cells #[.int .u64 (lb a 0 : Nat), .int .u64 (lb a 1 : Nat), .int .u64 (lb a 2 : Nat), .int .u64 (lb a 3 : Nat), .int .u64 (lb n 0 : Nat), .int .u64 (lb n 1 : Nat), .int .u64 (lb n 2 : Nat), .int .u64 (lb n 3 : Nat), .bool c] 44))
  generalize w.alloc (Obj.cells #[.int .u64 (lb a 0 : Nat), .int .u64 (lb a 1 : Nat), .int .u64 (lb a 2 : Nat), .int .u64 (lb a 3 : Nat), .int .u64 (lb n 0 : Nat), .int .u64 (lb n 1 : Nat), .int .u64 (lb n 2 : Nat), .int .u64 (lb n 3 : Nat), .bool c] 44) = w1 at *
  refine (changeG_any a n w1 HA.out HN.out).mono ?_
  rintro e w2 ⟨rfl, HE2⟩
  have hc := HE2.cell HC.out
  have hb : chgG a n ≤ 2000 := by unfold chgG; split <;> (try split) <;> omega
  have HV := Lib.hid (show saveG a n c = chgG a n + if c then 210 else 0 from rfl)
  have HX := Lib.hid (HE.out.trans HE2)
  clear HC HE HE2
  generalize chgG a n = m at *
  cases c
  · go_wp2
    go_ret
    exact ⟨ret_int (by rw [HV.out]; simp), HX.out⟩
  · go_wp2
    go_ret
    exact ⟨ret_int (by rw [HV.out]; simp), HX.out⟩
set_option maxRecDepth 100000 in
set_option maxHeartbeats 1000000 in
theorem refSaveG_any (a n : Nat) (c : Bool) (w : World) (ha : a < M256) (hn : n < M256) : Calls Tryd.prog 31 #[svv a n c] w fun e w' => e = .returned (.int .u64 (saveG a n c : Nat)) ∧ Ext w w' := by
  have hq1 : ∀ u : World, (binOp .neq 36 (.agg #[.int .u64 (lb n 0 : Nat), .int .u64 (lb n 1 : Nat), .int .u64 (lb n 2 : Nat), .int .u64 (lb n 3 : Nat)]) (.agg #[.int .u64 (lb a 0 : Nat), .int .u64 (lb a 1 : Nat), .int .u64 (lb a 2 : Nat), .int .u64 (lb a 3 : Nat)])).run Tryd.prog u = .ok (.bool (n != a)) u := run_neq_word n a hn ha
  have hg1 : ∀ u : World, (eqGuard .neq 36 (.tmp 5) (.tmp 7) (.agg #[.int .u64 (lb n 0 : Nat), .int .u64 (lb n 1 : Nat), .int .u64 (lb n 2 : Nat), .int .u64 (lb n 3 : Nat)]) (.agg #[.int .u64 (lb a 0 : Nat), .int .u64 (lb a 1 : Nat), .int .u64 (lb a 2 : Nat), .int .u64 (lb a 3 : Nat)])).run Tryd.prog u = .ok () u := run_guard_neq (.tmp 5) (.tmp 7) n a
  have hq2 : ∀ u : World, (binOp .eql 36 (.agg #[.int .u64 (lb a 0 : Nat), .int .u64 (lb a 1 : Nat), .int .u64 (lb a 2 : Nat), .int .u64 (lb a 3 : Nat)]) (.agg #[.int .u64 0, .int .u64 0, .int .u64 0, .int .u64 0])).run Tryd.prog u = .ok (.bool (a == 0)) u := run_eql_word a 0 ha M0
  have hg2 : ∀ u : World, (eqGuard .eql 36 (.tmp 10) (.tmp 11) (.agg #[.int .u64 (lb a 0 : Nat), .int .u64 (lb a 1 : Nat), .int .u64 (lb a 2 : Nat), .int .u64 (lb a 3 : Nat)]) (.agg #[.int .u64 0, .int .u64 0, .int .u64 0, .int .u64 0])).run Tryd.prog u = .ok () u := run_guard_eql (.tmp 10) (.tmp 11) a 0
  clear ha hn
  unfold svv
  go_enter Tryd.func31, Tryd.ntmps31
  rcases Bool.eq_false_or_eq_true c with rfl | rfl
  all_goals
    by_cases h1 : n = a
    · have hb : (n != a) = false := by simpa using h1
      rw [hb] at hq1
      have HR := Lib.hid (show saveG a n = fun c => 10 + if c then 210 else 0 by funext c; unfold saveG; rw [if_pos h1])
      clear h1 hb
      go_wp2
      go_ret
      exact ⟨ret_int (by rw [HR.out]; rfl), (Ext.refl w).alloc _⟩
    · have hb : (n != a) = true := by simpa using h1
      rw [hb] at hq1
      by_cases h2 : a = 0
      · have hb2 : (a == 0) = true := by simpa using h2
        rw [hb2] at hq2
        have HR := Lib.hid (show saveG a n = fun c => 2000 + if c then 210 else 0 by funext c; unfold saveG; rw [if_neg h1, if_pos h2])
        clear h1 h2 hb hb2
        go_wp2
        go_ret
        exact ⟨ret_int (by rw [HR.out]; rfl), (Ext.refl w).alloc _⟩
      · have hb2 : (a == 0) = false := by simpa using h2
        rw [hb2] at hq2
        have HR := Lib.hid (show saveG a n = fun c => 290 + if c then 210 else 0 by funext c; unfold saveG; rw [if_neg h1, if_neg h2])
        clear h1 h2 hb hb2
        go_wp2
        go_ret
        exact ⟨ret_int (by rw [HR.out]; rfl), (Ext.refl w).alloc _⟩
set_option maxRecDepth 100000 in
set_option maxHeartbeats 1000000 in
theorem refLendG_any (left a : Nat) (w : World) (hl : left < 18446744073709551616) (ha : a < M256) : Calls Tryd.prog 29 #[.int .u64 (left : Nat), wv a] w fun e w' => e = .returned (.int .u64 (lendG left a : Nat)) ∧ Ext w w' := by
  have HA := Lib.hid ha
  have HW := Lib.hid (W1new w a)
  have hp := partG_lt hl
  have HP := Lib.hid (wc_small (partG left) hp)
  have HPM := Lib.hid (show partG left < M256 by unfold M256; omega)
  clear ha
  unfold wv
  go_enter Tryd.func29, Tryd.ntmps29
  go_wp2_with fail
  generalize w.alloc (.cells (wc a) 36) = w1 at *
  obtain ⟨g1, hg1⟩ : ∃ g, w.heap.size = g := ⟨_, rfl⟩
  rw [hg1] at HW ⊢
  clear hg1
  refine (refPartG_any left w1 hl).mono ?_
  rintro e w1 ⟨rfl, rfl⟩
  have HV := Lib.hid (show lendG left a = min a (partG left) from rfl)
  generalize partG left = p at *
  go_wp2_with ((with_reducible refine wpList_load_wordG ?_ 36 24 (.tmp 3) rfl Tryd.underlying36 winfo g1 a ?_ ?_ ?_); (exact rfl); (exact rfl); (exact HW.out.1))
  rw [← HP.out]
  refine (refCmp_any a p w1 HA.out HPM.out).mono ?_
  rintro e w2 ⟨rfl, HE2⟩
  have h0 := HE2.cell (HW.out.1.cell 0 (by decide))
  have HX := Lib.hid (HW.out.2.trans HE2)
  rcases Nat.lt_or_ge a p with hlt | hge
  · have hc : cmpN a p = -1 := by unfold cmpN; rw [if_pos hlt]
    have h00 : lb a 0 = a := by rw [lb0, Nat.mod_eq_of_lt (by omega)]
    unfold lv at h0
    rw [h00] at h0
    rw [hc]
    go_wp2
    go_ret
    exact ⟨ret_int (by rw [HV.out]; omega), HX.out⟩
  · have hc : 0 ≤ cmpN a p := by unfold cmpN; rw [if_neg (by omega)]; split <;> decide
    have hc2 : cmpN a p ≤ 1 := by unfold cmpN; split <;> (try split) <;> decide
    generalize cmpN a p = c at *
    have hd : decide (c < 0) = false := decide_eq_false (by omega)
    go_wp2
    go_ret
    exact ⟨ret_int (by rw [HV.out]; omega), HX.out⟩
set_option maxRecDepth 100000 in
set_option maxHeartbeats 1000000 in
theorem refEndG_any (a n : Nat) (w : World) (ha : a < M256) (hn : n < M256) : Calls Tryd.prog 27 #[wv a, wv n] w fun e w' => e = .returned (.int .u64 (endG a n : Nat)) ∧ Ext w w' := by
  have HA := Lib.hid ha
  have HN := Lib.hid hn
  have HW := Lib.hid (W2.new w a n)
  have hq1 : ∀ u : World, (binOp .eql 36 (.agg #[.int .u64 (lb n 0 : Nat), .int .u64 (lb n 1 : Nat), .int .u64 (lb n 2 : Nat), .int .u64 (lb n 3 : Nat)]) (.agg #[.int .u64 0, .int .u64 0, .int .u64 0, .int .u64 0])).run Tryd.prog u = .ok (.bool (n == 0)) u := run_eql_word n 0 hn M0
  have hg1 : ∀ u : World, (eqGuard .eql 36 (.tmp 7) (.tmp 8) (.agg #[.int .u64 (lb n 0 : Nat), .int .u64 (lb n 1 : Nat), .int .u64 (lb n 2 : Nat), .int .u64 (lb n 3 : Nat)]) (.agg #[.int .u64 0, .int .u64 0, .int .u64 0, .int .u64 0])).run Tryd.prog u = .ok () u := run_guard_eql (.tmp 7) (.tmp 8) n 0
  clear ha hn
  unfold wv
  go_enter Tryd.func27, Tryd.ntmps27
  go_upto_region 1 with fail
  generalize ((w.alloc (.cells (wc a) 36)).alloc (.cells (wc n) 36)) = w1 at *
  obtain ⟨g1, hg1⟩ : ∃ g, w.heap.size = g := ⟨_, rfl⟩
  rw [hg1] at HW ⊢
  obtain ⟨g2, hg2⟩ : ∃ g, g1 + 1 = g := ⟨_, rfl⟩
  rw [hg2] at HW ⊢
  clear hg1 hg2
  obtain ⟨q0, q1, q2, q3⟩ := HW.out.2.1.cs.four
  by_cases hz : n = 0
  · have hb : (n == 0) = true := by simpa using hz
    rw [hb] at hq1
    have HR := Lib.hid (show (0 : Int) = (endG a n : Nat) by unfold endG; rw [if_pos hz]; rfl)
    clear hb hz
    go_wp2
    go_ret
    exact ⟨ret_int HR.out, HW.out.2.2⟩
  · have hb : (n == 0) = false := by simpa using hz
    rw [hb] at hq1
    clear hb
    go_upto_region 3 with fail
    clear q0 q1 q2 q3 hq1 hg1
    have k1 := HW.out.1
    have k2 := HW.out.2.1
    go_wp2_with (first | ((with_reducible refine wpList_load_wordG ?_ 36 24 (.tmp 2) rfl Tryd.underlying36 winfo g1 a ?_ ?_ ?_); (exact rfl); (exact rfl); (exact k1)) | ((with_reducible refine wpList_load_wordG ?_ 36 24 (.tmp 3) rfl Tryd.underlying36 winfo g2 n ?_ ?_ ?_); (exact rfl); (exact rfl); (exact k2)))
    refine (refAdd_any a n w1 HA.out HN.out).mono ?_
    rintro e w3 ⟨rfl, HSM, HE3⟩
    have HX3 := Lib.hid (HW.out.ext HE3)
    clear HW k1 k2
    have HV := Lib.hid (ends_over a n hz)
    have HS := Lib.hid HSM
    clear HSM
    generalize addN a n = s at *
    have hcs : Cs (w3.alloc (.cells #[.int .u64 0, .int .u64 0, .int .u64 0, .int .u64 0] 36)) w3.heap.size 36 (wc 0) := Cs.new _ _ _ _ rfl
    have HX4 := Lib.hid (HX3.out.2.2.alloc (.cells #[.int .u64 0, .int .u64 0, .int .u64 0, .int .u64 0] 36))
    go_upto_region 4 with (refine wpList_store_word rfl rfl 36 (.tmp 5) (.tmp 14) rfl winfo w3.heap.size (wc 0) s rfl rfl hcs rfl ?_; intro w4 hw4 hg4; have HW4 := Lib.hid hw4; have HX5 := Lib.hid (HX4.out.grown hg4 (HX3.out.2.2.size)); clear hw4 hg4 hcs HX4)
    obtain ⟨g3, hg3⟩ : ∃ g, w3.heap.size = g := ⟨_, rfl⟩
    rw [hg3] at HW4 ⊢
    rcases Bool.eq_false_or_eq_true (ovr a n) with hb | hb
    · rw [hb] at HV ⊢
      have HR := Lib.hid (show (1099511627776 : Int) = (endG a n : Nat) by rw [HV.out]; rfl)
      go_wp2
      go_ret
      exact ⟨ret_int HR.out, HX5.out⟩
    · rw [hb] at HV ⊢
      have HR := Lib.hid (show endG a n = min s noGas by
        have h := HV.out
        simpa using h)
      have HP := Lib.hid (wc_small 1099511627776 (by decide))
      clear HV hb
      go_wp2_with ((with_reducible refine wpList_load_wordG ?_ 36 24 (.tmp 5) rfl Tryd.underlying36 winfo g3 s ?_ ?_ ?_); (exact rfl); (exact rfl); (exact HW4.out))
      have hwv : Value.agg #[.int .u64 1099511627776, .int .u64 0, .int .u64 0, .int .u64 0] = wv 1099511627776 := by
        unfold wv
        rw [HP.out]
        rfl
      rw [hwv]
      refine (refCmp_any s 1099511627776 w4 HS.out (by decide)).mono ?_
      rintro e w5 ⟨rfl, HE5⟩
      have h0 := HE5.cell (HW4.out.cell 0 (by decide))
      have HX6 := Lib.hid (HX5.out.trans HE5)
      rcases Nat.lt_or_ge s 1099511627776 with hlt | hge
      · have hc : cmpN s 1099511627776 = -1 := by unfold cmpN; rw [if_pos hlt]
        have h00 : lb s 0 = s := by rw [lb0, Nat.mod_eq_of_lt (by omega)]
        unfold lv at h0
        rw [h00] at h0
        rw [hc]
        go_wp2
        go_ret
        exact ⟨ret_int (by rw [HR.out]; unfold noGas; omega), HX6.out⟩
      · have hc : 0 ≤ cmpN s 1099511627776 := by unfold cmpN; rw [if_neg (by omega)]; split <;> decide
        have hc2 : cmpN s 1099511627776 ≤ 1 := by unfold cmpN; split <;> (try split) <;> decide
        generalize cmpN s 1099511627776 = c at *
        have hd : decide (0 ≤ c) = true := decide_eq_true (by omega)
        go_wp2
        go_ret
        exact ⟨ret_int (by rw [HR.out]; unfold noGas; omega), HX6.out⟩
set_option maxRecDepth 100000 in
theorem callG_any (c v n : Bool) (w : World) : Calls Tryd.prog 33 #[clv c v n] w fun e w' => e = .returned (.int .u64 (callG c v n : Nat)) ∧ Ext w w' := by
  unfold clv
  go_enter Tryd.func33, Tryd.ntmps33
  go_wp2_with fail
  refine (farG_any c _).mono ?_
  rintro e w1 ⟨rfl, rfl⟩
  cases c <;> cases v <;> cases n
  all_goals
    unfold farG
    go_wp2
    go_ret
    exact ⟨rfl, (Ext.refl w).alloc _⟩
set_option maxRecDepth 100000 in
theorem refCallG_any (c v n : Bool) (w : World) : Calls Tryd.prog 34 #[clv c v n] w fun e w' => e = .returned (.int .u64 (callG c v n : Nat)) ∧ Ext w w' := by
  unfold clv
  cases c <;> cases v <;> cases n
  all_goals
    go_enter Tryd.func34, Tryd.ntmps34
    go_wp2
    go_ret
    exact ⟨rfl, (Ext.refl w).alloc _⟩
end Go.Proofs.YtjefbfabigkeiaaDoor
