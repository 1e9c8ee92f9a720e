/- Addresses that are looked up, held against one another, copied. -/
import Derived.Test.YthnilfneaefnhaaAdm
import Derived.BigQuiet
namespace Go.Proofs.Ythnilfneaefnhaa
open Go.RowKit Go.Shelf

set_option maxRecDepth 100000 in
set_option maxHeartbeats 1000000 in
theorem indexA_any (v : Value) (l : List Int) (x : Int) (w : World) (hv : Az w v l) (hx : x ∈ l) : Calls Try.prog 80 #[v, .int .u64 x] w fun e w' => (∃ k : Nat, e = .returned (.int .i64 (k : Int))) ∧ w = w' := by
  obtain ⟨_, A0, c0, rfl, _, hm0, ha0⟩ := hv
  unfold maxLen at hm0
  have H0 := Lib.hid ha0
  have HX := Lib.hid hx
  clear ha0 hx
  go_enter Try.func80, Try.ntmps80
  go_wp2_with fail
  go_loop [5, 8, 9, 10, 11, 12, 13, 14, 15, 16, 17, 18] (fun _ u _ _ _ _ _ _ _ _ _ _ => ∃ k : Nat, k ≤ l.length ∧ u = .int .i64 k ∧ Hid (∀ j, j < k → l.getD j 0 ≠ x)) (fun _ u _ _ _ _ _ _ _ _ _ _ => l.length - (intOf u).toNat)
  case atStart => exact ⟨0, by omega, rfl, Lib.hid (fun j hj => absurd hj (by omega))⟩
  case round =>
    obtain ⟨k, hk, rfl, HN⟩ := hrel
    by_cases hlt : k < l.length
    · have hd : decide (k < l.length) = true := by simp; omega
      obtain ⟨b1, o1, rfl, hc1⟩ := H0.out (by omega)
      have hx1 := hc1 k (az (l.getD k 0)) (by simp [hlt])
      unfold az at hx1
      clear hc1
      have HY := Lib.hid (Eq.refl (l.getD k 0))
      generalize hy : l.getD k 0 = y at hx1
      by_cases he : x = y
      · have hq : (x == y) = true := by simp [he]
        go_wp2_with fail
        go_ret
        exact ⟨⟨k, rfl⟩, rfl⟩
      · have hq : (x == y) = false := by simp [he]
        go_wp2_with fail
        exact ⟨⟨k + 1, by omega, by go_num, Lib.hid (fun j hj => by
          by_cases h : j = k
          · rw [h, hy]; exact fun h => he h.symm
          · exact HN.out j (by omega))⟩, by simp [intOf]; omega⟩
    · exfalso
      obtain ⟨i, hi, hxi⟩ := List.getElem_of_mem HX.out
      refine HN.out i (by omega) ?_
      simp [List.getD, hi, hxi]

set_option maxRecDepth 100000 in
theorem containsA_any (v : Value) (l : List Int) (x : Int) (w : World) (hv : Az w v l) (hx : x ∈ l) : Calls Try.prog 49 #[v, .int .u64 x] w fun e w' => e = .returned (.bool true) ∧ w = w' := by
  have HC := Lib.hid (indexA_any v l x w hv hx)
  clear hv hx
  go_enter Try.func49, Try.ntmps49
  go_wp2_with fail
  refine HC.out.mono ?_
  rintro e w1 ⟨⟨k, rfl⟩, rfl⟩
  have hd : decide ((0 : Int) ≤ (k : Int)) = true := by simp
  go_wp2_with fail
  go_ret
  exact ⟨rfl, rfl⟩

set_option maxRecDepth 100000 in
set_option maxHeartbeats 2000000 in
theorem equalA_any (v1 v2 : Value) (l : List Int) (w : World) (h1 : Az w v1 l) (h2 : Az w v2 l) : Calls Try.prog 51 #[v1, v2] w fun e w' => e = .returned (.bool true) ∧ Ext w w' := by
  obtain ⟨_, A1, c1, rfl, _, hm1, ha1⟩ := h1
  obtain ⟨_, A2, c2, rfl, _, hm2, ha2⟩ := h2
  unfold maxLen at hm1 hm2
  have H1 := Lib.hid ha1
  have H2 := Lib.hid ha2
  clear ha1 ha2
  go_enter Try.func51, Try.ntmps51
  go_wp2_with fail
  go_loopw [5, 13, 14, 15, 16, 17, 18, 19, 20, 21, 22, 23, 24, 25] (fun _ u _ _ _ _ _ _ _ _ _ _ _ _ wr => ∃ k : Nat, k ≤ l.length ∧ u = .int .i64 k ∧ Hid (Ext w wr)) (fun _ u _ _ _ _ _ _ _ _ _ _ _ _ _ => l.length - (intOf u).toNat)
  case atStart => exact ⟨0, by omega, rfl, Lib.hid (Ext.refl w)⟩
  case round =>
    obtain ⟨k, hk, rfl, HE⟩ := hrel
    by_cases hlt : k < l.length
    · have hd : decide (k < l.length) = true := by simp; omega
      obtain ⟨b1, o1, rfl, hc1⟩ := H1.out (by omega)
      obtain ⟨b2, o2, rfl, hc2⟩ := H2.out (by omega)
      have hx1 := HE.out.cell (hc1 k (az (l.getD k 0)) (by simp [hlt]))
      have hx2 := HE.out.cell (hc2 k (az (l.getD k 0)) (by simp [hlt]))
      unfold az at hx1 hx2
      clear hc1 hc2
      generalize l.getD k 0 = x at *
      go_wp2_with fail
      go_quiet (fail)
      have HE2 := Lib.hid (ext_drewN HE.out nq)
      go_wp2_with fail
      exact ⟨⟨k + 1, by omega, by go_num, HE2⟩, by simp [intOf]; omega⟩
    · obtain rfl : k = l.length := by omega
      go_wp2_with fail
      go_ret
      exact ⟨rfl, HE.out⟩

set_option maxRecDepth 100000 in
set_option maxHeartbeats 400000 in
theorem cloneA_any (v : Value) (l : List Int) (w : World) (hb : Az w v l) (hl : l.length ≤ 1000000) :
    Calls Try.prog 50 #[v] w fun e w' => ∃ v', e = .returned v' ∧ AzO w' w.heap.size v' l ∧ Ext w w' := by
  have HB := Lib.hid hb
  obtain ⟨_, A, c, rfl, h1, h2, h3⟩ := hb
  clear h1 h2
  have hnil := fun (w : World) (n : Nat) => Lib.run_eql_slice_nil (P := Try.prog) w 66 56 A n c 0 0 Try.underlying66
  rcases A with _ | ad
  · obtain rfl : l = [] := by
      rcases Nat.eq_zero_or_pos l.length with h0 | h0
      · exact List.eq_nil_of_length_eq_zero h0
      · obtain ⟨b, o, e, _⟩ := h3 h0
        cases e
    clear h3
    go_enter Try.func50, Try.ntmps50
    go_wp2
    go_ret
    exact ⟨_, rfl, World.ownsRow_nil _ _ _ 1, Ext.refl _⟩
  · clear h3
    go_enter Try.func50, Try.ntmps50
    go_wp2_with (at_builtin; go_loud (refine wpList_append_row rfl (.tmp 5) (.tmp 6) 66 rfl w.heap.size 56 Try.underlying66 (.int .u64 0) 1 8 adinfo rfl (by decide) _ 0 [] rfl (own_none _ _ _ _ rfl (Nat.le_refl _)) _ l.length (l.map az) rfl (HB.out.ext ((Ext.refl w).alloc _)) (az_one _) (by omega) (by decide) (by simp) ?_); intro v' w' ho hg hat; have HO := Lib.hid ho; have HG := Lib.hid hg; clear ho hg hat)
    go_ret
    exact ⟨v', rfl, by have := HO.out; rwa [Nat.zero_add, List.nil_append] at this, ((Ext.refl w).alloc _).grown HG.out (Nat.le_refl _)⟩
end Go.Proofs.Ythnilfneaefnhaa
