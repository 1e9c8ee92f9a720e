/- AddrSorted: Sorted rises, and has just the addresses that it was handed. -/
import Derived.Test.YthnilfneaefnhaaAdn
import Derived.BigQuiet
namespace Go.Proofs.Ythnilfneaefnhaa
open Go.ChangeShapes Go.WideShapes Go.ChangeAt Go.RowKit Go.Shelf

/-! ### The law -/
set_option maxRecDepth 100000 in
theorem turn_mem (l : List Int) (k : Nat) (x : Int) : x ∈ l.drop k ++ l.take k ↔ x ∈ l := by
  rw [List.mem_append]
  constructor
  · rintro (h | h)
    · exact List.mem_of_mem_drop h
    · exact List.mem_of_mem_take h
  · intro h
    rw [← List.take_append_drop k l, List.mem_append] at h
    exact h.symm
set_option maxRecDepth 100000 in
theorem SR.turn {l r s : List Int} (k : Nat) (h : SR l r) (h2 : SR (l.drop k ++ l.take k) s) : s = r :=
  h2.unique ⟨h.1, fun x => (h.2 x).trans (turn_mem l k x).symm⟩
set_option maxRecDepth 100000 in
theorem SR.again {l r s : List Int} (h : SR l r) (h2 : SR r s) : s = r := h2.unique ⟨h.1, fun _ => Iff.rfl⟩
set_option maxRecDepth 100000 in
theorem SR.up {l r : List Int} (h : SR l r) (k : Nat) (hk : k + 1 < r.length) : r.getD k 0 < r.getD (k + 1) 0 := by
  have := List.pairwise_iff_getElem.1 h.1 k (k + 1) (by omega) hk (by omega)
  rw [List.getD_eq_getElem?_getD, List.getD_eq_getElem?_getD, List.getElem?_eq_getElem (by omega), List.getElem?_eq_getElem hk]
  exact this
set_option maxRecDepth 100000 in
theorem getD_in {l : List Int} (k : Nat) (hk : k < l.length) : l.getD k 0 ∈ l := by
  simp [List.getD, hk]
set_option maxRecDepth 100000 in
theorem az_dropZ {w : World} {A : Option Addr} {n c : Nat} {l : List Int} (h : Az w (.slice A n c) l) (hn : n = l.length) (k : Nat) (hk : k < n) (hc : n ≤ c) : Az w (.slice (A.map (·.add k)) (n - k) (c - k)) (l.drop k) := by
  subst hn
  have h1 := Rs.drop h k (by omega)
  rw [if_neg (by omega), Nat.mul_one, ← List.map_drop] at h1
  unfold Az
  rw [List.length_drop]
  exact h1
set_option maxRecDepth 100000 in
theorem az_takeZ {w : World} {A : Option Addr} {n c : Nat} {l : List Int} (h : Az w (.slice A n c) l) (hn : n = l.length) (k : Nat) (hk : k ≤ n) : Az w (.slice A k c) (l.take k) := by
  subst hn
  have h1 := Rs.take h k hk
  rw [Nat.mul_one, ← List.map_take] at h1
  unfold Az
  rw [List.length_take, Nat.min_eq_left hk]
  exact h1

set_option maxRecDepth 100000 in
theorem az_put {w : World} {base n k : Nat} {v : Value} {a b : List Int} (h : w.ownsRow base 56 1 v (n + k) (a.map az ++ b.map az)) : Az w v (a ++ b) := by
  have h1 := Rs.of_own h
  have h2 : n + k = (a ++ b).length := by
    have := h1.1
    rw [List.length_append, List.length_map, List.length_map] at this
    rw [List.length_append]
    omega
  rw [h2, ← List.map_append] at h1
  exact h1

set_option maxRecDepth 100000 in
set_option maxHeartbeats 400000 in
theorem adso_any (v : Value) (l : List Int) (by_ : Int) (w : World) (hv : Az w v l) : Calls Try.prog 14 #[v, .int .i64 by_] w (RetT w) := by
  have HV := Lib.hid hv
  obtain ⟨_, A0, c0, rfl, hlc0, hm0, ha0⟩ := hv
  have HV0 := Lib.hid ha0
  clear ha0
  have HLC := Lib.hid hlc0
  unfold maxLen at hm0
  go_enter Try.func14, Try.ntmps14
  go_wp2_with fail
  refine (adrWakes_any _).mono ?_
  rintro e w1 ⟨rfl, he⟩
  have HE := Lib.hid he
  clear he
  by_cases hlong : 300 < l.length
  · have hd : decide ((300 : Int) < (l.length : Int)) = true := by simp; omega
    go_wp2_with fail
    go_ret
    exact ⟨rfl, HE.out⟩
  · have hd : decide ((300 : Int) < (l.length : Int)) = false := by simp; omega
    have hl300 : l.length ≤ 300 := by omega
    clear hlong
    go_wp2_with fail
    refine (sorted_any _ l _ (HV.out.ext HE.out) (by omega)).mono ?_
    rintro e w2 ⟨v1, r, rfl, hsr, ho, he⟩
    have HE2 := Lib.hid (HE.out.trans he)
    have HR := Lib.hid (AzO.az ho)
    have HSR := Lib.hid hsr
    obtain ⟨_, A1, c1, rfl, hlc1, hm1, ha1⟩ := AzO.az ho
    have H1 := Lib.hid ha1
    have hr300 : r.length ≤ 300 := Nat.le_trans (RetS_len hsr) hl300
    clear ho he HE hsr ha1
    unfold maxLen at hm1
    have HCL := Lib.hid (fun W x (h : Ext w2 W) (hx : x ∈ l) => containsA_any _ l x W (HV.out.ext (HE2.out.trans h)) hx)
    have HCR := Lib.hid (fun W x (h : Ext w2 W) (hx : x ∈ r) => containsA_any _ r x W (HR.out.ext h) hx)
    go_wp2_with fail
    go_loopw [6, 20, 21, 22, 23, 24, 25, 26, 27, 28, 29, 30, 31, 32, 33, 34, 35, 36, 37, 38, 39, 40, 41, 42, 43, 44, 45, 46] (fun _ u _ _ _ _ _ _ _ _ _ _ _ _ _ _ _ _ _ _ _ _ _ _ _ _ _ _ wr => ∃ k : Nat, k ≤ r.length ∧ u = .int .i64 k ∧ Hid (Ext w2 wr)) (fun _ u _ _ _ _ _ _ _ _ _ _ _ _ _ _ _ _ _ _ _ _ _ _ _ _ _ _ _ => r.length - (intOf u).toNat)
    case atStart => exact ⟨0, by omega, rfl, Lib.hid (Ext.refl w2)⟩
    case round =>
      obtain ⟨k, hk, rfl, HW⟩ := hrel
      by_cases hlt : k < r.length
      · have hd2 : decide (k < r.length) = true := by simp; omega
        obtain ⟨b1, o1, rfl, hc1⟩ := H1.out (by omega)
        have hx1 := HW.out.cell (hc1 k (az (r.getD k 0)) (by simp [hlt]))
        unfold az at hx1
        have HM := Lib.hid ((HSR.out.2 _).1 (getD_in k hlt))
        by_cases hk0 : k = 0
        · subst hk0
          have hd0 : decide ((0 : Int) < 0) = false := by decide
          generalize r.getD 0 0 = x at *
          clear hc1
          rw [Nat.add_zero] at hx1
          have HC0 := Lib.hid (fun n => HCL.out (wr.drewN n) x (ext_drewN HW.out n) HM.out)
          clear HCL HCR HM
          go_wp2_with fail
          go_quiet ((go_at_call 49; with_reducible exact quiet_left (HC0.out _)))
          have HE3 := Lib.hid (ext_drewN HW.out nq)
          go_wp2_with fail
          exact ⟨⟨1, by omega, rfl, HE3⟩, by simp [intOf]; omega⟩
        · have hd0 : decide (0 < k) = true := by simp; omega
          have hd1 : decide ((0 : Int) < (k : Int)) = true := by simp; omega
          obtain ⟨m, rfl⟩ : ∃ m, k = m + 1 := ⟨k - 1, by omega⟩
          have hx0 := HW.out.cell (hc1 m (az (r.getD m 0)) (by simp [show m < r.length by omega]))
          unfold az at hx0
          have hup := HSR.out.up m hlt
          have hdu : decide (r.getD (m + 1) 0 ≤ r.getD m 0) = false := decide_eq_false (by omega)
          have hd3 : decide ((m : Int) + 1 < (r.length : Int)) = true := decide_eq_true (by omega)
          have hd4 : decide ((0 : Int) < (m : Int) + 1) = true := decide_eq_true (by omega)
          generalize r.getD (m + 1) 0 = x at *
          generalize r.getD m 0 = y at *
          have HC0 := Lib.hid (fun n => HCL.out (wr.drewN n) x (ext_drewN HW.out n) HM.out)
          clear hc1 hup HCL HCR HM
          go_wp2_with fail
          go_quiet ((go_at_call 49; with_reducible exact quiet_left (HC0.out _)))
          have HE3 := Lib.hid (ext_drewN HW.out nq)
          go_wp2_with fail
          exact ⟨⟨m + 1 + 1, by omega, by go_num, HE3⟩, by simp [intOf]; omega⟩
      · obtain rfl : k = r.length := by omega
        go_wp2_with fail
        go_loopw [8, 49, 50, 51, 52, 53, 54, 55, 56, 57] (fun _ u _ _ _ _ _ _ _ _ wq => ∃ k : Nat, k ≤ l.length ∧ u = .int .i64 k ∧ Hid (Ext w2 wq)) (fun _ u _ _ _ _ _ _ _ _ _ => l.length - (intOf u).toNat)
        case atStart => exact ⟨0, by omega, rfl, HW⟩
        case round =>
          obtain ⟨k, hk, rfl, HQ⟩ := hrel
          by_cases hlt : k < l.length
          · have hd2 : decide (k < l.length) = true := by simp; omega
            obtain ⟨b1, o1, rfl, hc1⟩ := HV0.out (by omega)
            have hx1 := (HE2.out.trans HQ.out).cell (hc1 k (az (l.getD k 0)) (by simp [hlt]))
            unfold az at hx1
            have HC0 := Lib.hid (HCR.out wr (l.getD k 0) HQ.out ((HSR.out.2 _).2 (getD_in k hlt)))
            generalize l.getD k 0 = x at *
            clear hc1
            go_wp2_with fail
            refine HC0.out.mono ?_
            rintro e w5 ⟨rfl, rfl⟩
            go_wp2_with fail
            exact ⟨⟨k + 1, by omega, by go_num, HQ⟩, by simp [intOf]; omega⟩
          · obtain rfl : k = l.length := by omega
            clear hlt hk
            have HE3 := Lib.hid (HE2.out.trans HQ.out)
            by_cases hl0 : l.length = 0
            · have hr0 : r.length = 0 := Nat.le_zero.1 (hl0 ▸ RetS_len HSR.out)
              have q1 : ((l.length : Int) == 0) = true := by simp [hl0]
              have q2 : ((r.length : Int) == 0) = true := by simp [hr0]
              clear hl0 hr0
              go_wp2_with fail
              go_ret
              exact ⟨rfl, HE3.out⟩
            · have q1 : ((l.length : Int) == 0) = false := by simp only [beq_eq_false_iff_ne, ne_eq]; omega
              obtain ⟨y, hy5, hyv⟩ : ∃ y : Nat, y < l.length ∧ wrap64 ((IntKind.u64.wrap by_).tmod (l.length : Int)) = (y : Int) := by
                have hp : (0 : Int) < (l.length : Int) := by omega
                have e1 := Int.emod_lt_of_pos (by_ % 18446744073709551616) hp
                have e2 := Int.emod_nonneg (by_ % 18446744073709551616) (show (l.length : Int) ≠ 0 by omega)
                have e3 : (IntKind.u64.wrap by_).tmod (l.length : Int) = by_ % 18446744073709551616 % (l.length : Int) := by
                  rw [IntKind.wrap_u64, Int.tmod_eq_emod_of_nonneg (Int.emod_nonneg _ (by decide))]
                rw [e3]
                generalize by_ % 18446744073709551616 % (l.length : Int) = z at *
                refine ⟨z.toNat, by omega, ?_⟩
                unfold wrap64
                omega
              have HLT := Lib.hid hy5
              go_upto_region 21 with (fail)
              rw [hyv]
              obtain ⟨b0, o0, rfl, _⟩ := HV0.out (by omega)
              have i1 : (0 : Int) ≤ (y : Int) := by omega
              have i2 : (y : Int) ≤ (l.length : Int) := by omega
              have i3 : (y : Int) ≤ (c0 : Int) := by omega
              have i4 : y ≤ c0 := by omega
              have i5 : ¬ c0 = y := by omega
              have HDR := Lib.hid (fun W (h : Ext w W) => (show Az W (.slice (some ⟨b0, o0 + y, none⟩) (l.length - y) (c0 - y)) (l.drop y) from by
                have := az_dropA (HV.out.ext h) rfl y (by omega) hlc0
                unfold Az
                rw [List.length_drop]
                exact this))
              have HTK := Lib.hid (fun W (h : Ext w W) => az_takeZ (HV.out.ext h) rfl y (by omega))
              have HDN := Lib.hid (show (l.drop y).length = l.length - y from List.length_drop)
              have HTN := Lib.hid (show (l.take y).length = y by rw [List.length_take]; omega)
              have HTU := Lib.hid (fun s (h : SR (l.drop y ++ l.take y) s) => HSR.out.turn y h)
              have HTL := Lib.hid (show (l.drop y ++ l.take y).length ≤ 1000000 by rw [List.length_append, List.length_drop, List.length_take]; omega)
              clear hyv hy5 HV0 H1
              have HCN := Lib.hid (fun W (h : Ext w W) => cloneA_any _ (l.drop y) W (HDR.out W h) (by rw [HDN.out]; omega))
              go_region_held3 (fun _ => True) (trivial)
                (first
                  | (go_at_call 50; refine (HCN.out _ (ext_drewN HE3.out _)).mono ?_; rintro e w5 ⟨v5, rfl, ho5, he5⟩; have HE5 := Lib.hid ((ext_drewN HE3.out _).trans he5); have HO5 := Lib.hid ho5; have HX5 := Lib.hid he5; clear ho5 he5)
                  | (refine step_append_row rfl (.tmp 74) (.tmp 77) 66 rfl _ 56 Try.underlying66 (.int .u64 0) 1 8 adinfo rfl (by decide) _ _ ((l.drop y).map az) rfl HO5.out _ _ ((l.take y).map az) rfl (HTK.out _ HE5.out) (az_one _) (by rw [HDN.out, HTN.out]; omega) (by decide) HX5.out.size ?_; intro v6 w6 ho6 hg6 _; have HG6 := Lib.hid hg6; have HO6 := Lib.hid ho6; clear ho6 hg6)
                  | fail)
              have HE6 := Lib.hid ((ext_drewN HE3.out _).trans (Ext.appendR HX5.out HO5.out HG6.out))
              have HA6 := Lib.hid (az_put HO6.out)
              have HAR := Lib.hid (fun W (h : Ext wr W) => (show Az W (.slice A1 r.length c1) r from HR.out.ext (HQ.out.trans h)))
              have HXR := Lib.hid ((ext_drewN (Ext.refl wr) _).trans (Ext.appendR HX5.out HO5.out HG6.out))
              have HAG := Lib.hid (fun s (h : SR r s) => HSR.out.again h)
              have HR3 := Lib.hid hr300
              clear HCN HTN HDN HO5 HO6 HG6 HX5 HDR HTK HCL HCR HV HR i1 i2 i3 i4 i5
              go_wp2_with fail
              refine (sorted_any _ _ _ HA6.out HTL.out).mono ?_
              rintro e w7 ⟨v7, s, rfl, hs, ho, he⟩
              obtain rfl := HTU.out s hs
              have HA7 := Lib.hid (AzO.az ho)
              have HX7 := Lib.hid (HXR.out.trans he)
              have HE7 := Lib.hid (HE6.out.trans he)
              clear hs ho he HXR HE6 HA6 HTL HTU
              go_wp2_with fail
              refine (equalA_any v7 _ s _ HA7.out (HAR.out _ HX7.out)).mono ?_
              rintro e w8 ⟨rfl, he⟩
              have HX8 := Lib.hid (HX7.out.trans he)
              have HE8 := Lib.hid (HE7.out.trans he)
              clear he HX7 HE7 HA7
              go_wp2_with fail
              refine (sorted_any _ s _ (HAR.out _ HX8.out) (by have := HR3.out; omega)).mono ?_
              rintro e w9 ⟨v9, q, rfl, hs, ho, he⟩
              obtain rfl := HAG.out q hs
              have HA9 := Lib.hid (AzO.az ho)
              have HX9 := Lib.hid (HX8.out.trans he)
              have HE9 := Lib.hid (HE8.out.trans he)
              clear hs ho he HX8 HE8
              go_wp2_with fail
              refine (equalA_any v9 _ q _ HA9.out (HAR.out _ HX9.out)).mono ?_
              rintro e w10 ⟨rfl, he⟩
              have HE10 := Lib.hid (HE9.out.trans he)
              clear he HX9 HE9 HA9
              go_wp2_with fail
              go_ret
              exact ⟨rfl, HE10.out⟩

set_option maxRecDepth 100000 in
theorem adso_told (W : World) (args : Array Value) (h : Told Try.f14 W args) : Calls Try.prog 14 args W (RetT W) := by
  obtain ⟨H, enc, base, ds, p, hval, hA⟩ := h
  rw [Try.params14] at hA hval
  obtain ⟨v0, v1, d0, d1, p0, p1, ha, rfl, rfl, h0, h1⟩ := trodAll_two hA
  obtain rfl : args = #[v0, v1] := by apply Array.toList_inj.1; rw [ha]
  obtain ⟨l, hl⟩ := addrs_came (hval 0 _ v0 rfl rfl) h0
  obtain ⟨n, rfl, _, _⟩ := int_came Try.underlying3 (hval 1 _ _ rfl rfl) h1
  exact adso_any v0 l n W hl

set_option maxRecDepth 100000 in
theorem adso_spec (H : Type) : ∀ ds : List (DataW H), ds.length = Try.f14.params.toList.length → Rows.addrSortedSpec.fn H ds = { results := [.lit (.bool true)], args := ds }
  | [_, _], _ => rfl
  | [], h | [_], h | _ :: _ :: _ :: _, h => by rw [Try.params14] at h; simp at h

set_option maxRecDepth 100000 in
theorem addrSorted_holds : Rows.AddrSortedSaid :=
  OpenClaim.holds_of_wide 14 Try.f14 rfl rfl rfl rfl rfl rfl rfl ⟨rfl, rfl, rfl, rfl, rfl⟩ rfl rfl rfl rfl rfl (by kernel_rfl) Try.func14 (by kernel_rfl)
    (of_decide_eq_true (by kernel_rfl)) (by unfold Func.isWrapper; first | (rw [if_pos (by decide +kernel)]; kernel_rfl) | (rw [if_neg (by decide +kernel)]; exact ⟨rfl, rfl⟩))
    (fun os started H enc _ => law_lifted started (by kernel_rfl) Try.func14 rfl rfl (adso_spec H) (of_decide_eq_true (by kernel_rfl))
      (ChangeSpec.witness6 (enc := enc) (C := Try.checked) false ⟨#[], #[.slice none 0 0, .int .i64 0], []⟩ 8 (by kernel_rfl) (by kernel_rfl) (by kernel_rfl) (by kernel_rfl)) adso_told)
end Go.Proofs.Ythnilfneaefnhaa
