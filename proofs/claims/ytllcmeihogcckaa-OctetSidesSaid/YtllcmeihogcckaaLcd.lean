/- OctetSides: windows side by side are one window. No condition. -/
import Derived.Test.YtllcmeihogcckaaLcc
import Derived.Test.YtllcmeihogcckaaLcb
import Derived.BigQuiet
import Derived.Deep.QuietTactic
namespace Go.Proofs.Ytllcmeihogcckaa
open Go.ChangeShapes Go.WideShapes Go.ChangeAt Go.RowKit

theorem win_sides (l : List UInt8) (fr m n f2 : Nat) (h : f2 = fr + m ∨ (l.length ≤ fr + m ∧ l.length ≤ f2)) : win l fr m ++ win l f2 n = win l fr (m + n) := by
  apply ext_getD (by simp [win_length])
  intro i hi
  simp only [List.length_append, win_length] at hi
  rw [getD_append_if, win_length]
  by_cases hm : i < m
  · rw [if_pos hm, win_getD _ _ _ _ hm, win_getD _ _ _ _ hi]
  · rw [if_neg hm, win_getD _ _ _ _ (by omega), win_getD _ _ _ _ hi]
    rcases h with h | h
    · rw [h]
      congr 1
      omega
    · rw [getD_past _ _ (by omega), getD_past _ _ (by omega)]

set_option maxHeartbeats 2000000 in
theorem sides_walk (va : Value) (a : List UInt8) (z : Nat) (m0 n0 : Int) (w : World) (ha : Bs w va a) (hz : z < 18446744073709551616) :
    Calls Try.prog 7 #[va, .int .u64 z, .agg #[.int .i64 m0, .int .i64 n0]] w (RetT w) := by
  have HA := Lib.hid ha
  clear ha
  go_enter Try.func7, Try.ntmps7
  go_wp2_with fail
  refine (wakes_any _).mono ?_
  rintro e w1 ⟨rfl, he1⟩
  have hc0 : w1.cell? ⟨w.heap.size, 0, none⟩ = some (.int .i64 m0) := he1.cell (by simp [go_sem])
  have hc1 : w1.cell? ⟨w.heap.size, 1, none⟩ = some (.int .i64 n0) := he1.cell (by simp [go_sem])
  have HE1 := Lib.hid (((Ext.refl w).alloc _).trans he1)
  clear he1
  go_wp2_with fail
  refine (some_any _ a _ (HA.out.ext HE1.out)).mono ?_
  rintro e w2 ⟨v2, rfl, ho2, he2⟩
  have HL := Lib.hid ho2.bs
  have hc0 := he2.cell hc0
  have hc1 := he2.cell hc1
  have HE := Lib.hid (HE1.out.trans he2)
  clear ho2 he2
  have hl : (a.take 300).length ≤ 300 := List.length_take_le _ _
  generalize a.take 300 = l at *
  obtain ⟨A2, c2, rfl, -, -, -⟩ := id HL.out
  go_wp2_with fail
  go_quiet (fail)
  obtain ⟨m, hm, em⟩ := mod300 m0
  obtain ⟨n, hn, en⟩ := mod300 n0
  rw [em, en]
  clear em en
  have hdr : Ext w2 (w2.drewN nq) := ⟨rfl, rfl, rfl, Nat.le_refl _, fun _ _ => rfl⟩
  have HL := Lib.hid (HL.out.ext hdr)
  have HE := Lib.hid (HE.out.trans hdr)
  clear hdr hc0 hc1
  generalize w2.drewN nq = w3 at *
  go_wp2_with fail
  refine (window_any _ l z _ _ rfl _ HL.out (by omega) (by omega) (by omega)).mono ?_
  rintro e w4 ⟨v4, rfl, ho, he⟩
  rw [winS_in _ _ m _ rfl (by omega)] at ho ⊢
  have HO := Lib.hid ho
  have HK := Lib.hid (show ∀ k, v4.ownBlock = some k → k < w4.heap.size from fun k hk => (ho.lt k hk).2)
  have HL := Lib.hid (HL.out.ext he)
  have HF := Lib.hid he
  clear ho he
  go_wp2_with fail
  refine (window_any _ l (z + min m (18446744073709551615 - z)) _ _ (by omega) _ HL.out (by omega) (by omega) (by omega)).mono ?_
  rintro e w5 ⟨v5, rfl, ho, he⟩
  rw [winS_in _ _ n _ rfl (by omega)] at ho ⊢
  have HP := Lib.hid ho.bs
  have HO := Lib.hid (HO.out.ext he)
  have HL := Lib.hid (HL.out.ext he)
  have HF := Lib.hid (HF.out.trans he)
  have HS45 := Lib.hid he.size
  clear ho he
  have HWS := Lib.hid (win_sides l z m n (z + min m (18446744073709551615 - z)) (by omega))
  generalize win l (z + min m (18446744073709551615 - z)) n = q at *
  have HQ := Lib.hid (win_length l z m)
  have hq2 : q.length ≤ 600 := by
    have := congrArg List.length HWS.out
    simp [win_length] at this
    omega
  go_wp2_with fail
  refine (window_any _ l z _ _ rfl _ HL.out (by omega) (by omega) (by omega)).mono ?_
  rintro e w6 ⟨v6, rfl, ho, he⟩
  rw [winS_in _ _ (m + n) _ (by omega) (by omega)] at ho ⊢
  have HR := Lib.hid ho
  have HP := Lib.hid (HP.out.ext he)
  have HO := Lib.hid (HO.out.ext he)
  have HF := Lib.hid (HF.out.trans he)
  clear ho he
  generalize win l z m = p at *
  generalize win l z (m + n) = r at *
  go_wp2_with (at_builtin; refine wpList_append_bytes rfl (.tmp 69) (.tmp 70) _ rfl w3.heap.size 5 Try.underlying22 u8info _ p rfl HO.out _ q rfl HP.out (by have := HQ.out; omega) HF.out.size ?_; intro v7 w7 ho hg hat; have HB7 := Lib.hid ho.bs; have HW7 := Lib.hid (HF.out.append HO.out hg); have HR := Lib.hid ((Own.younger HR.out hg (fun k hk => Nat.lt_of_lt_of_le (HK.out k hk) HS45.out)).bs); clear ho hg hat)
  rw [HWS.out] at HB7
  refine (bytesEqual_any _ _ r r _ HB7.out HR.out).mono ?_
  rintro e w' ⟨rfl, rfl⟩
  rw [show (r == r) = true by simp]
  go_wp2_with fail
  go_ret
  exact ⟨rfl, HE.out.trans HW7.out⟩

theorem sides_told (W : World) (args : Array Value) (h : Told Try.f7 W args) : Calls Try.prog 7 args W (RetT W) := by
  obtain ⟨H, enc, base, ds, p, hval, hA⟩ := h
  rw [Try.params7] at hA hval
  obtain ⟨v0, v1, v2, d0, d1, d2, p0, p1, p2, rfl, rfl, rfl, h0, h1, h2⟩ := trodAll_three hA
  obtain ⟨a, ha⟩ := bs_came (hval 0 _ v0 rfl rfl) h0
  obtain ⟨z, rfl, hz⟩ := u64_came Try.underlying26 (hval 1 _ v1 rfl rfl) h1
  obtain ⟨zs, hl, rfl, _⟩ := arr_came Try.underlying51 Try.underlying3 (by kernel_rfl) (by kernel_rfl) (hval 2 _ v2 rfl rfl) h2
  match zs, hl with
  | [m, n], _ => exact sides_walk v0 a z m n W ha hz

theorem sides_spec (H : Type) : ∀ ds : List (DataW H), ds.length = Try.f7.params.toList.length → Rows.octetSidesSpec.fn H ds = { results := [.lit (.bool true)], args := ds }
  | [_, _, _], _ => rfl
  | [], h | [_], h | [_, _], h | _ :: _ :: _ :: _ :: _, h => by rw [Try.params7] at h; simp at h

set_option maxRecDepth 100000 in
theorem octetSides_holds : Rows.OctetSidesSaid :=
  OpenClaim.holds_of_wide 7 Try.f7 rfl rfl rfl rfl rfl rfl rfl ⟨rfl, rfl, rfl, rfl, rfl⟩ rfl rfl rfl rfl rfl (by kernel_rfl) Try.func7 (by kernel_rfl)
    (of_decide_eq_true (by kernel_rfl)) (by unfold Func.isWrapper; first | (rw [if_pos (by decide +kernel)]; kernel_rfl) | (rw [if_neg (by decide +kernel)]; exact ⟨rfl, rfl⟩))
    (fun os started H enc _ => law_lifted started (by kernel_rfl) Try.func7 rfl rfl (sides_spec H) (of_decide_eq_true (by kernel_rfl))
      (ChangeSpec.witness6 (enc := enc) (C := Try.checked) false ⟨#[], #[.slice none 0 0, .int .u64 0, .agg #[.int .i64 0, .int .i64 0]], []⟩ 8 (by kernel_rfl) (by kernel_rfl) (by kernel_rfl) (by kernel_rfl)) sides_told)
end Go.Proofs.Ytllcmeihogcckaa
