/- OctetShows: what was laid over is what its window shows; all other windows are what they were. No condition. -/
import Derived.Test.YtllcmeihogcckaaLaa
import Derived.Test.YtllcmeihogcckaaMau
namespace Go.Proofs.Ytllcmeihogcckaa
open Go.ChangeShapes Go.WideShapes Go.ChangeAt Go.RowKit

theorem fit_getD (l : List UInt8) (n i : Nat) (h : i < n) : (fit l n).getD i 0 = l.getD i 0 := by
  unfold fit
  rw [getD_append_if, getD_zeros, getD_take_if]
  simp only [List.length_take]
  by_cases hl : i < l.length
  · rw [if_pos (by omega), if_pos h]
  · rw [if_neg (by omega), getD_past _ _ (by omega)]
theorem win_length (l : List UInt8) (fr n : Nat) : (win l fr n).length = n := fit_length _ _
theorem win_getD (l : List UInt8) (fr n i : Nat) (h : i < n) : (win l fr n).getD i 0 = l.getD (fr + i) 0 := by
  unfold win
  rw [fit_getD _ _ _ h, getD_drop]
theorem ovrS_getD (l : List UInt8) (a : Nat) (x : List UInt8) (h1 : a + x.length ≤ 4096) (h2 : l.length ≤ 4096) (i : Nat) :
    (ovrS l a x).1.getD i 0 = if a ≤ i ∧ i < a + x.length then x.getD (i - a) 0 else l.getD i 0 := by
  unfold ovrS
  by_cases h0 : x.length = 0
  · rw [if_pos h0, if_neg (by omega)]
  · rw [if_neg h0, if_neg (by omega)]
    show (ovr l a x).getD i 0 = _
    by_cases hi : i < max l.length (a + x.length)
    · unfold ovr
      rw [lay_getD _ _ _ _ (by rw [fit_length]; exact hi), fit_getD _ _ _ hi]
    · rw [getD_past _ _ (by rw [ovr_length]; omega), if_neg (by omega), getD_past _ _ (by omega)]
theorem ovrS_code (l : List UInt8) (a : Nat) (x : List UInt8) (h1 : a + x.length ≤ 4096) (h2 : l.length ≤ 4096) : (ovrS l a x).2 = 0 := by
  unfold ovrS
  by_cases h0 : x.length = 0
  · rw [if_pos h0]
  · rw [if_neg h0, if_neg (by omega)]
theorem ovrS_length (l : List UInt8) (a : Nat) (x : List UInt8) (h1 : a + x.length ≤ 4096) (h2 : l.length ≤ 4096) : l.length ≤ (ovrS l a x).1.length ∧ (ovrS l a x).1.length ≤ 4096 := by
  unfold ovrS
  by_cases h0 : x.length = 0
  · rw [if_pos h0]
    exact ⟨Nat.le_refl _, h2⟩
  · rw [if_neg h0, if_neg (by omega)]
    show l.length ≤ (ovr l a x).length ∧ (ovr l a x).length ≤ 4096
    rw [ovr_length]
    omega
theorem shows_in (l : List UInt8) (a : Nat) (x : List UInt8) (h1 : a + x.length ≤ 4096) (h2 : l.length ≤ 4096) : win (ovrS l a x).1 a x.length = x := by
  apply ext_getD (win_length _ _ _)
  intro i hi
  rw [win_length] at hi
  rw [win_getD _ _ _ _ hi, ovrS_getD _ _ _ h1 h2, if_pos (by omega), Nat.add_sub_cancel_left]
theorem shows_ahead (l : List UInt8) (a : Nat) (x : List UInt8) (h1 : a + x.length ≤ 4096) (h2 : l.length ≤ 4096) : win (ovrS l a x).1 0 a = win l 0 a := by
  apply ext_getD (by rw [win_length, win_length])
  intro i hi
  rw [win_length] at hi
  rw [win_getD _ _ _ _ hi, win_getD _ _ _ _ hi, ovrS_getD _ _ _ h1 h2, if_neg (by omega)]
theorem shows_behind (l : List UInt8) (a : Nat) (x : List UInt8) (n : Nat) (h1 : a + x.length ≤ 4096) (h2 : l.length ≤ 4096) : win (ovrS l a x).1 (a + x.length) n = win l (a + x.length) n := by
  apply ext_getD (by rw [win_length, win_length])
  intro i hi
  rw [win_length] at hi
  rw [win_getD _ _ _ _ hi, win_getD _ _ _ _ hi, ovrS_getD _ _ _ h1 h2, if_neg (by omega)]
theorem winS_in (l : List UInt8) (fr : Nat) (n : Nat) (ni : Int) (e : ni = (n : Int)) (h : n ≤ 4096) : winS l fr ni = (win l fr n, 0) := by
  subst e
  unfold winS
  rw [if_neg (by omega), if_neg (by omega)]
  rfl

set_option maxHeartbeats 2000000 in
theorem shows_walk (va vb : Value) (a b : List UInt8) (z : Nat) (w : World) (ha : Bs w va a) (hb : Bs w vb b) (hz : z < 18446744073709551616) :
    Calls Try.prog 6 #[va, vb, .int .u64 z] w (RetT w) := by
  have HA := Lib.hid ha
  have HB := Lib.hid hb
  clear ha hb
  go_enter Try.func6, Try.ntmps6
  go_wp2_with fail
  refine (wakes_any _).mono ?_
  rintro e w1 ⟨rfl, he1⟩
  have HE1 := Lib.hid he1
  clear he1
  go_wp2_with fail
  refine (some_any _ a _ (HA.out.ext HE1.out)).mono ?_
  rintro e w2 ⟨v2, rfl, ho2, he2⟩
  have HL := Lib.hid ho2.bs
  have HE2 := Lib.hid (HE1.out.trans he2)
  clear ho2 he2
  go_wp2_with fail
  refine (some_any _ b _ (HB.out.ext HE2.out)).mono ?_
  rintro e w3 ⟨v3, rfl, ho3, he3⟩
  have HX := Lib.hid ho3.bs
  have HL := Lib.hid (HL.out.ext he3)
  have HE3 := Lib.hid (HE2.out.trans he3)
  clear ho3 he3
  have hl : (a.take 300).length ≤ 300 := List.length_take_le _ _
  have hx : (b.take 300).length ≤ 300 := List.length_take_le _ _
  generalize a.take 300 = l at *
  generalize b.take 300 = x at *
  obtain ⟨A2, c2, rfl, -, -, -⟩ := id HL.out
  obtain ⟨A3, c3, rfl, -, -, -⟩ := id HX.out
  go_wp2_with fail
  obtain ⟨t, ht, et⟩ : ∃ t : Nat, t < 400 ∧ (z : Int) % 400 = (t : Int) := ⟨z % 400, by omega, by omega⟩
  rw [et]
  clear et
  refine (over_any _ _ l x t _ rfl _ HL.out HX.out (by omega) (by omega)).mono ?_
  rintro e w4 ⟨v4, rfl, ho, he⟩
  have h1 : t + x.length ≤ 4096 := by omega
  have h2 : l.length ≤ 4096 := by omega
  rw [ovrS_code l t x h1 h2]
  have HO := Lib.hid ho.bs
  have HL := Lib.hid (HL.out.ext he)
  have HX := Lib.hid (HX.out.ext he)
  have HE := Lib.hid (HE3.out.trans he)
  clear ho he
  have hlen := ovrS_length l t x h1 h2
  have HS1 := Lib.hid (shows_in l t x h1 h2)
  have HS2 := Lib.hid (shows_ahead l t x h1 h2)
  have HS3 := Lib.hid (shows_behind l t x 700 h1 h2)
  generalize (ovrS l t x).1 = o at *
  obtain ⟨A4, c4, rfl, -, -, -⟩ := id HO.out
  go_wp2_with fail
  refine (window_any _ o (t) _ _ (by omega) _ HO.out (by omega) (by omega) (by omega)).mono ?_
  rintro e w5 ⟨v5, rfl, ho, he⟩
  rw [winS_in _ _ (x.length) _ (by omega) (by omega)] at ho ⊢
  have HW5 := Lib.hid ho.bs
  have HO := Lib.hid (HO.out.ext he)
  have HL := Lib.hid (HL.out.ext he)
  have HX := Lib.hid (HX.out.ext he)
  have HE := Lib.hid (HE.out.trans he)
  clear ho he
  rw [HS1.out] at HW5
  go_wp2_with fail
  refine (bytesEqual_any _ _ x x _ HW5.out HX.out).mono ?_
  rintro e w' ⟨rfl, rfl⟩
  rw [show (x == x) = true by simp]
  clear HW5
  go_wp2_with fail
  refine (window_any _ o (0) _ _ (by omega) _ HO.out (by omega) (by omega) (by omega)).mono ?_
  rintro e w6 ⟨v6, rfl, ho, he⟩
  rw [winS_in _ _ (t) _ (by omega) (by omega)] at ho ⊢
  have HW6 := Lib.hid ho.bs
  have HO := Lib.hid (HO.out.ext he)
  have HL := Lib.hid (HL.out.ext he)
  have HE := Lib.hid (HE.out.trans he)
  clear ho he
  go_wp2_with fail
  refine (window_any _ l (0) _ _ (by omega) _ HL.out (by omega) (by omega) (by omega)).mono ?_
  rintro e w7 ⟨v7, rfl, ho, he⟩
  rw [winS_in _ _ (t) _ (by omega) (by omega)] at ho ⊢
  have HW7 := Lib.hid ho.bs
  have HO := Lib.hid (HO.out.ext he)
  have HL := Lib.hid (HL.out.ext he)
  have HW6 := Lib.hid (HW6.out.ext he)
  have HE := Lib.hid (HE.out.trans he)
  clear ho he
  go_wp2_with fail
  refine (window_any _ o (t + x.length) _ _ (by omega) _ HO.out (by omega) (by omega) (by omega)).mono ?_
  rintro e w8 ⟨v8, rfl, ho, he⟩
  rw [winS_in _ _ (700) _ (by omega) (by omega)] at ho ⊢
  have HW8 := Lib.hid ho.bs
  have HL := Lib.hid (HL.out.ext he)
  have HW6 := Lib.hid (HW6.out.ext he)
  have HW7 := Lib.hid (HW7.out.ext he)
  have HE := Lib.hid (HE.out.trans he)
  clear ho he
  go_wp2_with fail
  refine (window_any _ l (t + x.length) _ _ (by omega) _ HL.out (by omega) (by omega) (by omega)).mono ?_
  rintro e w9 ⟨v9, rfl, ho, he⟩
  rw [winS_in _ _ (700) _ (by omega) (by omega)] at ho ⊢
  have HW9 := Lib.hid ho.bs
  have HW6 := Lib.hid (HW6.out.ext he)
  have HW7 := Lib.hid (HW7.out.ext he)
  have HW8 := Lib.hid (HW8.out.ext he)
  have HE := Lib.hid (HE.out.trans he)
  clear ho he
  rw [HS2.out] at HW6
  rw [HS3.out] at HW8
  generalize win l 0 t = q1 at *
  generalize win l (t + x.length) 700 = q2 at *
  go_wp2_with fail
  refine (bytesEqual_any _ _ q1 q1 _ HW6.out HW7.out).mono ?_
  rintro e w' ⟨rfl, rfl⟩
  rw [show (q1 == q1) = true by simp]
  go_wp2_with fail
  refine (bytesEqual_any _ _ q2 q2 _ HW8.out HW9.out).mono ?_
  rintro e w' ⟨rfl, rfl⟩
  rw [show (q2 == q2) = true by simp]
  have hd : decide (l.length ≤ o.length) = true := by simp; omega
  go_wp2_with fail
  go_ret
  exact ⟨rfl, HE.out⟩

theorem shows_told (W : World) (args : Array Value) (h : Told Try.f6 W args) : Calls Try.prog 6 args W (RetT W) := by
  obtain ⟨H, enc, base, ds, p, hval, hA⟩ := h
  rw [Try.params6] at hA hval
  obtain ⟨v0, v1, v2, d0, d1, d2, p0, p1, p2, rfl, rfl, rfl, h0, h1, h2⟩ := trodAll_three hA
  obtain ⟨a, ha⟩ := bs_came (hval 0 _ v0 rfl rfl) h0
  obtain ⟨b, hb⟩ := bs_came (hval 1 _ v1 rfl rfl) h1
  obtain ⟨z, rfl, hz⟩ := u64_came Try.underlying26 (hval 2 _ v2 rfl rfl) h2
  exact shows_walk v0 v1 a b z W ha hb hz

theorem shows_spec (H : Type) : ∀ ds : List (DataW H), ds.length = Try.f6.params.toList.length → Rows.octetShowsSpec.fn H ds = { results := [.lit (.bool true)], args := ds }
  | [_, _, _], _ => rfl
  | [], h | [_], h | [_, _], h | _ :: _ :: _ :: _ :: _, h => by rw [Try.params6] at h; simp at h

set_option maxRecDepth 100000 in
theorem octetShows_holds : Rows.OctetShowsSaid :=
  OpenClaim.holds_of_wide 6 Try.f6 rfl rfl rfl rfl rfl rfl rfl ⟨rfl, rfl, rfl, rfl, rfl⟩ rfl rfl rfl rfl rfl (by kernel_rfl) Try.func6 (by kernel_rfl)
    (of_decide_eq_true (by kernel_rfl)) (by unfold Func.isWrapper; first | (rw [if_pos (by decide +kernel)]; kernel_rfl) | (rw [if_neg (by decide +kernel)]; exact ⟨rfl, rfl⟩))
    (fun os started H enc _ => law_lifted started (by kernel_rfl) Try.func6 rfl rfl (shows_spec H) (of_decide_eq_true (by kernel_rfl))
      (ChangeSpec.witness6 (enc := enc) (C := Try.checked) false ⟨#[], #[.slice none 0 0, .slice none 0 0, .int .u64 0], []⟩ 8 (by kernel_rfl) (by kernel_rfl) (by kernel_rfl) (by kernel_rfl)) shows_told)
end Go.Proofs.Ytllcmeihogcckaa
