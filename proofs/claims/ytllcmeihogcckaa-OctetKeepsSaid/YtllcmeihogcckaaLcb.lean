/- OctetKeeps: the number of a row is that of its bare one, and of it with noughts ahead; whatever stands ahead of a number, it is the number. No condition. -/
import Derived.Test.YtllcmeihogcckaaLaa
import Derived.Test.YtllcmeihogcckaaMau
namespace Go.Proofs.Ytllcmeihogcckaa
open Go.ChangeShapes Go.WideShapes Go.ChangeAt Go.RowKit

theorem mod300 (n : Int) : ∃ k : Nat, k < 300 ∧ wrap64 ((IntKind.u64.wrap n).tmod 300) = (k : Int) := by
  rw [IntKind.wrap_u64]
  have h0 : 0 ≤ n % 18446744073709551616 := Int.emod_nonneg _ (by decide)
  rw [Int.tmod_eq_emod_of_nonneg h0]
  have h1 : 0 ≤ n % 18446744073709551616 % 300 := Int.emod_nonneg _ (by decide)
  have h2 : n % 18446744073709551616 % 300 < 300 := Int.emod_lt_of_pos _ (by decide)
  refine ⟨(n % 18446744073709551616 % 300).toNat, by omega, ?_⟩
  rw [IntWalk.wrap64_in _ (by omega)]
  omega
theorem add300 (n : Int) (a : Nat) (ha : a ≤ 300) : ∃ k : Nat, k < 300 ∧ wrap64 ((a : Int) + wrap64 ((IntKind.u64.wrap n).tmod 300)) = ((a + k : Nat) : Int) := by
  obtain ⟨k, hk, e⟩ := mod300 n
  refine ⟨k, hk, ?_⟩
  rw [e, IntWalk.wrap64_in _ (by omega)]
  omega

theorem ahdS_in (y : List UInt8) (k : Nat) (hy : y.length ≤ 300) (hk : k < 300) : ahdS y ((y.length + k : Nat) : Int) = (ahd y (y.length + k), 0) := by
  unfold ahdS
  rw [if_neg (by omega), if_neg (by omega)]
  rfl
theorem bhdS_in (y : List UInt8) (k : Nat) (hy : y.length ≤ 300) (hk : k < 300) : bhdS y ((y.length : Int) + (k : Int)) = (fit y (y.length + k), 0) := by
  rw [show (y.length : Int) + (k : Int) = ((y.length + k : Nat) : Int) by omega]
  unfold bhdS
  rw [if_neg (by omega), if_neg (by omega)]
  rfl

set_option maxHeartbeats 2000000 in
theorem keeps_walk (v : Value) (l : List UInt8) (z : Nat) (n : Int) (w : World) (hb : Bs w v l) (hz : z < 18446744073709551616) (hn1 : -9223372036854775808 ≤ n) (hn2 : n ≤ 9223372036854775807) :
    Calls Try.prog 8 #[v, .int .u64 z, .int .i64 n] w (RetT w) := by
  have HB := Lib.hid hb
  clear hb
  go_enter Try.func8, Try.ntmps8
  go_wp2_with fail
  refine (wakes_any _).mono ?_
  rintro e w1 ⟨rfl, he1⟩
  have HE1 := Lib.hid he1
  clear he1
  go_wp2_with fail
  refine (some_any _ l _ (HB.out.ext HE1.out)).mono ?_
  rintro e w2 ⟨v2, rfl, ho2, he2⟩
  have HX := Lib.hid ho2.bs
  have HE2 := Lib.hid (HE1.out.trans he2)
  clear ho2 he2
  have hx : (l.take 300).length ≤ 300 := List.length_take_le _ _
  generalize l.take 300 = x at *
  obtain ⟨A2, c2, rfl, -, -, -⟩ := id HX.out
  go_wp2_with fail
  refine (bareB_any _ x _ HX.out (by omega)).mono ?_
  rintro e w3 ⟨v3, rfl, ho3, he3⟩
  have HY := Lib.hid ho3.bs
  have HE3 := Lib.hid (HE2.out.trans he3)
  have HX := Lib.hid (HX.out.ext he3)
  clear ho3 he3
  have hy : (bare x).length ≤ 300 := by have := bare_le x; omega
  have HNum := Lib.hid (num_bare x)
  have HHead := Lib.hid (bare_head x)
  have HSplit := Lib.hid (bare_split x)
  have HBB := Lib.hid (bare_bare x)
  generalize bare x = y at *
  obtain ⟨A3, c3, rfl, hyc, hyc2, hyA⟩ := id HY.out
  go_wp2_with fail
  refine (u64_tail _ y _ HY.out).mono ?_
  rintro e w' ⟨rfl, rfl⟩
  rw [num_last8]
  go_wp2_with fail
  refine (u64_tail _ x _ HX.out).mono ?_
  rintro e w' ⟨rfl, rfl⟩
  rw [num_last8, ← HNum.out]
  have hnl := num_lt y
  obtain ⟨k0, hk0⟩ := HSplit.out
  have HK := Lib.hid hk0
  clear hk0 HSplit
  by_cases hy0 : 0 < y.length
  · obtain ⟨b3, o3, rfl, hcell⟩ := hyA hy0
    have hc0 := hcell 0 hy0
    have hne0 := HHead.out hy0
    unfold bv at hc0
    rw [Nat.add_zero] at hc0
    clear hcell hyA
    generalize y.getD 0 0 = y0 at *
    have hne : ((y0.toNat : Int) == 0) = false := beq_eq_false_iff_ne.2 (fun h => hne0 (UInt8.toNat_inj.1 (by simpa using h)))
    clear hne0
    go_wp2_with fail
    refine (hasSuffix_yes _ _ (List.replicate k0 0) y _ (by rw [← HK.out]; exact HX.out) HY.out).mono ?_
    rintro e w' ⟨rfl, rfl⟩
    go_wp2_with fail
    obtain ⟨k, hk, ek⟩ := add300 n y.length hy
    rw [ek]
    clear ek
    refine (ahead_any _ y _ _ HY.out (by omega)).mono ?_
    rintro e w4 ⟨v4, rfl, ho4, he4⟩
    rw [ahdS_in y k hy hk] at ho4 ⊢
    have HA := Lib.hid ho4.bs
    have HX := Lib.hid (HX.out.ext he4)
    have HY := Lib.hid (HY.out.ext he4)
    have HE4 := Lib.hid (HE3.out.trans he4)
    clear ho4 he4
    go_wp2_with fail
    refine (behind_any _ y _ _ HY.out (by omega)).mono ?_
    rintro e w5 ⟨v5, rfl, ho5, he5⟩
    rw [bhdS_in y k hy hk] at ho5 ⊢
    have HC := Lib.hid ho5.bs
    have HA := Lib.hid (HA.out.ext he5)
    have HX := Lib.hid (HX.out.ext he5)
    have HY := Lib.hid (HY.out.ext he5)
    have HE5 := Lib.hid (HE4.out.trans he5)
    clear ho5 he5
    have hla : (ahd y (y.length + k)).length = y.length + k := ahd_length _ _ (by omega)
    have HBA := Lib.hid (show bare (ahd y (y.length + k)) = y by unfold ahd; rw [bare_zeros, HBB.out])
    have HNA := Lib.hid (num_ahd y (y.length + k))
    have hlc : (fit y (y.length + k)).length = y.length + k := fit_length _ _
    have HFC := Lib.hid (show fit y (y.length + k) = y ++ List.replicate k 0 by unfold fit; rw [List.take_of_length_le (by omega), Nat.add_sub_cancel_left])
    have HZC := Lib.hid (zeros_fit y (y.length + k) (by omega))
    generalize ahd y (y.length + k) = aL at *
    generalize fit y (y.length + k) = cL at *
    obtain ⟨A4, c4, rfl, -, -, -⟩ := id HA.out
    obtain ⟨A5, c5, rfl, -, -, -⟩ := id HC.out
    have HLA := Lib.hid hla
    have HLC := Lib.hid hlc
    rw [hla, hlc]
    clear hla hlc
    have q1 : (((y.length + k : Nat) : Int) != (y.length : Int) + (k : Int)) = false := by simp
    go_wp2_with fail
    refine (bareB_any _ aL _ (by rw [← HLA.out]; exact HA.out) (by have := HLA.out; omega)).mono ?_
    rintro e w6 ⟨v6, rfl, ho6, he6⟩
    rw [HBA.out] at ho6
    have HA := Lib.hid (HA.out.ext he6)
    have HC := Lib.hid (HC.out.ext he6)
    have HX := Lib.hid (HX.out.ext he6)
    have HY := Lib.hid (HY.out.ext he6)
    have HE6 := Lib.hid (HE5.out.trans he6)
    have HBs6 := Lib.hid ho6.bs
    clear ho6 he6
    go_wp2_with fail
    refine (bytesEqual_any _ _ y y _ HBs6.out HY.out).mono ?_
    rintro e w' ⟨rfl, rfl⟩
    rw [show (y == y) = true by simp]
    go_wp2_with fail
    refine (u64_tail _ aL _ (by rw [← HLA.out]; exact HA.out)).mono ?_
    rintro e w' ⟨rfl, rfl⟩
    rw [num_last8, HNA.out]
    go_wp2_with fail
    refine (u64_tail _ x _ HX.out).mono ?_
    rintro e w' ⟨rfl, rfl⟩
    rw [num_last8, ← HNum.out]
    go_wp2_with fail
    refine (hasPrefix_yes _ _ y (List.replicate k 0) _ (by rw [← HFC.out, ← HLC.out]; exact HC.out) HY.out).mono ?_
    rintro e w' ⟨rfl, rfl⟩
    go_wp2_with fail
    refine (noughts_any _ cL _ (by rw [← HLC.out]; exact HC.out)).mono ?_
    rintro e w' ⟨rfl, rfl⟩
    rw [HZC.out, HLC.out, Nat.add_sub_cancel_left]
    have hzy := zeros_le y
    go_wp2_with fail
    refine (noughts_any _ y _ HY.out).mono ?_
    rintro e w' ⟨rfl, rfl⟩
    go_wp2_with fail
    refine (put64_any _ x z _ rfl _ HX.out hz (by omega)).mono ?_
    rintro e w7 ⟨v7, rfl, ho7, he7⟩
    have HB7 := Lib.hid ho7.bs
    have HE7 := Lib.hid (HE6.out.trans he7)
    clear ho7 he7
    go_wp2_with fail
    refine (u64_tail _ _ _ HB7.out).mono ?_
    rintro e w' ⟨rfl, rfl⟩
    rw [num_put x z hz]
    go_wp2_with fail
    refine (put64_any _ [] z _ rfl _ (Bs.nil _) hz (by simp)).mono ?_
    rintro e w8 ⟨v8, rfl, ho8, he8⟩
    have HB8 := Lib.hid ho8.bs
    have HE8 := Lib.hid (HE7.out.trans he8)
    clear ho8 he8
    go_wp2_with fail
    refine (bareB_any _ _ _ HB8.out (by simp [hi8, hiK_length])).mono ?_
    rintro e w9 ⟨v9, rfl, ho9, he9⟩
    have HB9 := Lib.hid ho9.bs
    have HE9 := Lib.hid (HE8.out.trans he9)
    clear ho9 he9
    go_wp2_with fail
    refine (u64_tail _ _ _ HB9.out).mono ?_
    rintro e w' ⟨rfl, rfl⟩
    rw [num_last8, num_bare, ← num_last8, num_put [] z hz]
    go_wp2_with fail
    go_ret
    exact ⟨rfl, HE9.out⟩
  · go_wp2_with fail
    refine (hasSuffix_yes _ _ (List.replicate k0 0) y _ (by rw [← HK.out]; exact HX.out) HY.out).mono ?_
    rintro e w' ⟨rfl, rfl⟩
    go_wp2_with fail
    obtain ⟨k, hk, ek⟩ := add300 n y.length hy
    rw [ek]
    clear ek
    refine (ahead_any _ y _ _ HY.out (by omega)).mono ?_
    rintro e w4 ⟨v4, rfl, ho4, he4⟩
    rw [ahdS_in y k hy hk] at ho4 ⊢
    have HA := Lib.hid ho4.bs
    have HX := Lib.hid (HX.out.ext he4)
    have HY := Lib.hid (HY.out.ext he4)
    have HE4 := Lib.hid (HE3.out.trans he4)
    clear ho4 he4
    go_wp2_with fail
    refine (behind_any _ y _ _ HY.out (by omega)).mono ?_
    rintro e w5 ⟨v5, rfl, ho5, he5⟩
    rw [bhdS_in y k hy hk] at ho5 ⊢
    have HC := Lib.hid ho5.bs
    have HA := Lib.hid (HA.out.ext he5)
    have HX := Lib.hid (HX.out.ext he5)
    have HY := Lib.hid (HY.out.ext he5)
    have HE5 := Lib.hid (HE4.out.trans he5)
    clear ho5 he5
    have hla : (ahd y (y.length + k)).length = y.length + k := ahd_length _ _ (by omega)
    have HBA := Lib.hid (show bare (ahd y (y.length + k)) = y by unfold ahd; rw [bare_zeros, HBB.out])
    have HNA := Lib.hid (num_ahd y (y.length + k))
    have hlc : (fit y (y.length + k)).length = y.length + k := fit_length _ _
    have HFC := Lib.hid (show fit y (y.length + k) = y ++ List.replicate k 0 by unfold fit; rw [List.take_of_length_le (by omega), Nat.add_sub_cancel_left])
    have HZC := Lib.hid (zeros_fit y (y.length + k) (by omega))
    generalize ahd y (y.length + k) = aL at *
    generalize fit y (y.length + k) = cL at *
    obtain ⟨A4, c4, rfl, -, -, -⟩ := id HA.out
    obtain ⟨A5, c5, rfl, -, -, -⟩ := id HC.out
    have HLA := Lib.hid hla
    have HLC := Lib.hid hlc
    rw [hla, hlc]
    clear hla hlc
    have q1 : (((y.length + k : Nat) : Int) != (y.length : Int) + (k : Int)) = false := by simp
    go_wp2_with fail
    refine (bareB_any _ aL _ (by rw [← HLA.out]; exact HA.out) (by have := HLA.out; omega)).mono ?_
    rintro e w6 ⟨v6, rfl, ho6, he6⟩
    rw [HBA.out] at ho6
    have HA := Lib.hid (HA.out.ext he6)
    have HC := Lib.hid (HC.out.ext he6)
    have HX := Lib.hid (HX.out.ext he6)
    have HY := Lib.hid (HY.out.ext he6)
    have HE6 := Lib.hid (HE5.out.trans he6)
    have HBs6 := Lib.hid ho6.bs
    clear ho6 he6
    go_wp2_with fail
    refine (bytesEqual_any _ _ y y _ HBs6.out HY.out).mono ?_
    rintro e w' ⟨rfl, rfl⟩
    rw [show (y == y) = true by simp]
    go_wp2_with fail
    refine (u64_tail _ aL _ (by rw [← HLA.out]; exact HA.out)).mono ?_
    rintro e w' ⟨rfl, rfl⟩
    rw [num_last8, HNA.out]
    go_wp2_with fail
    refine (u64_tail _ x _ HX.out).mono ?_
    rintro e w' ⟨rfl, rfl⟩
    rw [num_last8, ← HNum.out]
    go_wp2_with fail
    refine (hasPrefix_yes _ _ y (List.replicate k 0) _ (by rw [← HFC.out, ← HLC.out]; exact HC.out) HY.out).mono ?_
    rintro e w' ⟨rfl, rfl⟩
    go_wp2_with fail
    refine (noughts_any _ cL _ (by rw [← HLC.out]; exact HC.out)).mono ?_
    rintro e w' ⟨rfl, rfl⟩
    rw [HZC.out, HLC.out, Nat.add_sub_cancel_left]
    have hzy := zeros_le y
    go_wp2_with fail
    refine (noughts_any _ y _ HY.out).mono ?_
    rintro e w' ⟨rfl, rfl⟩
    go_wp2_with fail
    refine (put64_any _ x z _ rfl _ HX.out hz (by omega)).mono ?_
    rintro e w7 ⟨v7, rfl, ho7, he7⟩
    have HB7 := Lib.hid ho7.bs
    have HE7 := Lib.hid (HE6.out.trans he7)
    clear ho7 he7
    go_wp2_with fail
    refine (u64_tail _ _ _ HB7.out).mono ?_
    rintro e w' ⟨rfl, rfl⟩
    rw [num_put x z hz]
    go_wp2_with fail
    refine (put64_any _ [] z _ rfl _ (Bs.nil _) hz (by simp)).mono ?_
    rintro e w8 ⟨v8, rfl, ho8, he8⟩
    have HB8 := Lib.hid ho8.bs
    have HE8 := Lib.hid (HE7.out.trans he8)
    clear ho8 he8
    go_wp2_with fail
    refine (bareB_any _ _ _ HB8.out (by simp [hi8, hiK_length])).mono ?_
    rintro e w9 ⟨v9, rfl, ho9, he9⟩
    have HB9 := Lib.hid ho9.bs
    have HE9 := Lib.hid (HE8.out.trans he9)
    clear ho9 he9
    go_wp2_with fail
    refine (u64_tail _ _ _ HB9.out).mono ?_
    rintro e w' ⟨rfl, rfl⟩
    rw [num_last8, num_bare, ← num_last8, num_put [] z hz]
    go_wp2_with fail
    go_ret
    exact ⟨rfl, HE9.out⟩

theorem keeps_told (W : World) (args : Array Value) (h : Told Try.f8 W args) : Calls Try.prog 8 args W (RetT W) := by
  obtain ⟨H, enc, base, ds, p, hval, hA⟩ := h
  rw [Try.params8] at hA hval
  obtain ⟨v0, v1, v2, d0, d1, d2, p0, p1, p2, rfl, rfl, rfl, h0, h1, h2⟩ := trodAll_three hA
  obtain ⟨a, ha⟩ := bs_came (hval 0 _ v0 rfl rfl) h0
  obtain ⟨z, rfl, hz⟩ := u64_came Try.underlying26 (hval 1 _ v1 rfl rfl) h1
  obtain ⟨n, rfl, hn1, hn2⟩ := int_came Try.underlying3 (hval 2 _ v2 rfl rfl) h2
  exact keeps_walk v0 a z n W ha hz hn1 hn2

theorem keeps_spec (H : Type) : ∀ ds : List (DataW H), ds.length = Try.f8.params.toList.length → Rows.octetKeepsSpec.fn H ds = { results := [.lit (.bool true)], args := ds }
  | [_, _, _], _ => rfl
  | [], h | [_], h | [_, _], h | _ :: _ :: _ :: _ :: _, h => by rw [Try.params8] at h; simp at h

set_option maxRecDepth 100000 in
theorem octetKeeps_holds : Rows.OctetKeepsSaid :=
  OpenClaim.holds_of_wide 8 Try.f8 rfl rfl rfl rfl rfl rfl rfl ⟨rfl, rfl, rfl, rfl, rfl⟩ rfl rfl rfl rfl rfl (by kernel_rfl) Try.func8 (by kernel_rfl)
    (of_decide_eq_true (by kernel_rfl)) (by unfold Func.isWrapper; first | (rw [if_pos (by decide +kernel)]; kernel_rfl) | (rw [if_neg (by decide +kernel)]; exact ⟨rfl, rfl⟩))
    (fun os started H enc _ => law_lifted started (by kernel_rfl) Try.func8 rfl rfl (keeps_spec H) (of_decide_eq_true (by kernel_rfl))
      (ChangeSpec.witness6 (enc := enc) (C := Try.checked) false ⟨#[], #[.slice none 0 0, .int .u64 0, .int .i64 0], []⟩ 8 (by kernel_rfl) (by kernel_rfl) (by kernel_rfl) (by kernel_rfl)) keeps_told)
end Go.Proofs.Ytllcmeihogcckaa
