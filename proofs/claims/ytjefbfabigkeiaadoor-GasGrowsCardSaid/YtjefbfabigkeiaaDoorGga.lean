/- GasGrows: more never costs less; memory in steps costs what it costs at once. No condition: whatever three numbers come in. -/
import Derived.Test.YtjefbfabigkeiaaDoorGsu
namespace Go.Proofs.YtjefbfabigkeiaaDoor
open Go.ChangeShapes Go.WideShapes Go.ChangeAt Go.RowKit Go.Shelf

set_option maxRecDepth 100000 in
set_option maxHeartbeats 4000000 in
theorem grows_any (a b c : Nat) (w : World) (hT : Tb w) : Calls Tryd.prog 7 #[.int .u64 (a : Nat), .int .u64 (b : Nat), .int .u64 (c : Nat)] w (RetT w) := by
  go_enter Tryd.func7, Tryd.ntmps7
  go_wp2_with fail
  refine (wakes_G w hT).mono ?_
  rintro e w1 ⟨rfl, HE1⟩
  have HE := Lib.hid HE1
  clear HE1 hT
  go_upto_region 4 with fail
  obtain ⟨x, hx⟩ : ∃ x : Nat, x = a % 1100 := ⟨_, rfl⟩
  obtain ⟨y, hy⟩ : ∃ y : Nat, y = b % 1100 := ⟨_, rfl⟩
  obtain ⟨z, hz⟩ : ∃ z : Nat, z = c % 1100 := ⟨_, rfl⟩
  rw [show (a : Int) % 1100 = (x : Int) by omega, show (b : Int) % 1100 = (y : Int) by omega, show (c : Int) % 1100 = (z : Int) by omega]
  have hx2 : x < 1100 := by omega
  have hy2 : y < 1100 := by omega
  have hz2 : z < 1100 := by omega
  clear hx hy hz
  go_upto_region 5 with fail
  obtain ⟨lo, mi, hi, e2, e1, e3, h12, h23, h34⟩ : ∃ lo mi hi : Nat, (((x : Int) + (y : Int) + (z : Int) - (if (z : Int) < (if y < x then (y : Int) else (x : Int)) then (z : Int) else if y < x then (y : Int) else (x : Int))) - (if (if x < y then (y : Int) else (x : Int)) < (z : Int) then (z : Int) else if x < y then (y : Int) else (x : Int))) = (mi : Int) ∧ (if (z : Int) < (if y < x then (y : Int) else (x : Int)) then (z : Int) else if y < x then (y : Int) else (x : Int)) = (lo : Int) ∧ (if (if x < y then (y : Int) else (x : Int)) < (z : Int) then (z : Int) else if x < y then (y : Int) else (x : Int)) = (hi : Int) ∧ lo ≤ mi ∧ mi ≤ hi ∧ hi < 1100 :=
    ⟨(if (z : Int) < (if y < x then (y : Int) else (x : Int)) then (z : Int) else if y < x then (y : Int) else (x : Int)).toNat, (((x : Int) + (y : Int) + (z : Int) - (if (z : Int) < (if y < x then (y : Int) else (x : Int)) then (z : Int) else if y < x then (y : Int) else (x : Int))) - (if (if x < y then (y : Int) else (x : Int)) < (z : Int) then (z : Int) else if x < y then (y : Int) else (x : Int))).toNat, (if (if x < y then (y : Int) else (x : Int)) < (z : Int) then (z : Int) else if x < y then (y : Int) else (x : Int)).toNat, by (repeat' split) <;> omega, by (repeat' split) <;> omega, by (repeat' split) <;> omega, by (repeat' split) <;> omega, by (repeat' split) <;> omega, by (repeat' split) <;> omega⟩
  rw [e2, e1, e3]
  clear e1 e2 e3 hx2 hy2 hz2
  have h13 := Nat.le_trans h12 h23
  have hl64 : lo < 18446744073709551616 := by omega
  have hh64 : hi < 18446744073709551616 := by omega
  have m1 := wordsG_mono h13
  have m2 : hashG lo ≤ hashG hi := eachG_mono 6 m1
  have m3 : copyG lo ≤ copyG hi := eachG_mono 3 m1
  have m4 : createG lo ≤ createG hi := by unfold createG; omega
  have m5 : layG lo ≤ layG hi := eachG_mono 20 h13
  have d1 : decide (wordsG hi < wordsG lo) = false := decide_eq_false (Nat.not_lt.2 m1)
  have d2 : decide (hashG hi < hashG lo) = false := decide_eq_false (Nat.not_lt.2 m2)
  have d3 : decide (copyG hi < copyG lo) = false := decide_eq_false (Nat.not_lt.2 m3)
  have d4 : decide (createG hi < createG lo) = false := decide_eq_false (Nat.not_lt.2 m4)
  have d5 : decide (layG hi < layG lo) = false := decide_eq_false (Nat.not_lt.2 m5)
  clear m1 m2 m3 m4 m5
  go_wp2_with fail
  refine (wordsG_any lo w1 hl64).mono ?_
  rintro e w2 ⟨rfl, rfl⟩
  go_wp2_with fail
  refine (wordsG_any hi w2 hh64).mono ?_
  rintro e w3 ⟨rfl, rfl⟩
  go_wp2_with fail
  refine (hashG_any lo w3 hl64).mono ?_
  rintro e w4 ⟨rfl, hE4⟩
  have HE4 := Lib.hid (HE.out.trans hE4)
  clear hE4 HE
  go_wp2_with fail
  refine (hashG_any hi w4 hh64).mono ?_
  rintro e w5 ⟨rfl, hE5⟩
  have HE5 := Lib.hid (HE4.out.trans hE5)
  clear hE5 HE4
  go_wp2_with fail
  refine (copyG_any lo w5 hl64).mono ?_
  rintro e w6 ⟨rfl, hE6⟩
  have HE6 := Lib.hid (HE5.out.trans hE6)
  clear hE6 HE5
  go_wp2_with fail
  refine (copyG_any hi w6 hh64).mono ?_
  rintro e w7 ⟨rfl, hE7⟩
  have HE7 := Lib.hid (HE6.out.trans hE7)
  clear hE7 HE6
  go_wp2_with fail
  refine (createG_any lo w7 hl64).mono ?_
  rintro e w8 ⟨rfl, hE8⟩
  have HE8 := Lib.hid (HE7.out.trans hE8)
  clear hE8 HE7
  go_wp2_with fail
  refine (createG_any hi w8 hh64).mono ?_
  rintro e w9 ⟨rfl, hE9⟩
  have HE9 := Lib.hid (HE8.out.trans hE9)
  clear hE9 HE8
  go_wp2_with fail
  refine (layG_any lo w9 hl64).mono ?_
  rintro e w10 ⟨rfl, hE10⟩
  have HE10 := Lib.hid (HE9.out.trans hE10)
  clear hE10 HE9
  go_wp2_with fail
  refine (layG_any hi w10 hh64).mono ?_
  rintro e w11 ⟨rfl, hE11⟩
  have HE11 := Lib.hid (HE10.out.trans hE11)
  clear hE11 HE10
  go_upto_region 7 with fail
  clear d1 d2 d3 d4 d5
  by_cases hmx : 1024 < hi
  · have hm : memG lo hi = if hi ≤ lo then 0 else if 1024 < hi then noGas else heldG (wordsG hi) - heldG (wordsG lo) := rfl
    by_cases heq : lo = hi
    · subst heq
      go_wp2
      go_ret
      exact ⟨rfl, HE11.out⟩
    rw [if_neg (by omega), if_pos hmx] at hm
    have hne : ((lo : Int) == (hi : Int)) = false := by simp; omega
    go_wp2_with fail
    refine (memG_any lo hi w11 hl64 hh64).mono ?_
    rintro e w12 ⟨rfl, rfl⟩
    rw [hm]
    go_wp2
    go_ret
    exact ⟨rfl, HE11.out⟩
  have hM : ∀ f t, t ≤ 1024 → f ≤ t → (memG f t + heldG (wordsG f) = heldG (wordsG t)) := by
    intro f t h1 h2
    have := heldG_mono (wordsG_mono h2)
    unfold memG
    rw [if_neg (show ¬ 1024 < t by omega)]
    split
    · have : f = t := by omega
      subst this
      omega
    · omega
  have hb := heldG_lt (wordsG_mem (show hi ≤ 1024 by omega))
  have a1 := hM lo mi (by omega) h12
  have a2 := hM mi hi (by omega) h23
  have a3 := hM lo hi (by omega) h13
  have a4 := hM 0 lo (by omega) (Nat.zero_le _)
  have a5 := hM 0 hi (by omega) (Nat.zero_le _)
  have a6 : memG hi lo = 0 := by unfold memG; rw [if_pos h13]
  have hmi : mi < 18446744073709551616 := by omega
  have h0 : (0 : Nat) < 18446744073709551616 := by decide
  clear hM
  go_wp2_with fail
  refine (memG_any lo mi w11 hl64 hmi).mono ?_
  rintro e w13 ⟨rfl, rfl⟩
  go_wp2_with fail
  refine (memG_any mi hi w13 hmi hh64).mono ?_
  rintro e w14 ⟨rfl, rfl⟩
  go_wp2_with fail
  refine (memG_any lo hi w14 hl64 hh64).mono ?_
  rintro e w15 ⟨rfl, rfl⟩
  have hd : (((memG lo mi : Nat) : Int) + (memG mi hi : Nat) == (memG lo hi : Nat)) = true := by simp; omega
  go_wp2_with fail
  refine (memG_any hi lo w15 hh64 hl64).mono ?_
  rintro e w16 ⟨rfl, rfl⟩
  rw [a6]
  go_wp2_with fail
  refine (memG_any 0 lo w16 h0 hl64).mono ?_
  rintro e w17 ⟨rfl, rfl⟩
  go_wp2_with fail
  refine (memG_any 0 hi w17 h0 hh64).mono ?_
  rintro e w18 ⟨rfl, rfl⟩
  have hd2 : memG 0 lo ≤ memG 0 hi := by have := heldG_mono (wordsG_mono h13); omega
  go_wp2
  go_ret
  exact ⟨rfl, HE11.out⟩
set_option maxRecDepth 100000 in
theorem grows_told (W : World) (args : Array Value) (h : Told Tryd.f7 W args) (ht : Tb W) : Calls Tryd.prog 7 args W (RetT W) := by
  obtain ⟨H, enc, base, ds, p, hval, hA⟩ := h
  rw [Tryd.params7] at hA hval
  obtain ⟨v0, v1, v2, d0, d1, d2, p0, p1, p2, ha, rfl, rfl, h0, h1, h2⟩ := trodAll_three hA
  subst ha
  obtain ⟨a, rfl, _⟩ := u64_came Tryd.underlying24 (hval 0 _ _ rfl rfl) h0
  obtain ⟨b, rfl, _⟩ := u64_came Tryd.underlying24 (hval 1 _ _ rfl rfl) h1
  obtain ⟨c, rfl, _⟩ := u64_came Tryd.underlying24 (hval 2 _ _ rfl rfl) h2
  exact grows_any a b c W ht

set_option maxRecDepth 100000 in
theorem grows_spec (H : Type) : ∀ ds : List (DataW H), ds.length = Tryd.f7.params.toList.length → Rows.gasGrowsSpec.fn H ds = { results := [.lit (.bool true)], args := ds }
  | [_, _, _], _ => rfl
  | [], h | [_], h | [_, _], h | _ :: _ :: _ :: _ :: _, h => by rw [Tryd.params7] at h; simp at h

set_option maxRecDepth 100000 in
theorem gasGrows_holds : Rows.GasGrowsSaid :=
  OpenClaim.holds_of_wide 7 Tryd.f7 rfl rfl rfl rfl rfl rfl rfl ⟨rfl, rfl, rfl, rfl, rfl⟩ rfl rfl rfl rfl rfl (by kernel_rfl) Tryd.func7 (by kernel_rfl)
    (of_decide_eq_true (by kernel_rfl)) (by unfold Func.isWrapper; first | (rw [if_pos (by decide +kernel)]; kernel_rfl) | (rw [if_neg (by decide +kernel)]; exact ⟨rfl, rfl⟩))
    (fun os started H enc _ => law_lifted_t started (by kernel_rfl) Tryd.func7 rfl rfl (grows_spec H) (of_decide_eq_true (by kernel_rfl))
      (ChangeSpec.witness_shaped (enc := enc) (C := Tryd.checked) (os := os) (X := fun w _ => laidMetH Tryd.prog laidS w) false (World.doorLaid Tryd.prog 400 os) #[.int .u64 0, .int .u64 0, .int .u64 0] 8 rfl (World.shaped_of_RefB (by kernel_rfl) (by kernel_rfl)) (by kernel_rfl) (by kernel_rfl) (by kernel_rfl) (door_met os _)) grows_told)

set_option maxRecDepth 100000 in
theorem gasGrows_card : Rows.GasGrowsCardSaid :=
  Claim7.holds_tied_plain_at .later [] [.data, .data, .data, .wider, .data] true (true, "1db432f97302d9ccf523489c3c5a307203f9cae2718eace3ef5e825b493cdc87") false
    gasGrows_holds (fun _ h => by cases h) (by kernel_rfl) (fun _ h => by cases h) gasGrows_row_tie rfl ⟨rfl, rfl⟩ (by kernel_rfl) rfl
    (fun f fn hf hfn => by
      obtain rfl : f = 7 := Option.some.inj ((show Tryd.prog.funcNamed "sheafer/sheaferlaw12.GasGrows" = some 7 by kernel_rfl).symm.trans hf) |>.symm
      obtain rfl : fn = Tryd.f7 := (Option.some.inj (Tryd.func7.symm.trans hfn)).symm
      exact ⟨by kernel_rfl, fun j t ht => by
        rw [Tryd.params7] at ht
        have hm : t ∈ [24, 24, 24] := by simpa using Array.mem_of_getElem? ht
        have hall : ([24, 24, 24].all fun u => !Tryd.prog.wantsStandIn u) = true := by kernel_rfl
        exact (show Tryd.prog.wantsStandIn t = false by simpa using List.all_eq_true.1 hall t hm)⟩)
    (by kernel_rfl)
end Go.Proofs.YtjefbfabigkeiaaDoor
