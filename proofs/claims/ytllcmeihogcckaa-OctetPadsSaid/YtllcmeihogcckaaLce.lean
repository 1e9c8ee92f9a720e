/- OctetNumbers: numbers put behind a row, and the number of a row. No condition. -/
import Derived.Test.YtllcmeihogcckaaRfb
import Derived.Test.YtllcmeihogcckaaByu
namespace Go.Proofs.Ytllcmeihogcckaa
open Go.ChangeShapes Go.WideShapes Go.ChangeAt Go.RowKit

theorem us_came {H : Type} {enc : TypeId × Value → H} {W : World} {base : Nat} {v : Value} {d : DataW H} {p : List MemPlace}
    (hval : Value.okWide Try.prog W .any base 43 v) (h : DataW.Trod enc Try.prog W 0 (fun _ => true) true 43 v d p) :
    ∃ us : List Nat, Us W v us := by
  obtain ⟨a0, len0, cap0, rfl⟩ := okWide_slice Try.underlying43 hval
  obtain ⟨fuel, hf⟩ := h
  rcases open_ints Try.underlying43 Try.underlying26 (by kernel_rfl) hf with ⟨hcs, _⟩ | ⟨x, l, c, zs, hcs, _, hl, hm, hz, _, hcell, hwz⟩
  · simp [Value.cells] at hcs
    obtain ⟨rfl, rfl, rfl⟩ := hcs
    exact ⟨[], none, 0, rfl, Nat.le_refl _, Nat.zero_le _, fun h => absurd h (by simp)⟩
  · simp [Value.cells] at hcs
    obtain ⟨rfl, rfl, rfl⟩ := hcs
    refine ⟨(zs.take len0).map Int.toNat, ?_⟩
    have hlen : ((zs.take len0).map Int.toNat).length = len0 := by simp at hz ⊢; omega
    refine ⟨_, cap0, by rw [hlen], by rw [hlen]; exact hl, hm, fun hp => ?_⟩
    rw [hlen] at hp ⊢
    simp only [if_true] at hz
    obtain ⟨b, o, sp⟩ := x
    have hc0 := hcell 0 (by omega)
    obtain rfl : sp = none := by simpa [Addr.add] using World.cell?_spot hc0
    refine ⟨b, o, rfl, fun i hi => ?_⟩
    have hci := hcell i (by omega)
    rw [add_plain] at hci
    have hzi : i < zs.length := by omega
    have hwi := hwz (zs.getD i 0) (by simp [List.getD, List.getElem?_eq_getElem hzi])
    have hbd : 0 ≤ zs.getD i 0 ∧ zs.getD i 0 ≤ 18446744073709551615 := by simpa [Lit.wf, IntKind.min, IntKind.max, IntKind.signed, IntKind.bits] using hwi
    have hg : ((zs.take len0).map Int.toNat).getD i 0 = (zs.getD i 0).toNat := by simp [List.getD, hi, List.getElem?_eq_getElem hzi]
    rw [hg, hci]
    refine ⟨?_, by omega⟩
    congr 2
    omega

theorem lay_room (x : List UInt8) (n : Nat) (h : n = x.length + 8) : lay (List.replicate n 0) 0 x = x ++ List.replicate 8 0 := by
  rw [lay_fit]
  unfold fit
  subst h
  rw [List.take_of_length_le (by omega), Nat.add_sub_cancel_left]

theorem inc_byte (y : UInt8) : Value.int .u8 (((y.toNat : Int) + 1) % 256) = bv (UInt8.ofNat (y.toNat + 1)) := by
  rw [← byte_mod]
  rfl

set_option maxHeartbeats 2000000 in
theorem numbers_walk (va vl : Value) (a : List UInt8) (us : List Nat) (w : World) (ha : Bs w va a) (hu : Us w vl us) :
    Calls Try.prog 5 #[va, vl] w (RetT w) := by
  have HA := Lib.hid ha
  have HU := Lib.hid hu
  obtain ⟨AU, cU, rfl, hU1, hU2, hU3⟩ := hu
  clear ha hU3
  unfold maxLen at hU2
  go_enter Try.func5, Try.ntmps5
  go_wp2_with fail
  refine (wakes_any _).mono ?_
  rintro e w1 ⟨rfl, he1⟩
  have HE1 := Lib.hid he1
  clear he1
  go_wp2_with fail
  refine (few_any _ a _ (HA.out.ext HE1.out)).mono ?_
  rintro e w2 ⟨v2, rfl, ho, he⟩
  have HX := Lib.hid ho.bs
  have HE := Lib.hid (HE1.out.trans he)
  clear ho he
  have hx : (a.take 4097).length ≤ 4097 := List.length_take_le _ _
  generalize a.take 4097 = x at *
  obtain ⟨A2, c2, rfl, -, -, -⟩ := id HX.out
  go_wp2_with fail
  refine (few_any _ x _ HX.out).mono ?_
  rintro e w3 ⟨v3, rfl, ho, he⟩
  rw [List.take_of_length_le hx] at ho
  have HY := Lib.hid ho.bs
  have HX := Lib.hid (HX.out.ext he)
  have HE := Lib.hid (HE.out.trans he)
  clear ho he
  go_wp2_with fail
  refine (u64_tail _ x _ HX.out).mono ?_
  rintro e w' ⟨rfl, rfl⟩
  rw [num_last8]
  go_wp2_with fail
  refine (number_any _ x _ HX.out).mono ?_
  rintro e w' ⟨rfl, rfl⟩
  have hnl := num_lt x
  go_wp2_with (first
    | (at_make; refine wpList_make_room rfl _ _ _ rfl 5 Try.underlying22 u8info .i64 .i64 _ _ x.length (x.length + 8) rfl rfl (by omega) (by omega) (by omega) (by omega) ?_; intro w4 hr he; have HR := Lib.hid hr; have HEr := Lib.hid he; clear hr he)
    | (with_reducible refine wpList_copy_part rfl (.tmp 28) (.tmp 29) _ _ rfl 5 Try.underlying22 u8size w3.heap.size x.length (x.length + 8) (List.replicate (x.length + 8) 0) rfl (by simp) HR.out (.slice A2 x.length c2) x rfl (HX.out.ext HEr.out) rfl ?_; intro w5 hr hg; have HR5 := Lib.hid hr; have HG5 := Lib.hid hg; clear hr hg))
  rw [lay_room x _ rfl] at HR5
  have HE5 := Lib.hid (HEr.out.grown HG5.out (Nat.le_refl _))
  have HRoom := Lib.hid ((HR5.out.own (base := 0) (Nat.zero_le _) (by simp [maxLen]; omega)).bs)
  have HY := Lib.hid (HY.out.ext HE5.out)
  have HU := Lib.hid (HU.out.ext (HE.out.trans HE5.out))
  have HE := Lib.hid (HE.out.trans HE5.out)
  clear HR HEr HG5 HX HE1 HE5 HA
  rw [List.length_append, List.length_replicate] at HRoom
  have HRx := Lib.hid (HRoom.out.take x.length (by simp))
  rw [List.take_left] at HRx
  have HSp := Lib.hid (HRoom.out.dropLt x.length (by simp) (by omega))
  rw [List.drop_left] at HSp
  simp only [Option.map_some, add_plain, Nat.zero_add, List.length_append, List.length_replicate, Nat.add_sub_cancel_left] at HSp
  generalize w3.heap.size = g0 at *
  go_loopw [33] (fun i wr => ∃ k : Nat, k ≤ us.length ∧ k ≤ 12 ∧ i = .int .i64 k ∧ Hid (Ext w5 wr)) (fun i _ => us.length - (intOf i).toNat)
  case atStart => exact ⟨0, Nat.zero_le _, Nat.zero_le _, rfl, Ext.refl _⟩
  case round =>
    obtain ⟨k, hk, hk12, rfl, HW⟩ := hrel
    by_cases hlt : k < us.length
    · by_cases h12 : k = 12
      · subst h12
        obtain ⟨A, c, e, h1, h2, h3⟩ := (HU.out.ext HW.out)
        injection e with e1 e2 e3
        subst e1
        obtain ⟨b, o, rfl, hc⟩ := h3 (by omega)
        have hck := (hc 12 hlt).1
        have hd : (((12 : Nat) : Int) == 12) = true := rfl
        clear hc h3 e2 e3 HU
        go_wp2
        go_ret
        exact ⟨rfl, HE.out.trans HW.out⟩
      · obtain ⟨A, c, e, h1, h2, h3⟩ := (HU.out.ext HW.out)
        injection e with e1 e2 e3
        subst e1
        obtain ⟨b, o, rfl, hc⟩ := h3 (by omega)
        have hck := (hc k hlt).1
        have hu64 := (hc k hlt).2
        clear hc h3 e2 e3
        have hd : ((k : Int) == 12) = false := beq_eq_false_iff_ne.2 (by omega)
        generalize us.getD k 0 = u at *
        go_wp2_with fail
        refine (put64_any _ x u _ rfl _ (HRx.out.ext HW.out) hu64 (by omega)).mono ?_
        rintro e wa ⟨vy, rfl, ho, he⟩
        have HO := Lib.hid ho
        have HX1 := Lib.hid he
        clear ho he
        go_wp2_with fail
        refine (high8_any u _ rfl _ hu64).mono ?_
        rintro e wb ⟨vh, rfl, ho, he⟩
        have HO := Lib.hid (HO.out.ext he)
        have HX1 := Lib.hid (HX1.out.trans he)
        have HH := Lib.hid ho.bs
        clear ho he
        go_wp2_with fail
        refine (both_any _ _ x (hi8 u) _ (HY.out.ext (HW.out.trans HX1.out)) HH.out (by rw [show (hi8 u).length = 8 from hiK_length u 8]; omega)).mono ?_
        rintro e wc ⟨vb, rfl, ho, he⟩
        have HO := Lib.hid (HO.out.ext he)
        have HX1 := Lib.hid (HX1.out.trans he)
        have HBo := Lib.hid ho.bs
        clear ho he HH
        have hL : (x ++ hi8 u).length = x.length + 8 := by rw [List.length_append, show (hi8 u).length = 8 from hiK_length u 8]
        have HNP := Lib.hid (num_put x u hu64)
        generalize x ++ hi8 u = L at *
        go_wp2_with fail
        refine (same_any _ _ L L _ HO.out.bs HBo.out).mono ?_
        rintro e wd ⟨rfl, he⟩
        rw [show (L == L) = true by simp]
        have HO := Lib.hid (HO.out.ext he)
        have HX1 := Lib.hid (HX1.out.trans he)
        clear he HBo
        go_wp2_with fail
        refine (u64_tail _ L _ HO.out.bs).mono ?_
        rintro e w' ⟨rfl, rfl⟩
        rw [HNP.out]
        clear HNP
        obtain ⟨gy, cy, rfl, hgy, -, -, -⟩ := HO.out.form (by omega)
        have HL := Lib.hid hL
        have hL1 : L.length ≤ 5000 := by omega
        have hL2 : 0 < L.length := by omega
        clear hL
        go_wp2_with fail
        obtain ⟨wo, rfl⟩ : ∃ wo : World, wo = wr := ⟨_, rfl⟩
        go_loopw [58] (fun i wr2 => ∃ (j : Nat) (M : List UInt8), j ≤ L.length ∧ i = .int .i64 j ∧ Hid (M.length = L.length) ∧ Hid (Own wr2 wo.heap.size 5 (.slice (some ⟨gy, 0, none⟩) L.length cy) M) ∧ Hid (Ext wo wr2)) (fun i _ => L.length - (intOf i).toNat)
        case atStart => exact ⟨0, L, Nat.zero_le _, rfl, rfl, HO.out, HX1.out⟩
        case round =>
          obtain ⟨j, M, hj, rfl, HML, HOM, HXM⟩ := hrel
          by_cases hjl : j < L.length
          · obtain ⟨g, cap, e, hbg, hcells, hfrz, hset⟩ := HOM.out.form (by have := HML.out; omega)
            injection e with e1 e2 e3
            injection e1 with e1
            injection e1 with e1
            subst e1
            have hcj := hcells j (by have := HML.out; omega)
            have hfj := hfrz j
            have HSj := Lib.hid (fun c => hset j c)
            unfold bv at hcj
            clear hcells hfrz hset e2 e3
            generalize M.getD j 0 = y at *
            have hy := y.toNat_lt
            go_wp2
            go_roundw
            case rel =>
              rw [inc_byte]
              exact ⟨j + 1, M.set j (UInt8.ofNat (y.toNat + 1)), by omega, by go_num, by show _ = _; rw [List.length_set]; exact HML.out, (HSj.out _).1, HXM.out.grown (HSj.out _).2 hbg⟩
            case measure => simp [intOf]; omega
          · have HW2 := Lib.hid (HW.out.trans HXM.out)
            go_wp2_with fail
            refine (same_any _ _ x x _ (HRx.out.ext HW2.out) (HY.out.ext HW2.out)).mono ?_
            rintro e we ⟨rfl, he⟩
            rw [show (x == x) = true by simp]
            have HW3 := Lib.hid (HW2.out.trans he)
            clear he
            go_wp2_with fail
            refine (refNoughts_any _ (List.replicate 8 0) _ (HSp.out.ext HW3.out)).mono ?_
            rintro e w' ⟨rfl, rfl⟩
            rw [show ((zeros (List.replicate 8 0) : Nat) : Int) = 8 from rfl]
            have hd8 : ((8 : Int) != (x.length : Int) + 8 - (x.length : Int)) = false := by
              rw [show (x.length : Int) + 8 - (x.length : Int) = 8 by omega]
              rfl
            go_wp2
            go_roundw
            case rel => exact ⟨k + 1, by omega, by omega, by go_num, HW3.out⟩
            case measure => simp [intOf]; omega
    · go_wp2
      go_ret
      exact ⟨rfl, HE.out.trans HW.out⟩

theorem numbers_told (W : World) (args : Array Value) (h : Told Try.f5 W args) : Calls Try.prog 5 args W (RetT W) := by
  obtain ⟨H, enc, base, ds, p, hval, hA⟩ := h
  rw [Try.params5] at hA hval
  obtain ⟨v0, v1, d0, d1, p0, p1, rfl, rfl, rfl, h0, h1⟩ := trodAll_two hA
  obtain ⟨a, ha⟩ := bs_came (hval 0 _ v0 rfl rfl) h0
  obtain ⟨us, hu⟩ := us_came (hval 1 _ v1 rfl rfl) h1
  exact numbers_walk v0 v1 a us W ha hu

theorem numbers_spec (H : Type) : ∀ ds : List (DataW H), ds.length = Try.f5.params.toList.length → Rows.octetNumbersSpec.fn H ds = { results := [.lit (.bool true)], args := ds }
  | [_, _], _ => rfl
  | [], h | [_], h | _ :: _ :: _ :: _, h => by rw [Try.params5] at h; simp at h

set_option maxRecDepth 100000 in
theorem octetNumbers_holds : Rows.OctetNumbersSaid :=
  OpenClaim.holds_of_wide 5 Try.f5 rfl rfl rfl rfl rfl rfl rfl ⟨rfl, rfl, rfl, rfl, rfl⟩ rfl rfl rfl rfl rfl (by kernel_rfl) Try.func5 (by kernel_rfl)
    (of_decide_eq_true (by kernel_rfl)) (by unfold Func.isWrapper; first | (rw [if_pos (by decide +kernel)]; kernel_rfl) | (rw [if_neg (by decide +kernel)]; exact ⟨rfl, rfl⟩))
    (fun os started H enc _ => law_lifted started (by kernel_rfl) Try.func5 rfl rfl (numbers_spec H) (of_decide_eq_true (by kernel_rfl))
      (ChangeSpec.witness6 (enc := enc) (C := Try.checked) false ⟨#[], #[.slice none 0 0, .slice none 0 0], []⟩ 8 (by kernel_rfl) (by kernel_rfl) (by kernel_rfl) (by kernel_rfl)) numbers_told)
end Go.Proofs.Ytllcmeihogcckaa
