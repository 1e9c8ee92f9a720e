/- GasSpends: what is left of gas is as the document says. No condition: whatever number, whatever row of costs. -/
import Derived.Test.YtjefbfabigkeiaaDoorGgl
namespace Go.Proofs.YtjefbfabigkeiaaDoor
open Go.ChangeShapes Go.WideShapes Go.ChangeAt Go.RowKit Go.Shelf

set_option maxRecDepth 100000 in
set_option maxHeartbeats 1000000 in
theorem spends_any (left : Nat) (v : Value) (l : List Nat) (w : World) (hT : Tb w) (hl : left < 18446744073709551616) (hv : Gs w v l) : Calls Tryd.prog 6 #[.int .u64 (left : Nat), v] w (RetT w) := by
  obtain ⟨A, c, rfl, _⟩ := id hv
  obtain ⟨_, hn, hc⟩ := hv.len
  have hlen : l.length ≤ 9223372036854775807 := by unfold maxLen at hc; omega
  have HV := Lib.hid hv
  have hcb : l.length ≤ c := hn
  clear hv hn hc
  go_enter Tryd.func6, Tryd.ntmps6
  go_wp2_with fail
  refine (wakes_G w hT).mono ?_
  rintro e w1 ⟨rfl, HE1⟩
  have HE := Lib.hid HE1
  have HV1 := Lib.hid (HV.out.ext HE1)
  clear HE1 hT HV
  go_upto_region 4 with fail
  rw [show (min (l.length : Int) 30).toNat = min l.length 30 by omega]
  have HC := Lib.hid (HV1.out.cut (min l.length 30) (Nat.min_le_left _ _))
  clear HV1
  go_wp2_with fail
  refine (spendG_any left _ _ w1 HC.out hl).mono ?_
  rintro e w2 ⟨rfl, rfl⟩
  go_wp2_with fail
  refine (refSpendG_any left _ _ w2 HC.out hl).mono ?_
  rintro e w3 ⟨rfl, rfl⟩
  go_wp2
  go_ret
  refine ⟨?_, HE.out⟩
  simp
set_option maxRecDepth 100000 in
theorem spends_told (W : World) (args : Array Value) (h : Told Tryd.f6 W args) (ht : Tb W) : Calls Tryd.prog 6 args W (RetT W) := by
  obtain ⟨H, enc, base, ds, p, hval, hA⟩ := h
  rw [Tryd.params6] at hA hval
  obtain ⟨v0, v1, d0, d1, p0, p1, ha, rfl, rfl, h0, h1⟩ := trodAll_two hA
  obtain rfl : args = #[v0, v1] := by apply Array.toList_inj.1; rw [ha]
  obtain ⟨a, rfl, hx⟩ := u64_came Tryd.underlying24 (hval 0 _ _ rfl rfl) h0
  obtain ⟨l, hl⟩ := gs_came (hval 1 _ _ rfl rfl) h1
  exact spends_any a v1 l W ht hx hl
set_option maxRecDepth 100000 in
theorem spends_spec (H : Type) : ∀ ds : List (DataW H), ds.length = Tryd.f6.params.toList.length → Rows.gasSpendsSpec.fn H ds = { results := [.lit (.bool true)], args := ds }
  | [_, _], _ => rfl
  | [], h | [_], h | _ :: _ :: _ :: _, h => by rw [Tryd.params6] at h; simp at h

set_option maxRecDepth 100000 in
theorem gasSpends_holds : Rows.GasSpendsSaid :=
  OpenClaim.holds_of_wide 6 Tryd.f6 rfl rfl rfl rfl rfl rfl rfl ⟨rfl, rfl, rfl, rfl, rfl⟩ rfl rfl rfl rfl rfl (by kernel_rfl) Tryd.func6 (by kernel_rfl)
    (of_decide_eq_true (by kernel_rfl)) (by unfold Func.isWrapper; first | (rw [if_pos (by decide +kernel)]; kernel_rfl) | (rw [if_neg (by decide +kernel)]; exact ⟨rfl, rfl⟩))
    (fun os started H enc _ => law_lifted_t started (by kernel_rfl) Tryd.func6 rfl rfl (spends_spec H) (of_decide_eq_true (by kernel_rfl))
      (ChangeSpec.witness_shaped (enc := enc) (C := Tryd.checked) (os := os) (X := fun w _ => laidMetH Tryd.prog laidS w) false (World.doorLaid Tryd.prog 400 os) #[.int .u64 0, .slice none 0 0] 8 rfl (World.shaped_of_RefB (by kernel_rfl) (by kernel_rfl)) (by kernel_rfl) (by kernel_rfl) (by kernel_rfl) (door_met os _)) spends_told)

set_option maxRecDepth 100000 in
theorem gasSpends_card : Rows.GasSpendsCardSaid :=
  Claim7.holds_tied_plain_at .later [] [.data, .data, .data, .wider, .data] true (true, "1db432f97302d9ccf523489c3c5a307203f9cae2718eace3ef5e825b493cdc87") false
    gasSpends_holds (fun _ h => by cases h) (by kernel_rfl) (fun _ h => by cases h) gasSpends_row_tie rfl ⟨rfl, rfl⟩ (by kernel_rfl) rfl
    (fun f fn hf hfn => by
      obtain rfl : f = 6 := Option.some.inj ((show Tryd.prog.funcNamed "sheafer/sheaferlaw12.GasSpends" = some 6 by kernel_rfl).symm.trans hf) |>.symm
      obtain rfl : fn = Tryd.f6 := (Option.some.inj (Tryd.func6.symm.trans hfn)).symm
      exact ⟨by kernel_rfl, fun j t ht => by
        rw [Tryd.params6] at ht
        have hm : t ∈ [24, 31] := by simpa using Array.mem_of_getElem? ht
        have hall : ([24, 31].all fun u => !Tryd.prog.wantsStandIn u) = true := by kernel_rfl
        exact (show Tryd.prog.wantsStandIn t = false by simpa using List.all_eq_true.1 hall t hm)⟩)
    (by kernel_rfl)
end Go.Proofs.YtjefbfabigkeiaaDoor
