/- GasBases: what operations cost in any case is as the document says. No condition: whatever row of bytes. -/
import Derived.Test.YtjefbfabigkeiaaDoorGsu
namespace Go.Proofs.YtjefbfabigkeiaaDoor
open Go.ChangeShapes Go.WideShapes Go.ChangeAt Go.RowKit Go.Shelf

set_option maxRecDepth 100000 in
set_option maxHeartbeats 1000000 in
theorem bases_any (v : Value) (l : List UInt8) (w : World) (hT : Tb w) (hv : Bs w v l) : Calls Tryd.prog 3 #[v] w (RetT w) := by
  obtain ⟨A, cp, rfl, h1, h2, h3⟩ := hv
  have HC := Lib.hid h3
  have HT := Lib.hid hT
  have hlen : l.length ≤ 9223372036854775807 := by unfold maxLen at h2; omega
  clear h3 h1 h2 hT
  go_enter Tryd.func3, Tryd.ntmps3
  go_wp2_with fail
  refine (wakes_G w HT.out).mono ?_
  rintro e w1 ⟨rfl, hE1⟩
  have HE1 := Lib.hid hE1
  clear hE1
  go_wp2_with fail
  go_loopw [13] (fun iv wr => ∃ k : Nat, k ≤ l.length ∧ k ≤ 300 ∧ iv = .int .i64 k ∧ Hid (Ext w wr)) (fun iv _ => l.length - (intOf iv).toNat)
  case atStart => exact ⟨0, Nat.zero_le _, Nat.zero_le _, rfl, HE1⟩
  case round =>
    obtain ⟨k, hk, hk3, rfl, HX⟩ := hrel
    by_cases hlt : k < l.length
    · obtain ⟨b, o, rfl, hcl⟩ := HC.out (by omega)
      have hck := HX.out.cell (hcl k hlt)
      clear hcl
      have hd : decide ((k : Int) < l.length) = true := decide_eq_true (by omega)
      have hxlt : (l.getD k 0).toNat < 256 := UInt8.toNat_lt _
      unfold bv at hck
      generalize (l.getD k 0).toNat = x at *
      by_cases h300 : k = 300
      · have hb : ((k : Int) == 300) = true := by rw [h300]; rfl
        clear h300
        go_wp2
        go_ret
        exact ⟨rfl, HX.out⟩
      · have hb : ((k : Int) == 300) = false := by simp; omega
        go_wp2_with fail
        refine (baseG_any x _ (HT.out.ext HX.out) hxlt).mono ?_
        rintro e w2 ⟨rfl, hE2⟩
        go_wp2_with fail
        refine (refBaseG_any x w2 hxlt).mono ?_
        rintro e w3 ⟨rfl, hE3⟩
        have HX3 := Lib.hid ((HX.out.trans hE2).trans hE3)
        have hq := refBG_eq x hxlt
        have hB : baseE x = if (ofF x).isSome then 0 else 220 := rfl
        have hB2 : baseG x = if (ofF x).isSome then ttV tierL (tierG x) else 0 := rfl
        rcases Bool.eq_false_or_eq_true (ofF x).isSome with hs | hs
        · rw [hs, if_pos rfl] at hq hB
          rw [hq, hB]
          clear hq hB hB2 hs
          generalize baseG x = y at *
          go_wp2
          exact ⟨⟨k + 1, by omega, by omega, rfl, HX3⟩, by simp [intOf]; omega⟩
        · rw [hs, if_neg Bool.false_ne_true] at hq hB hB2
          rw [hq, hB, hB2]
          clear hq hB hB2 hs
          go_wp2
          exact ⟨⟨k + 1, by omega, by omega, rfl, HX3⟩, by simp [intOf]; omega⟩
    · have hd : decide ((k : Int) < l.length) = false := decide_eq_false (by omega)
      go_wp2
      go_ret
      exact ⟨rfl, HX.out⟩
set_option maxRecDepth 100000 in
theorem bases_told (W : World) (args : Array Value) (h : Told Tryd.f3 W args) (ht : Tb W) : Calls Tryd.prog 3 args W (RetT W) := by
  obtain ⟨H, enc, base, ds, p, hval, hA⟩ := h
  rw [Tryd.params3] at hA hval
  obtain ⟨v0, d0, rfl, rfl, h0⟩ := trodAll_one hA
  obtain ⟨l, hl⟩ := bs_came (hval 0 _ _ rfl rfl) h0
  exact bases_any v0 l W ht hl
set_option maxRecDepth 100000 in
theorem bases_spec (H : Type) : ∀ ds : List (DataW H), ds.length = Tryd.f3.params.toList.length → Rows.gasBasesSpec.fn H ds = { results := [.lit (.bool true)], args := ds }
  | [_], _ => rfl
  | [], h | _ :: _ :: _, h => by rw [Tryd.params3] at h; simp at h

set_option maxRecDepth 100000 in
theorem gasBases_holds : Rows.GasBasesSaid :=
  OpenClaim.holds_of_wide 3 Tryd.f3 rfl rfl rfl rfl rfl rfl rfl ⟨rfl, rfl, rfl, rfl, rfl⟩ rfl rfl rfl rfl rfl (by kernel_rfl) Tryd.func3 (by kernel_rfl)
    (of_decide_eq_true (by kernel_rfl)) (by unfold Func.isWrapper; first | (rw [if_pos (by decide +kernel)]; kernel_rfl) | (rw [if_neg (by decide +kernel)]; exact ⟨rfl, rfl⟩))
    (fun os started H enc _ => law_lifted_t started (by kernel_rfl) Tryd.func3 rfl rfl (bases_spec H) (of_decide_eq_true (by kernel_rfl))
      (ChangeSpec.witness_shaped (enc := enc) (C := Tryd.checked) (os := os) (X := fun w _ => laidMetH Tryd.prog laidS w) false (World.doorLaid Tryd.prog 400 os) #[.slice none 0 0] 8 rfl (World.shaped_of_RefB (by kernel_rfl) (by kernel_rfl)) (by kernel_rfl) (by kernel_rfl) (by kernel_rfl) (door_met os _)) bases_told)

set_option maxRecDepth 100000 in
theorem gasBases_card : Rows.GasBasesCardSaid :=
  Claim7.holds_tied_plain_at .later [] [.data, .data, .data, .wider, .data] true (true, "1db432f97302d9ccf523489c3c5a307203f9cae2718eace3ef5e825b493cdc87") false
    gasBases_holds (fun _ h => by cases h) (by kernel_rfl) (fun _ h => by cases h) gasBases_row_tie rfl ⟨rfl, rfl⟩ (by kernel_rfl) rfl
    (fun f fn hf hfn => by
      obtain rfl : f = 3 := Option.some.inj ((show Tryd.prog.funcNamed "sheafer/sheaferlaw12.GasBases" = some 3 by kernel_rfl).symm.trans hf) |>.symm
      obtain rfl : fn = Tryd.f3 := (Option.some.inj (Tryd.func3.symm.trans hfn)).symm
      exact ⟨by kernel_rfl, fun j t ht => by
        rw [Tryd.params3] at ht
        have hm : t ∈ [22] := by simpa using Array.mem_of_getElem? ht
        have hall : ([22].all fun u => !Tryd.prog.wantsStandIn u) = true := by kernel_rfl
        exact (show Tryd.prog.wantsStandIn t = false by simpa using List.all_eq_true.1 hall t hm)⟩)
    (by kernel_rfl)
end Go.Proofs.YtjefbfabigkeiaaDoor
