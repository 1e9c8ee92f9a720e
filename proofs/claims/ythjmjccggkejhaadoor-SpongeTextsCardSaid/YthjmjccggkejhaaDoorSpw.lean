/- SpongeTexts: the row and its card. -/
import Derived.Test.YthjmjccggkejhaaDoorSpv
namespace Go.Proofs.YthjmjccggkejhaaDoor
open Go.ChangeShapes Go.WideShapes Go.ChangeAt Go.RowKit

set_option maxRecDepth 100000 in
theorem u8_wf (z : Int) (hz : (Lit.int .u8 z).wf = true) : 0 ≤ z ∧ z < ((256 : Nat) : Int) := by
  have h : 0 ≤ z ∧ z ≤ 255 := by simpa [Lit.wf, IntKind.min, IntKind.max, IntKind.signed, IntKind.bits] using hz
  omega
set_option maxRecDepth 100000 in
theorem texts_told (W : World) (args : Array Value) (h : Told Tryd.f5 W args) (ht : Tb W) : Calls Tryd.prog 5 args W (RetT W) := by
  obtain ⟨H, enc, base, ds, p, hval, hA⟩ := h
  rw [Tryd.params5] at hA hval
  obtain ⟨v0, v1, d0, d1, p0, p1, ha, rfl, rfl, h0, h1⟩ := trodAll_two hA
  obtain rfl : args = #[v0, v1] := by apply Array.toList_inj.1; rw [ha]
  obtain ⟨l, hl⟩ := as_came (N := 32) (M := 256) Tryd.underlying42 Tryd.underlying27 Tryd.underlying5 (by kernel_rfl) (by kernel_rfl) (by decide) u8_wf (hval 0 _ _ rfl rfl) h0
  obtain ⟨ss, hs⟩ := ss_came (hval 1 _ _ rfl rfl) h1
  exact texts_any v0 v1 l ss W hl hs ht

set_option maxRecDepth 100000 in
theorem texts_spec (H : Type) : ∀ ds : List (DataW H), ds.length = Tryd.f5.params.toList.length → Rows.spongeTextsSpec.fn H ds = { results := [.lit (.bool true)], args := ds }
  | [_, _], _ => rfl
  | [], h | [_], h | _ :: _ :: _ :: _, h => by rw [Tryd.params5] at h; simp at h

set_option maxRecDepth 100000 in
theorem spongeTexts_holds : Rows.SpongeTextsSaid :=
  OpenClaim.holds_of_wide 5 Tryd.f5 rfl rfl rfl rfl rfl rfl rfl ⟨rfl, rfl, rfl, rfl, rfl⟩ rfl rfl rfl rfl rfl (by kernel_rfl) Tryd.func5 (by kernel_rfl)
    (of_decide_eq_true (by kernel_rfl)) (by unfold Func.isWrapper; first | (rw [if_pos (by decide +kernel)]; kernel_rfl) | (rw [if_neg (by decide +kernel)]; exact ⟨rfl, rfl⟩))
    (fun os started H enc _ => law_lifted_t started (by kernel_rfl) Tryd.func5 rfl rfl (texts_spec H) (of_decide_eq_true (by kernel_rfl))
      (ChangeSpec.witness_shaped (enc := enc) (C := Tryd.checked) (os := os) (X := fun w _ => laidMetH Tryd.prog laid2 w) false (World.doorLaid Tryd.prog 400 os) #[.slice none 0 0, .slice none 0 0] 8 rfl (World.shaped_of_RefB (by kernel_rfl) (by kernel_rfl)) (by kernel_rfl) (by kernel_rfl) (by kernel_rfl) (door_met os _)) texts_told)

set_option maxRecDepth 100000 in
theorem spongeTexts_card : Rows.SpongeTextsCardSaid :=
  Claim7.holds_tied_plain_at .later [] [.data, .data] true (true, "6022e3c362c65ddb5e4c18bedef3ddafca15e789426a41385729bbd240e05e94") false
    spongeTexts_holds (fun _ h => by cases h) (by kernel_rfl) (fun _ h => by cases h) spongeTexts_row_tie rfl ⟨rfl, rfl⟩ (by kernel_rfl) rfl
    (fun f fn hf hfn => by
      obtain rfl : f = 5 := Option.some.inj ((show Tryd.prog.funcNamed "sheafer/sheaferlaw03.SpongeTexts" = some 5 by kernel_rfl).symm.trans hf) |>.symm
      obtain rfl : fn = Tryd.f5 := (Option.some.inj (Tryd.func5.symm.trans hfn)).symm
      exact ⟨by kernel_rfl, fun j t ht => by
        rw [Tryd.params5] at ht
        have hm : t ∈ [42, 43] := by simpa using Array.mem_of_getElem? ht
        have hall : ([42, 43].all fun u => !Tryd.prog.wantsStandIn u) = true := by kernel_rfl
        exact (show Tryd.prog.wantsStandIn t = false by simpa using List.all_eq_true.1 hall t hm)⟩)
    (by kernel_rfl)
end Go.Proofs.YthjmjccggkejhaaDoor
