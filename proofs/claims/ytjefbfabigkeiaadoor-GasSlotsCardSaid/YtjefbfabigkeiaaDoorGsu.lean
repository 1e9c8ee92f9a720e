/- From a walk to the tied row, and its card; package gas: what the laws share: wakes. -/
import Derived.Test.YtjefbfabigkeiaaDoorGsr
import Derived.Test.YtjefbfabigkeiaaDoorGst
import Derived.LaidSub
import Derived.Test.YtjefbfabigkeiaaDoorTie
import Derived.Test.YtjefbfabigkeiaaDoorCards
import Derived.SevenTiedAt
namespace Go.Proofs.YtjefbfabigkeiaaDoor
open Go.ChangeShapes Go.WideShapes Go.ChangeAt Go.RowKit

/-- All variables that the rows of this seat list. -/
def laidS : List (String × DataW Unit) := [("math/bits.deBruijn32tab", Rows.laid_math_bits_deBruijn32tab), ("math/bits.deBruijn64tab", Rows.laid_math_bits_deBruijn64tab), ("internal/strconv.uint64pow10", Rows.laid_internal_strconv_uint64pow10), ("sheafer/code.rows", Rows.laid_sheafer_code_rows), ("sheafer/code.families", Rows.laid_sheafer_code_families)]
set_option maxRecDepth 100000 in
theorem laidS_two : laidS.filter (fun x => x.1 == "sheafer/code.rows" || x.1 == "sheafer/code.families") = laid2 := by
  simp [laidS, laid2]
set_option maxRecDepth 100000 in
theorem tb_of_laidS {W : World} (h : laidMetH Tryd.prog laidS W) : Tb W := by
  have h2 := laidMetH.filter (fun x => x.1 == "sheafer/code.rows" || x.1 == "sheafer/code.families") h
  rw [laidS_two] at h2
  exact tb_of_laid h2
set_option maxRecDepth 100000 in
theorem door_met (os : Os) (args : Array Value) : laidMetH Tryd.prog laidS ((World.doorLaid Tryd.prog 400 os).forCall (fun _ _ => 0) ⟨#[], args, []⟩).memory :=
  laidMetH_of_parts3 (fuel := 8) (laidMet_of_run' 8 (by kernel_rfl) (by kernel_rfl)) (by kernel_rfl) (by kernel_rfl)

set_option maxRecDepth 100000 in
theorem law_lifted_t {F : FuncId} {fn : Func} {s : ChangeSpec} {conds : List PathCond} {os : Os} (started : os.Started) {H : Type} {enc : TypeId × Value → H}
    (noInit : Tryd.checked.prog.inits.idxOf? F = none) (hfn : Tryd.checked.prog.funcs[F]? = some fn) (hvars : s.vars = [])
    (hrt : fn.resultTypes = #[4]) (hspec : ∀ ds : List (DataW H), ds.length = fn.params.toList.length → s.fn H ds = { results := [.lit (.bool true)], args := ds })
    (hread : ∀ t ∈ fn.params.toList, Tryd.prog.readableRec t = true ∧ t < Tryd.prog.types.size)
    (witness : ∃ (w : World) (tape : Tape) (i : Input), w.os = os ∧ (w.forCall tape i).Shaped Tryd.checked.prog ∧ i.vars = [] ∧ Input.okWide Tryd.checked.prog (w.forCall tape i) .any w.heap.size F i ∧
      ((s.pre enc Tryd.checked.prog fn conds false (w.forCall tape i).memory i.args ∧ laidMetH Tryd.prog laidS (w.forCall tape i).memory) ∧ sizedMet enc Tryd.checked.prog fn (OpenSpec.ofChange s) false (w.forCall tape i).memory i.args) ∧ Assume.holds {} Tryd.checked.prog (lone (Frame.enter Tryd.checked.prog F i.args .normal) [] (w.forCall tape i)))
    (walk : ∀ (W : World) (args : Array Value), Told fn W args → Tb W → Calls Tryd.prog F args W (RetT W)) :
    ReturnsInHanded {} Tryd.checked os F .any (fun w args => (s.pre enc Tryd.prog fn conds false w args ∧ laidMetH Tryd.prog laidS w) ∧ sizedMet enc Tryd.prog fn (OpenSpec.ofChange s) false w args) (s.post enc Tryd.prog fn false true false false) := by
  refine returnsInHanded_of_change_and (C := Tryd.checked) (X := fun w _ => laidMetH Tryd.prog laidS w) (fun _ _ _ hh h => h.of_heap hh) own_knob started noInit hfn witness ?_
  intro W base args ds gs before hval hW _ _ hL _
  have hW' := hW
  obtain ⟨p, q, hA, hV, rfl, hfz, hnd⟩ := hW
  rw [hvars] at hV
  obtain ⟨rfl, rfl⟩ := trodVars_none hV
  refine (walk W args ⟨H, enc, base, ds, p, hval, hA⟩ (tb_of_laidS hL)).mono fun e W' ⟨he, bel⟩ => ?_
  subst he
  have hl := trodAll_length _ _ _ _ hA
  have hs := hspec ds hl
  refine ⟨_, rfl, ds, [], _, [], p, [], hW', ?_, ?_, ?_, bel.frame _, fun h => by cases h⟩
  · rw [List.append_nil, hs, hrt]
    exact trodAll_mk1 (shut_bool Tryd.underlying4 _)
  · rw [List.append_nil, hs]
    exact trodAll_ext bel _ _ _ _ hread hA
  · rw [List.append_nil, hs, hvars]
    rfl

set_option maxRecDepth 100000 in
theorem Tb.two {W W' : World} (h : Tb W) (he : Ext W W') : Tb W' := h.ext he
set_option maxRecDepth 100000 in
set_option maxHeartbeats 1000000 in
theorem wakes_G (w : World) (hT : Tb w) : Calls Tryd.prog 11 #[] w (RetT w) := by
  have HT := Lib.hid hT
  clear hT
  go_enter Tryd.func11, Tryd.ntmps11
  go_wp2_with fail
  refine (baseG_any 1 w HT.out (by decide)).mono ?_
  rintro e w1 ⟨rfl, HE1⟩
  rw [show baseG 1 = 3 by decide +kernel, show baseE 1 = 0 by decide +kernel]
  go_wp2_with fail
  refine (baseG_any 12 w1 (HT.out.ext HE1) (by decide)).mono ?_
  rintro e w2 ⟨rfl, HE2⟩
  rw [show baseG 12 = 0 by decide +kernel, show baseE 12 = 220 by decide +kernel]
  go_wp2_with fail
  have hG : Gs (w2.alloc (.cells #[.int .u64 3, .int .u64 4] 24)) (.slice (some ⟨w2.heap.size, 0, none⟩) 2 2) [3, 4] :=
    ⟨_, _, rfl, Nat.le_refl _, by decide, fun _ => ⟨_, 0, rfl, fun i hi => by
      rw [Nat.zero_add, World.cell?_alloc_new]
      match i, hi with
      | 0, _ => exact ⟨rfl, by decide⟩
      | 1, _ => exact ⟨rfl, by decide⟩⟩⟩
  have HE3 := Lib.hid ((HE1.trans HE2).alloc (.cells #[.int .u64 3, .int .u64 4] 24))
  generalize (w2.alloc (.cells #[.int .u64 3, .int .u64 4] 24)) = w3 at *
  refine (spendG_any 10 _ [3, 4] w3 hG (by decide)).mono ?_
  rintro e w4 ⟨rfl, rfl⟩
  rw [show leftG 10 [3, 4] = 3 by decide, show okG 10 [3, 4] = true by decide]
  go_wp2_with fail
  refine (memG_any 0 1024 w4 (by decide) (by decide)).mono ?_
  rintro e w5 ⟨rfl, rfl⟩
  rw [show memG 0 1024 = 98 by decide]
  go_wp2_with fail
  refine (partG_any 640 w5 (by decide)).mono ?_
  rintro e w6 ⟨rfl, rfl⟩
  rw [show partG 640 = 630 by decide]
  go_wp2
  go_ret
  exact ⟨rfl, HE3.out⟩
end Go.Proofs.YtjefbfabigkeiaaDoor
