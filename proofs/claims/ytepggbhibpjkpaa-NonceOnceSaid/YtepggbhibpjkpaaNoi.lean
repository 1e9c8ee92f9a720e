/- Package nonce: the layer does something. -/
import Derived.Test.YtepggbhibpjkpaaNoh
import Derived.Test.YtepggbhibpjkpaaWrl
namespace Go.Proofs.Ytepggbhibpjkpaa
open Go.ChangeShapes Go.WideShapes Go.ChangeAt Go.RowKit Go.Shelf

set_option maxRecDepth 100000 in
theorem wake_use : usE [] 20 0 = 0 ∧ usL [] 20 0 = [⟨20, 0, 1⟩] := ⟨by kernel_rfl, by kernel_rfl⟩
set_option maxRecDepth 100000 in
theorem wake_two : usE [⟨20, 0, 1⟩] 20 0 = 181 := by kernel_rfl
set_option maxRecDepth 100000 in
theorem wake_next : nxE [⟨20, 0, 1⟩] 20 0 = 0 ∧ nxW [⟨20, 0, 1⟩] 20 0 = 1 := ⟨by kernel_rfl, by kernel_rfl⟩
set_option maxRecDepth 100000 in
theorem wc_lit0 : (.agg #[.int .u64 0, .int .u64 0, .int .u64 0, .int .u64 0] : Value) = wv 0 := rfl
set_option maxRecDepth 100000 in
set_option maxHeartbeats 4000000 in
theorem wakesN_any (w : World) : Calls Try.prog 12 #[] w fun e w' => e = .returned (.bool true) ∧ Ext w w' := by
  go_enter Try.func12, Try.ntmps12
  go_wp2_with fail
  refine (useN_any (.slice none 0 0) [] 20 0 _ (Nns.nil _) (by decide) (by decide)).mono ?_
  rintro e w1 ⟨v1, rfl, ho, he⟩
  have HE1 := Lib.hid he
  have HO1 := Lib.hid ho
  rw [wake_use.2] at HO1
  rw [wake_use.1]
  clear ho he
  obtain ⟨A1, c1, rfl, k1, k2⟩ := HO1.out.sl
  go_wp2_with fail
  refine (useN_any _ [⟨20, 0, 1⟩] 20 0 _ HO1.out.nns (by decide) (by decide)).mono ?_
  rintro e w2 ⟨v2, rfl, ho, he⟩
  have HE2 := Lib.hid (HE1.out.trans he)
  have HO2 := Lib.hid (HO1.out.ext he)
  rw [wake_two]
  clear ho he HE1 HO1
  go_wp2_with fail
  refine (nextN_any _ [⟨20, 0, 1⟩] 20 0 _ HO2.out.nns (by decide) (by decide)).mono ?_
  rintro e w3 ⟨rfl, he⟩
  have HE3 := Lib.hid (HE2.out.trans he)
  have HSZ := Lib.hid HE3.out.size
  rw [wake_next.1, wake_next.2]
  clear he HE2 HO2
  go_upto_region 4 with (first
    | ((with_reducible refine wpList_store_word ?_ ?_ 29 (.tmp 5) (.tmp 22) ?_ winfo w3.heap.size (wc 0) 1 ?_ ?_ ?_ ?_ ?_); (exact rfl); (exact rfl); (exact rfl); (exact rfl); (exact rfl); (exact (Cs.new _ _ _ _ rfl)); (exact rfl); intro w9 k9 g9; have K9 := Lib.hid (Cs.rg k9); have G9 := Lib.hid g9; clear k9 g9))
  go_wp2_with (first
    | ((with_reducible refine wpList_load_wordIn ?_ (.tmp 5) ?_ w3.heap.size 0 1 ?_ ?_ ?_); (exact rfl); (exact rfl); (exact rfl); (exact K9.out))
    | ((with_reducible refine wpList_eql_word ?_ (.tmp 35) (.tmp 36) ?_ 1 1 (by decide) (by decide) ?_ ?_ ?_); (exact rfl); (exact rfl); (exact rfl); (exact rfl)))
  go_ret
  exact ⟨rfl, (HE3.out.alloc (.cells (wc 0) 29)).grown G9.out HSZ.out⟩
end Go.Proofs.Ytepggbhibpjkpaa
