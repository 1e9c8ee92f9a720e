/- The helper of the statements of layer 2: the layer does something. -/
import Derived.Test.YtgmmkoahnednfaaWrj
import Derived.Test.YtgmmkoahnednfaaFrm
namespace Go.Proofs.Ytgmmkoahnednfaa
open Go.RowKit

set_option maxRecDepth 100000 in
theorem wpList_load_wordG {P : Program} {ops : Array Oper} {rest : List Oper} {o : Oper} {a : Act} {w : World} {Q : Exit → Act → World → Prop} (hgd : Region.wanted o (yielded ops a.tmps) = true) (ty e : TypeId) (x : Operand) (ho : o.op = .load ty x)
    (hu : P.underlying ty = some (.array 4 e)) (hi : (P.info? ty).map (·.size) = some 4) (g n : Nat) (hx : a.eval x = .pointer (some ⟨g, 0, none⟩)) (hg : Wd w g ty n)
    (h : wpList P ops Q rest (a.put o.dst (wv n)) w) : wpList P ops Q (o :: rest) a w := by
  refine wpList_step fun K hK => ?_
  rw [if_pos hgd]
  exact wp_load_row ty x ho g hx ty (wc n) (0, 0) _ hg hu rfl hi (hK _ _ h)

set_option maxRecDepth 100000 in
theorem agg_zero : Value.agg #[.int .u64 0, .int .u64 0, .int .u64 0, .int .u64 0] = wv 0 := rfl

set_option maxRecDepth 100000 in
set_option maxHeartbeats 1000000 in
theorem wakes_any (w : World) : Calls Try.prog 13 #[] w (RetT w) := by
  go_enter Try.func13, Try.ntmps13
  go_wp2_with fail
  refine (not_any 0 _ (by decide)).mono ?_
  rintro e w1 ⟨rfl, he1⟩
  have HE1 := Lib.hid he1
  clear he1
  rw [show M256 - 1 - 0 = 115792089237316195423570985008687907853269984665640564039457584007913129639935 from rfl]
  generalize hall : (115792089237316195423570985008687907853269984665640564039457584007913129639935 : Nat) = al
  have HAL := Lib.hid hall
  clear hall
  go_wp2_with fail
  refine (of_any 1 _ rfl _ (by decide)).mono ?_
  rintro e w2 ⟨rfl, he2⟩
  have HE2 := Lib.hid (HE1.out.trans he2)
  clear he2 HE1
  go_wp2_with fail
  refine (add_any al 1 _ (by rw [← HAL.out]; decide) (by decide)).mono ?_
  rintro e w3 ⟨rfl, he3⟩
  rw [show (al + 1) % M256 = 0 by rw [← HAL.out]; rfl, show ovr al 1 = true by rw [← HAL.out]; decide]
  have HE3 := Lib.hid (HE2.out.trans he3)
  clear he3 HE2
  go_wp2_with (refine wpList_store_word rfl rfl 27 (.tmp 1) (.tmp 10) rfl winfo w3.heap.size (wc 0) 0 rfl rfl (heap_alloc_new _ _) rfl ?_; intro w4 k4 g4)
  have HE4 := Lib.hid ((HE3.out.alloc _).grown g4 HE3.out.size)
  clear g4 HE3
  go_wp2_with fail
  refine (of_any 17 _ rfl _ (by decide)).mono ?_
  rintro e w5 ⟨rfl, he5⟩
  have HE5 := Lib.hid (HE4.out.trans he5)
  have k5 := k4.ext he5
  clear he5 HE4 k4
  go_wp2_with fail
  refine (of_any 5 _ rfl _ (by decide)).mono ?_
  rintro e w6 ⟨rfl, he6⟩
  have HE6 := Lib.hid (HE5.out.trans he6)
  have k6 := k5.ext he6
  clear he6 HE5 k5
  go_wp2_with fail
  refine (div_any 17 5 _ (by decide) (by decide)).mono ?_
  rintro e w7 ⟨rfl, he7⟩
  rw [show quoN 17 5 = 3 from rfl, show remN 17 5 = 2 from rfl]
  have HE7 := Lib.hid (HE6.out.trans he7)
  have k7 := k6.ext he7
  have hlt7 := k7.lt
  clear he7 HE6 k6
  go_wp2_with (first
    | (refine wpList_store_word rfl rfl 27 (.tmp 3) (.tmp 16) rfl winfo w7.heap.size (wc 0) 3 rfl rfl ((Cs.new _ _ _ _ rfl).alloc _) rfl ?_; intro w8 k8 g8)
    | (refine wpList_store_word rfl rfl 27 (.tmp 4) (.tmp 17) rfl winfo (w7.heap.size + 1) (wc 0) 2 rfl rfl ((Cs.new _ _ _ _ (by simp)).kept g8 (some_ne (by omega))) rfl ?_; intro w9 k9 g9)
    | ((with_reducible refine wpList_load_wordG ?_ 27 25 (.tmp 1) rfl Try.underlying27 winfo w3.heap.size 0 ?_ ?_ ?_); (exact rfl); (exact rfl); (exact ((((k7.cs.alloc _).alloc _).kept g8 (some_ne (by omega))).kept g9 (some_ne (by omega))).wd))
    | ((with_reducible refine wpList_load_wordG ?_ 27 25 (.tmp 3) rfl Try.underlying27 winfo w7.heap.size 3 ?_ ?_ ?_); (exact rfl); (exact rfl); (exact (k8.kept g9 (some_ne (by omega)))))
    | ((with_reducible refine wpList_load_wordG ?_ 27 25 (.tmp 4) rfl Try.underlying27 winfo (w7.heap.size + 1) 2 ?_ ?_ ?_); (exact rfl); (exact rfl); (exact k9))
    | ((with_reducible refine wpList_eql_word ?_ (.tmp 20) (.tmp 21) rfl 0 0 (by decide) (by decide) ?_ ?_ ?_); (exact rfl); (exact rfl); (exact rfl); rw [show ((0 : Nat) == 0) = true from rfl])
    | ((with_reducible refine wpList_eql_word ?_ (.tmp 25) (.tmp 26) rfl 3 3 (by decide) (by decide) ?_ ?_ ?_); (exact rfl); (exact rfl); (exact rfl); rw [show ((3 : Nat) == 3) = true from rfl])
    | ((with_reducible refine wpList_eql_word ?_ (.tmp 30) (.tmp 31) rfl 2 2 (by decide) (by decide) ?_ ?_ ?_); (exact rfl); (exact rfl); (exact rfl); rw [show ((2 : Nat) == 2) = true from rfl]))
  have HE9 := Lib.hid ((((HE7.out.alloc _).alloc _).grown g8 HE7.out.size).grown g9 (by have := HE7.out.size; omega))
  clear g8 g9 k7 k8 k9 HE7
  refine (of_any 258 _ rfl _ (by decide)).mono ?_
  rintro e w10 ⟨rfl, he10⟩
  have HE10 := Lib.hid (HE9.out.trans he10)
  clear he10 HE9
  go_wp2_with fail
  refine (text_any 258 _).mono ?_
  rintro e w11 ⟨rfl, he11⟩
  rw [show txtL 258 (List.range 64) = [49, 48, 50] by decide +kernel]
  have HE11 := Lib.hid (HE10.out.trans he11)
  clear he11 HE10
  go_wp2_with fail
  go_ret
  exact ⟨rfl, HE11.out⟩
end Go.Proofs.Ytgmmkoahnednfaa
