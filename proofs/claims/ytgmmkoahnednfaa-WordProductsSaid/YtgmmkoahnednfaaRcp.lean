/- The law WordProducts: products, and how many times a word is in another one, are as the document says, for every row of pairs. -/
import Derived.Test.YtgmmkoahnednfaaRcn
import Derived.Test.YtgmmkoahnednfaaRco
import Derived.Test.YtgmmkoahnednfaaRbe
import Derived.Test.YtgmmkoahnednfaaWrk
namespace Go.Proofs.Ytgmmkoahnednfaa
open Go.ChangeShapes Go.WideShapes Go.ChangeAt Go.RowKit

set_option maxRecDepth 100000 in
theorem pinfo : (Try.prog.info? 28).map (·.size) = some 8 := by kernel_rfl
set_option maxRecDepth 100000 in
theorem wpList_load_pair {ops : Array Oper} {rest : List Oper} {o : Oper} {a : Act} {W : World} {Q : Exit → Act → World → Prop} (hgd : o.guard = none) (x : Operand) (ho : o.op = .load 28 x) (g off m n : Nat) (hx : a.eval x = .pointer (some ⟨g, off, none⟩))
    (hr : W.rangeAt g off (pcs m n).toList) (h : wpList Try.prog ops Q rest (a.put o.dst (.agg (pcs m n))) W) : wpList Try.prog ops Q (o :: rest) a W :=
  wpList_load_mid hgd 28 x ho g off hx (pcs m n).toList _ hr Try.underlying28 rfl pinfo h
set_option maxRecDepth 100000 in
theorem wpList_store_pair {ops : Array Oper} {rest : List Oper} {o : Oper} {a : Act} {W : World} {Q : Exit → Act → World → Prop} (hgd : o.guard = none) (hd : o.dst = none) (x y : Operand) (ho : o.op = .store 28 x y) (g m n : Nat)
    (hx : a.eval x = .pointer (some ⟨g, 0, none⟩)) (hy : a.eval y = .agg (pcs m n)) (hg : Cs W g 28 #[.int .u64 0, .int .u64 0, .int .u64 0, .int .u64 0, .int .u64 0, .int .u64 0, .int .u64 0, .int .u64 0])
    (h : ∀ W', Cs W' g 28 (pcs m n) → W.grownBy W' (some g) → wpList Try.prog ops Q rest a W') : wpList Try.prog ops Q (o :: rest) a W := by
  have h' : ∀ W', Cs W' g 28 (pcs m n) → W.grownBy W' (some g) → wpList Try.prog ops Q rest (a.put o.dst undef) W' := by rw [hd]; exact h
  refine wpList_store_row hgd 28 x y ho g (pcs m n) hx hy 28 _ hg pinfo rfl (pcs_one m n) (h' _ ?_ ?_)
  · exact setRow_heap W g _ _ 28 (0, 0) hg
  · exact ⟨rfl, rfl, rfl, by simp [World.setRow], fun k _ hk => setRow_other W g k _ (fun e => hk (by simp [e]))⟩

set_option maxRecDepth 100000 in
theorem quoN_lt (a b : Nat) (ha : a < M256) : quoN a b < M256 := Nat.lt_of_le_of_lt (Nat.div_le_self _ _) ha
set_option maxRecDepth 100000 in
theorem remN_lt (a b : Nat) (ha : a < M256) : remN a b < M256 := by
  unfold remN
  split
  · decide
  · exact Nat.lt_of_le_of_lt (Nat.mod_le _ _) ha

set_option maxRecDepth 100000 in
set_option maxHeartbeats 4000000 in
theorem prods_walk (v : Value) (l : List (Nat × Nat)) (w : World) (h : Ps w v l) : Calls Try.prog 4 #[v] w (RetT w) := by
  obtain ⟨hlt0, A, c, rfl, hlc, hcm, hcell⟩ := h
  unfold maxLen at hcm
  have HC := Lib.hid hcell
  have HLT := Lib.hid hlt0
  clear hcell hlt0
  go_enter Try.func4, Try.ntmps4
  go_wp2_with fail
  refine (wakes_any _).mono ?_
  rintro e w1 ⟨rfl, he1⟩
  have HE1 := Lib.hid he1
  clear he1
  go_wp2_with fail
  go_loopw [3, 4, 5, 6, 7, 8, 9, 10, 11, 12, 17, 18, 19, 20, 21, 22, 23, 24, 25, 26, 27, 28, 29, 30, 31, 32, 33, 34, 35, 36, 37, 38, 39, 40, 41, 42, 43, 44, 45, 46, 47, 48, 49, 50, 51, 52, 53, 54, 55, 56, 57, 58, 59, 60, 61, 62, 63, 64, 65, 66, 67, 68, 69, 70, 71, 72, 73, 74] (fun _ _ _ _ _ _ _ _ _ _ i _ _ _ _ _ _ _ _ _ _ _ _ _ _ _ _ _ _ _ _ _ _ _ _ _ _ _ _ _ _ _ _ _ _ _ _ _ _ _ _ _ _ _ _ _ _ _ _ _ _ _ _ _ _ _ _ _ wr => ∃ k : Nat, k ≤ l.length ∧ k ≤ 4 ∧ i = .int .i64 k ∧ Hid (Ext w wr)) (fun _ _ _ _ _ _ _ _ _ _ i _ _ _ _ _ _ _ _ _ _ _ _ _ _ _ _ _ _ _ _ _ _ _ _ _ _ _ _ _ _ _ _ _ _ _ _ _ _ _ _ _ _ _ _ _ _ _ _ _ _ _ _ _ _ _ _ _ _ => l.length - (intOf i).toNat)
  case atStart => exact ⟨0, by omega, by omega, rfl, HE1⟩
  case round =>
    clear HE1
    obtain ⟨k, hk, hk12, rfl, he⟩ := hrel
    by_cases hlt : k < l.length
    · obtain ⟨b0, o0, rfl, hc⟩ := HC.out (by omega)
      obtain ⟨⟨a, b⟩, hp⟩ : ∃ p, l[k]? = some p := ⟨l[k], List.getElem?_eq_getElem hlt⟩
      obtain ⟨ha, hb⟩ := HLT.out (a, b) (List.mem_of_getElem? hp)
      have HR := Lib.hid (show wr.rangeAt b0 (o0 + k * 8) (pcs a b).toList from fun j u hu => he.out.cell (hc k (a, b) hp j u hu))
      clear hc hp
      dsimp only at ha hb
      by_cases h12 : k = 4
      · have hd : ((k : Int) == 4) = true := by rw [h12]; rfl
        clear h12
        go_wp2_with (first
        | ((with_reducible refine wpList_load_pair ?_ (.tmp 20) rfl b0 (o0 + k * 8) a b ?_ ?_ ?_); (exact rfl); (exact rfl); (exact HR.out))
        | ((with_reducible refine wpList_store_pair ?_ ?_ (.tmp 4) (.tmp 21) rfl wr.heap.size a b ?_ ?_ ?_ ?_); (exact rfl); (exact rfl); (exact rfl); (exact rfl); (exact Cs.new _ _ _ _ rfl); intro w4 kp gp; have KP := Lib.hid kp; have HS := (show Ks w [] w4 from ⟨fun x hx => (by cases hx), (he.out.alloc _).grown gp he.out.size⟩); clear kp gp)
        | fail)
        go_ret
        exact ⟨rfl, HS.2⟩
      · have hd : ((k : Int) == 4) = false := by simp only [beq_eq_false_iff_ne]; omega
        have hk13 : k + 1 ≤ 4 := by omega
        clear h12
        go_wp2_with (first
        | ((with_reducible refine wpList_load_pair ?_ (.tmp 20) rfl b0 (o0 + k * 8) a b ?_ ?_ ?_); (exact rfl); (exact rfl); (exact HR.out))
        | ((with_reducible refine wpList_store_pair ?_ ?_ (.tmp 4) (.tmp 21) rfl wr.heap.size a b ?_ ?_ ?_ ?_); (exact rfl); (exact rfl); (exact rfl); (exact rfl); (exact Cs.new _ _ _ _ rfl); intro w4 kp gp; have KP := Lib.hid kp; have HS := (show Ks w [] w4 from ⟨fun x hx => (by cases hx), (he.out.alloc _).grown gp he.out.size⟩); clear kp gp)
        | ((with_reducible refine wpList_load_half ?_ (.tmp 25) rfl wr.heap.size 0 a ?_ (pcs_fst KP.out) ?_); (exact rfl); (exact rfl))
        | ((with_reducible refine wpList_load_half ?_ (.tmp 27) rfl wr.heap.size 4 b ?_ (pcs_snd KP.out) ?_); (exact rfl); (exact rfl)))
        clear HR he
        refine (mul_w a b _ ha hb).mono ?_
        rintro e w5 ⟨rfl, _, he⟩
        have HS := HS.ext he
        have KP := Lib.hid (KP.out.ext he)
        clear he
        go_wp2_with (first
        | ((with_reducible refine wpList_store_word rfl rfl 27 (.tmp 5) (.tmp 30) rfl winfo (w5.heap.size) (wc 0) (mulN a b) ?_ ?_ ?_ ?_ ?_); (exact rfl); (exact rfl); (exact heap_alloc_new _ _); (exact rfl); intro w6 kz gz; have HS := HS.put gz kz; have KP := Lib.hid (KP.out.ext (((Ext.refl _).alloc _).grown gz (Nat.le_refl _))); clear kz gz)
        | ((with_reducible refine wpList_load_half ?_ (.tmp 33) rfl wr.heap.size 0 a ?_ (pcs_fst KP.out) ?_); (exact rfl); (exact rfl))
        | ((with_reducible refine wpList_load_half ?_ (.tmp 35) rfl wr.heap.size 4 b ?_ (pcs_snd KP.out) ?_); (exact rfl); (exact rfl)))
        refine (refMul_any a b _ ha hb).mono ?_
        rintro e w7 ⟨rfl, _, he⟩
        have HS := HS.ext he
        have KP := Lib.hid (KP.out.ext he)
        clear he
        go_wp2_with (first
        | ((with_reducible refine wpList_store_word rfl rfl 27 (.tmp 7) (.tmp 38) rfl winfo (w7.heap.size) (wc 0) (mulN a b) ?_ ?_ ?_ ?_ ?_); (exact rfl); (exact rfl); (exact heap_alloc_new _ _); (exact rfl); intro w8 kz gz; have HS := HS.put gz kz; have KP := Lib.hid (KP.out.ext (((Ext.refl _).alloc _).grown gz (Nat.le_refl _))); clear kz gz)
        | ((with_reducible refine wpList_load_half ?_ (.tmp 41) rfl wr.heap.size 0 a ?_ (pcs_fst KP.out) ?_); (exact rfl); (exact rfl))
        | ((with_reducible refine wpList_load_half ?_ (.tmp 43) rfl wr.heap.size 4 b ?_ (pcs_snd KP.out) ?_); (exact rfl); (exact rfl)))
        refine (div_any a b _ ha hb).mono ?_
        rintro e w9 ⟨rfl, he⟩
        have HS := HS.ext he
        have KP := Lib.hid (KP.out.ext he)
        clear he
        go_wp2_with (first
        | ((with_reducible refine wpList_store_word rfl rfl 27 (.tmp 9) (.tmp 46) rfl winfo w9.heap.size (wc 0) (quoN a b) ?_ ?_ ?_ ?_ ?_); (exact rfl); (exact rfl); (exact (Cs.new _ _ _ _ rfl).alloc _); (exact rfl); intro wz kz gz)
        | ((with_reducible refine wpList_store_word rfl rfl 27 (.tmp 10) (.tmp 47) rfl winfo (w9.heap.size + 1) (wc 0) (remN a b) ?_ ?_ ?_ ?_ ?_); (exact rfl); (exact rfl); (exact Cs.kept (Cs.new _ _ _ _ (by simp)) gz (some_ne (by omega))); (exact rfl); intro w10 ky gy; have HS := HS.put2 gz kz gy ky; have KP := Lib.hid (KP.out.ext ((((Ext.refl _).alloc _).alloc _).grown gz (Nat.le_refl _) |>.grown gy (by omega))); clear kz gz ky gy)
        | ((with_reducible refine wpList_load_half ?_ (.tmp 49) rfl wr.heap.size 0 a ?_ (pcs_fst KP.out) ?_); (exact rfl); (exact rfl))
        | ((with_reducible refine wpList_load_half ?_ (.tmp 51) rfl wr.heap.size 4 b ?_ (pcs_snd KP.out) ?_); (exact rfl); (exact rfl)))
        refine (refDiv_any a b _ ha hb).mono ?_
        rintro e w11 ⟨rfl, he⟩
        have HS := HS.ext he
        have KP := Lib.hid (KP.out.ext he)
        clear he
        go_upto_region 11 with (first
        | ((with_reducible refine wpList_store_word rfl rfl 27 (.tmp 11) (.tmp 54) rfl winfo w11.heap.size (wc 0) (quoN a b) ?_ ?_ ?_ ?_ ?_); (exact rfl); (exact rfl); (exact (Cs.new _ _ _ _ rfl).alloc _); (exact rfl); intro wz kz gz)
        | ((with_reducible refine wpList_store_word rfl rfl 27 (.tmp 12) (.tmp 55) rfl winfo (w11.heap.size + 1) (wc 0) (remN a b) ?_ ?_ ?_ ?_ ?_); (exact rfl); (exact rfl); (exact Cs.kept (Cs.new _ _ _ _ (by simp)) gz (some_ne (by omega))); (exact rfl); intro w12 ky gy; have HS := HS.put2 gz kz gy ky; have KP := Lib.hid (KP.out.ext ((((Ext.refl _).alloc _).alloc _).grown gz (Nat.le_refl _) |>.grown gy (by omega))); clear kz gz ky gy))
        go_wp2_with (first
          | ((with_reducible refine wpList_load_wordG ?_ 27 25 (.tmp 5) rfl Try.underlying27 winfo (w5.heap.size) (mulN a b) ?_ ?_ ?_); (exact rfl); (exact rfl); (exact HS.at (w5.heap.size) (mulN a b) (by simp)))
          | ((with_reducible refine wpList_load_wordG ?_ 27 25 (.tmp 7) rfl Try.underlying27 winfo (w7.heap.size) (mulN a b) ?_ ?_ ?_); (exact rfl); (exact rfl); (exact HS.at (w7.heap.size) (mulN a b) (by simp)))
          | ((with_reducible refine wpList_load_wordG ?_ 27 25 (.tmp 9) rfl Try.underlying27 winfo (w9.heap.size) (quoN a b) ?_ ?_ ?_); (exact rfl); (exact rfl); (exact HS.at (w9.heap.size) (quoN a b) (by simp)))
          | ((with_reducible refine wpList_load_wordG ?_ 27 25 (.tmp 11) rfl Try.underlying27 winfo (w11.heap.size) (quoN a b) ?_ ?_ ?_); (exact rfl); (exact rfl); (exact HS.at (w11.heap.size) (quoN a b) (by simp)))
          | ((with_reducible refine wpList_load_wordG ?_ 27 25 (.tmp 10) rfl Try.underlying27 winfo (w9.heap.size + 1) (remN a b) ?_ ?_ ?_); (exact rfl); (exact rfl); (exact HS.at (w9.heap.size + 1) (remN a b) (by simp)))
          | ((with_reducible refine wpList_load_wordG ?_ 27 25 (.tmp 12) rfl Try.underlying27 winfo (w11.heap.size + 1) (remN a b) ?_ ?_ ?_); (exact rfl); (exact rfl); (exact HS.at (w11.heap.size + 1) (remN a b) (by simp)))
          | ((with_reducible refine wpList_neq_word ?_ (.tmp 56) (.tmp 57) rfl (mulN a b) (mulN a b) (mulN_lt a b) (mulN_lt a b) ?_ ?_ ?_); (exact rfl); (exact rfl); (exact rfl); rw [show (mulN a b != mulN a b) = false from bne_self_eq_false _])
          | ((with_reducible refine wpList_neq_word ?_ (.tmp 65) (.tmp 66) rfl (quoN a b) (quoN a b) (quoN_lt a b ha) (quoN_lt a b ha) ?_ ?_ ?_); (exact rfl); (exact rfl); (exact rfl); rw [show (quoN a b != quoN a b) = false from bne_self_eq_false _])
          | ((with_reducible refine wpList_neq_word ?_ (.tmp 70) (.tmp 71) rfl (remN a b) (remN a b) (remN_lt a b ha) (remN_lt a b ha) ?_ ?_ ?_); (exact rfl); (exact rfl); (exact rfl); rw [show (remN a b != remN a b) = false from bne_self_eq_false _]))
        have HE := Lib.hid HS.2
        clear HS KP
        go_wp2_with fail
        go_roundw
        case rel => exact ⟨k + 1, by omega, by omega, by go_num, HE⟩
        case measure => simp [intOf]; omega
    · go_wp2_with fail
      go_ret
      exact ⟨rfl, he.out⟩

set_option maxRecDepth 100000 in
theorem prods_told (W : World) (args : Array Value) (h : Told Try.f4 W args) : Calls Try.prog 4 args W (RetT W) := by
  obtain ⟨H, enc, base, ds, p, hval, hA⟩ := h
  rw [Try.params4] at hA hval
  obtain ⟨v0, d0, rfl, rfl, h0⟩ := trodAll_one hA
  obtain ⟨l, hl⟩ := ps_came (hval 0 _ v0 rfl rfl) h0
  exact prods_walk v0 l W hl

set_option maxRecDepth 100000 in
theorem prods_spec (H : Type) : ∀ ds : List (DataW H), ds.length = Try.f4.params.toList.length → Rows.wordProductsSpec.fn H ds = { results := [.lit (.bool true)], args := ds }
  | [_], _ => rfl
  | [], h | _ :: _ :: _, h => by rw [Try.params4] at h; simp at h

set_option maxRecDepth 100000 in
theorem wordProducts_holds : Rows.WordProductsSaid :=
  OpenClaim.holds_of_wide 4 Try.f4 rfl rfl rfl rfl rfl rfl rfl ⟨rfl, rfl, rfl, rfl, rfl⟩ rfl rfl rfl rfl rfl (by kernel_rfl) Try.func4 (by kernel_rfl)
    (of_decide_eq_true (by kernel_rfl)) (by unfold Func.isWrapper; first | (rw [if_pos (by decide +kernel)]; kernel_rfl) | (rw [if_neg (by decide +kernel)]; exact ⟨rfl, rfl⟩))
    (fun os started H enc _ => law_lifted started (by kernel_rfl) Try.func4 rfl rfl (prods_spec H) (of_decide_eq_true (by kernel_rfl))
      (ChangeSpec.witness6 (enc := enc) (C := Try.checked) false ⟨#[], #[.slice none 0 0], []⟩ 8 (by kernel_rfl) (by kernel_rfl) (by kernel_rfl) (by kernel_rfl)) prods_told)
end Go.Proofs.Ytgmmkoahnednfaa
