/- StateAccounts: which accounts may be, for every row of them. -/
import Derived.Test.YtiojfpdjnblkhaaQStt
import Derived.Deep.Strs
import Derived.Test.YtiojfpdjnblkhaaQFrm
namespace Go.Proofs.Ytiojfpdjnblkhaa
open Go.ChangeShapes Go.WideShapes Go.ChangeAt Go.RowKit Go.Shelf

set_option maxRecDepth 100000 in
theorem u64_trod {H : Type} {enc : TypeId × Value → H} {W : World} {f : Nat → Bool} {b : Bool} {fuel : Nat} {t : TypeId} {cs : List Value} {x : DataW H × List MemPlace} (ht : Try.prog.underlying t = some (.int .u64)) (h : DataW.trod enc Try.prog W 0 f b fuel t cs = some x) : ∃ z : Nat, z < 18446744073709551616 ∧ cs = [.int .u64 (z : Nat)] := by
 obtain ⟨z, e0, _, wz⟩ := DataW.trod_int ht h
 have hb : 0 ≤ z ∧ z ≤ 18446744073709551615 := by simpa [Lit.wf, IntKind.min, IntKind.max, IntKind.signed, IntKind.bits] using wz
 exact ⟨z.toNat, by omega, by rw [e0, Int.toNat_of_nonneg hb.1]⟩
set_option maxRecDepth 100000 in
theorem pair_trod {H : Type} {enc : TypeId × Value → H} {W : World} {f : Nat → Bool} {b : Bool} {fuel : Nat} {cs : List Value} {x : DataW H × List MemPlace} (h : DataW.trod enc Try.prog W 0 f b fuel 33 cs = some x) : ∃ z, PkR cs z := by
 obtain ⟨y0, y1, n, _, hl, h0, h1⟩ := trod_struct2 Try.underlying33 h
 have hC : Try.prog.cellsOf 33 = 8 := by kernel_rfl
 have hW : Try.prog.cellsOf 31 = 4 := by kernel_rfl
 rw [hC] at hl
 dsimp only at h0 h1
 rw [hW] at h0 h1
 obtain ⟨z0, hz0, hl0, hzc0⟩ := word_trod h0
 obtain ⟨z1, hz1, hl1, hzc1⟩ := word_trod h1
 have e0 := wc_list z0 _ hl0 hzc0
 have e1 := wc_list z1 _ hl1 hzc1
 refine ⟨(z0, z1), hz0, hz1, ?_⟩
 have e : cs = (cs.drop 0).take 4 ++ (cs.drop 4).take 4 := by
  rw [List.take_of_length_le (show (cs.drop 4).length ≤ 4 by rw [List.length_drop]; omega), show cs.drop 4 = (cs.drop 0).drop 4 by rw [List.drop_drop], List.take_append_drop, List.drop_zero]
 rw [e, e0, e1]
 rfl
set_option maxRecDepth 100000 in
theorem ac_trod {H : Type} {enc : TypeId × Value → H} {W : World} {f : Nat → Bool} {b : Bool} {fuel : Nat} {cs : List Value} {x : DataW H × List MemPlace} (h : DataW.trod enc Try.prog W 0 f b fuel 37 cs = some x) : ∃ z, AcR W cs z := by
 obtain ⟨xs, n, _, _, hl, hlen, hf⟩ := DataW.trod_struct Try.underlying37 h
 have hC : Try.prog.cellsOf 37 = 8 := by kernel_rfl
 have hA : Try.prog.cellsOf 29 = 1 := by kernel_rfl
 have hU : Try.prog.cellsOf 28 = 1 := by kernel_rfl
 have hW : Try.prog.cellsOf 31 = 4 := by kernel_rfl
 have hS : Try.prog.cellsOf 34 = 1 := by kernel_rfl
 have hP : Try.prog.cellsOf 35 = 1 := by kernel_rfl
 rw [hC] at hl
 match xs, hlen with
 | [y0, y1, y2, y3, y4], _ =>
  have h0 : DataW.trod enc Try.prog W 0 f b n 29 ((cs.drop 0).take (Try.prog.cellsOf 29)) = some y0 := by simpa using hf 0 _ rfl
  have h1 : DataW.trod enc Try.prog W 0 f b n 31 ((cs.drop 1).take (Try.prog.cellsOf 31)) = some y1 := by simpa using hf 1 _ rfl
  have h2 : DataW.trod enc Try.prog W 0 f b n 28 ((cs.drop 5).take (Try.prog.cellsOf 28)) = some y2 := by simpa using hf 2 _ rfl
  have h3 : DataW.trod enc Try.prog W 0 f b n 34 ((cs.drop 6).take (Try.prog.cellsOf 34)) = some y3 := by simpa using hf 3 _ rfl
  have h4 : DataW.trod enc Try.prog W 0 f b n 35 ((cs.drop 7).take (Try.prog.cellsOf 35)) = some y4 := by simpa using hf 4 _ rfl
  rw [hA] at h0
  rw [hW] at h1
  rw [hU] at h2
  rw [hS] at h3
  rw [hP] at h4
  obtain ⟨z0, b0, e0⟩ := u64_trod Try.underlying29 h0
  obtain ⟨z1, b1, hl1, hc1⟩ := word_trod h1
  have e1 := wc_list z1 _ hl1 hc1
  obtain ⟨z2, b2, e2⟩ := u64_trod Try.underlying28 h2
  obtain ⟨u, d, e3, hb⟩ := bytes_trod Try.underlying34 Try.underlying5 (by kernel_rfl) h3
  obtain ⟨v, s, e4, hs⟩ := slice_came (α := Nat × Nat) (s := 8) Try.underlying35 (by kernel_rfl) (by decide) PkR (fun _ _ _ h => pair_trod h) h4
  refine ⟨⟨z0, z1, z2, d, s⟩, ⟨b0, b1, b2⟩, u, v, ?_, hb, hs⟩
  have e : cs = (cs.drop 0).take 1 ++ ((cs.drop 1).take 4 ++ ((cs.drop 5).take 1 ++ ((cs.drop 6).take 1 ++ (cs.drop 7).take 1))) := by
   rw [List.take_of_length_le (show (cs.drop 7).length ≤ 1 by rw [List.length_drop]; omega), show cs.drop 7 = (cs.drop 6).drop 1 by rw [List.drop_drop], List.take_append_drop, show cs.drop 6 = (cs.drop 5).drop 1 by rw [List.drop_drop], List.take_append_drop, show cs.drop 5 = (cs.drop 1).drop 4 by rw [List.drop_drop], List.take_append_drop, show cs.drop 1 = (cs.drop 0).drop 1 by rw [List.drop_drop], List.take_append_drop, List.drop_zero]
  rw [e, e0, e1, e2, e3, e4]
  rfl
end Go.Proofs.Ytiojfpdjnblkhaa
