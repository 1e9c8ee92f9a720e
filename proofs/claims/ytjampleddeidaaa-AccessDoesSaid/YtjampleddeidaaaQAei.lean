/- Package access: accesses, deeds, spots that came in. -/
import Derived.Test.YtjampleddeidaaaQAea
import Derived.Test.YtjampleddeidaaaQWsp
import Derived.Test.YtjampleddeidaaaQFrm
import Derived.Deep.Strs
namespace Go.Proofs.Ytjampleddeidaaa
open Go.ChangeShapes Go.WideShapes Go.ChangeAt Go.RowKit Go.Shelf

set_option maxRecDepth 100000 in
theorem u64_trodX {H : Type} {enc : TypeId × Value → H} {W : World} {f : Nat → Bool} {b : Bool} {fuel : Nat} {t : TypeId} {cs : List Value} {x : DataW H × List MemPlace} (ht : Try.prog.underlying t = some (.int .u64)) (h : DataW.trod enc Try.prog W 0 f b fuel t cs = some x) : ∃ z : Nat, z < 18446744073709551616 ∧ cs = [.int .u64 (z : Nat)] := by
  obtain ⟨z, e0, _, wz⟩ := DataW.trod_int ht h
  have hb : 0 ≤ z ∧ z ≤ 18446744073709551615 := by simpa [Lit.wf, IntKind.min, IntKind.max, IntKind.signed, IntKind.bits] using wz
  exact ⟨z.toNat, by omega, by rw [e0, Int.toNat_of_nonneg hb.1]⟩
set_option maxRecDepth 100000 in
theorem i64_trodX {H : Type} {enc : TypeId × Value → H} {W : World} {f : Nat → Bool} {b : Bool} {fuel : Nat} {t : TypeId} {cs : List Value} {x : DataW H × List MemPlace} (ht : Try.prog.underlying t = some (.int .i64)) (h : DataW.trod enc Try.prog W 0 f b fuel t cs = some x) : ∃ z : Int, (-9223372036854775808 ≤ z ∧ z ≤ 9223372036854775807) ∧ cs = [.int .i64 z] := by
  obtain ⟨z, e0, _, wz⟩ := DataW.trod_int ht h
  have hb : -9223372036854775808 ≤ z ∧ z ≤ 9223372036854775807 := by simpa [Lit.wf, IntKind.min, IntKind.max, IntKind.signed, IntKind.bits] using wz
  exact ⟨z, hb, e0⟩
set_option maxRecDepth 100000 in
theorem addr_trod {H : Type} {enc : TypeId × Value → H} {W : World} {f : Nat → Bool} {b : Bool} {fuel : Nat} {cs : List Value} {x : DataW H × List MemPlace} (h : DataW.trod enc Try.prog W 0 f b fuel 28 cs = some x) : ∃ z, RA cs z := by
  obtain ⟨z, hz, e⟩ := u64_trodX Try.underlying28 h
  exact ⟨⟨z, 0, 0⟩, ⟨hz, rfl, rfl⟩, e⟩
set_option maxRecDepth 100000 in
theorem spot_trod {H : Type} {enc : TypeId × Value → H} {W : World} {f : Nat → Bool} {b : Bool} {fuel : Nat} {cs : List Value} {x : DataW H × List MemPlace} (h : DataW.trod enc Try.prog W 0 f b fuel 32 cs = some x) : ∃ z, RS cs z := by
  obtain ⟨xs, n, _, _, hl, hlen, hf⟩ := DataW.trod_struct Try.underlying32 h
  have hC : Try.prog.cellsOf 32 = 5 := by kernel_rfl
  have hT0 : Try.prog.cellsOf 28 = 1 := by kernel_rfl
  have hT1 : Try.prog.cellsOf 30 = 4 := by kernel_rfl
  rw [hC] at hl
  match xs, hlen with
  | [y0, y1], _ =>
    have h0 : DataW.trod enc Try.prog W 0 f b n 28 ((cs.drop 0).take (Try.prog.cellsOf 28)) = some y0 := by simpa using hf 0 _ rfl
    have h1 : DataW.trod enc Try.prog W 0 f b n 30 ((cs.drop 1).take (Try.prog.cellsOf 30)) = some y1 := by simpa using hf 1 _ rfl
    rw [hT0] at h0
    rw [hT1] at h1
    obtain ⟨z0, b0, e0⟩ := u64_trodX Try.underlying28 h0
    obtain ⟨z1, b1, hl1, hc1⟩ := word_trod h1
    have e1 := wc_list z1 _ hl1 hc1
    have e : cs = (cs.drop 0).take 1 ++ ((cs.drop 1).take 4) := by
      rw [List.take_of_length_le (show (cs.drop 1).length ≤ 4 by rw [List.length_drop]; omega), show cs.drop 1 = (cs.drop 0).drop 1 by rw [List.drop_drop], List.take_append_drop]
      rfl
    refine ⟨⟨z0, z1, 0⟩, ⟨b0, b1, rfl⟩, ?_⟩
    rw [e, e0, e1]
    rfl
set_option maxRecDepth 100000 in
theorem passing_trod {H : Type} {enc : TypeId × Value → H} {W : World} {f : Nat → Bool} {b : Bool} {fuel : Nat} {cs : List Value} {x : DataW H × List MemPlace} (h : DataW.trod enc Try.prog W 0 f b fuel 69 cs = some x) : ∃ z, RP cs z := by
  obtain ⟨xs, n, _, _, hl, hlen, hf⟩ := DataW.trod_struct Try.underlying69 h
  have hC : Try.prog.cellsOf 69 = 9 := by kernel_rfl
  have hT0 : Try.prog.cellsOf 32 = 5 := by kernel_rfl
  have hT1 : Try.prog.cellsOf 30 = 4 := by kernel_rfl
  rw [hC] at hl
  match xs, hlen with
  | [y0, y1], _ =>
    have h0 : DataW.trod enc Try.prog W 0 f b n 32 ((cs.drop 0).take (Try.prog.cellsOf 32)) = some y0 := by simpa using hf 0 _ rfl
    have h1 : DataW.trod enc Try.prog W 0 f b n 30 ((cs.drop 5).take (Try.prog.cellsOf 30)) = some y1 := by simpa using hf 1 _ rfl
    rw [hT0] at h0
    rw [hT1] at h1
    obtain ⟨z0, b0, e0⟩ := spot_trod h0
    obtain ⟨z1, b1, hl1, hc1⟩ := word_trod h1
    have e1 := wc_list z1 _ hl1 hc1
    have e : cs = (cs.drop 0).take 5 ++ ((cs.drop 5).take 4) := by
      rw [List.take_of_length_le (show (cs.drop 5).length ≤ 4 by rw [List.length_drop]; omega), show cs.drop 5 = (cs.drop 0).drop 5 by rw [List.drop_drop], List.take_append_drop]
      rfl
    refine ⟨⟨z0.addr, z0.key, z1⟩, ⟨b0.1, b0.2.1, b1⟩, ?_⟩
    rw [e, e0, e1]
    rfl
set_option maxRecDepth 100000 in
theorem deedX_trod {H : Type} {enc : TypeId × Value → H} {W : World} {f : Nat → Bool} {b : Bool} {fuel : Nat} {cs : List Value} {x : DataW H × List MemPlace} (h : DataW.trod enc Try.prog W 0 f b fuel 52 cs = some x) : ∃ d : De, d.ok ∧ cs = (dec d).toList := by
  obtain ⟨xs, n, _, _, hl, hlen, hf⟩ := DataW.trod_struct Try.underlying52 h
  have hC : Try.prog.cellsOf 52 = 10 := by kernel_rfl
  have hT0 : Try.prog.cellsOf 3 = 1 := by kernel_rfl
  have hT1 : Try.prog.cellsOf 32 = 5 := by kernel_rfl
  have hT2 : Try.prog.cellsOf 30 = 4 := by kernel_rfl
  rw [hC] at hl
  match xs, hlen with
  | [y0, y1, y2], _ =>
    have h0 : DataW.trod enc Try.prog W 0 f b n 3 ((cs.drop 0).take (Try.prog.cellsOf 3)) = some y0 := by simpa using hf 0 _ rfl
    have h1 : DataW.trod enc Try.prog W 0 f b n 32 ((cs.drop 1).take (Try.prog.cellsOf 32)) = some y1 := by simpa using hf 1 _ rfl
    have h2 : DataW.trod enc Try.prog W 0 f b n 30 ((cs.drop 6).take (Try.prog.cellsOf 30)) = some y2 := by simpa using hf 2 _ rfl
    rw [hT0] at h0
    rw [hT1] at h1
    rw [hT2] at h2
    obtain ⟨z0, b0, e0⟩ := i64_trodX Try.underlying3 h0
    obtain ⟨z1, b1, e1⟩ := spot_trod h1
    obtain ⟨z2, b2, hl2, hc2⟩ := word_trod h2
    have e2 := wc_list z2 _ hl2 hc2
    have e : cs = (cs.drop 0).take 1 ++ ((cs.drop 1).take 5 ++ ((cs.drop 6).take 4)) := by
      rw [List.take_of_length_le (show (cs.drop 6).length ≤ 4 by rw [List.length_drop]; omega), show cs.drop 6 = (cs.drop 1).drop 5 by rw [List.drop_drop], List.take_append_drop, show cs.drop 1 = (cs.drop 0).drop 1 by rw [List.drop_drop], List.take_append_drop]
      rfl
    refine ⟨⟨z0, ⟨z1.addr, z1.key, z2⟩⟩, ⟨b0, b1.1, b1.2.1, b2⟩, ?_⟩
    rw [e, e0, e1, e2]
    rfl
set_option maxRecDepth 100000 in
theorem access_trod {H : Type} {enc : TypeId × Value → H} {W : World} {f : Nat → Bool} {b : Bool} {fuel : Nat} {cs : List Value} {x : DataW H × List MemPlace} (h : DataW.trod enc Try.prog W 0 f b fuel 26 cs = some x) : ∃ (a s p : Value) (z : Ax), cs = [a, s, p] ∧ AxR W a s p z := by
  obtain ⟨xs, n, _, _, hl, hlen, hf⟩ := DataW.trod_struct Try.underlying26 h
  have hC : Try.prog.cellsOf 26 = 3 := by kernel_rfl
  have hT0 : Try.prog.cellsOf 22 = 1 := by kernel_rfl
  have hT1 : Try.prog.cellsOf 23 = 1 := by kernel_rfl
  have hT2 : Try.prog.cellsOf 24 = 1 := by kernel_rfl
  rw [hC] at hl
  match xs, hlen with
  | [y0, y1, y2], _ =>
    have h0 : DataW.trod enc Try.prog W 0 f b n 22 ((cs.drop 0).take (Try.prog.cellsOf 22)) = some y0 := by simpa using hf 0 _ rfl
    have h1 : DataW.trod enc Try.prog W 0 f b n 23 ((cs.drop 1).take (Try.prog.cellsOf 23)) = some y1 := by simpa using hf 1 _ rfl
    have h2 : DataW.trod enc Try.prog W 0 f b n 24 ((cs.drop 2).take (Try.prog.cellsOf 24)) = some y2 := by simpa using hf 2 _ rfl
    rw [hT0] at h0
    rw [hT1] at h1
    rw [hT2] at h2
    obtain ⟨v0, l0, e0, k0⟩ := slice_came (α := Pe) (s := 1) Try.underlying22 (by kernel_rfl) (by decide) RA (fun _ _ _ h => addr_trod h) h0
    obtain ⟨v1, l1, e1, k1⟩ := slice_came (α := Pe) (s := 5) Try.underlying23 (by kernel_rfl) (by decide) RS (fun _ _ _ h => spot_trod h) h1
    obtain ⟨v2, l2, e2, k2⟩ := slice_came (α := Pe) (s := 9) Try.underlying24 (by kernel_rfl) (by decide) RP (fun _ _ _ h => passing_trod h) h2
    have e : cs = (cs.drop 0).take 1 ++ ((cs.drop 1).take 1 ++ ((cs.drop 2).take 1)) := by
      rw [List.take_of_length_le (show (cs.drop 2).length ≤ 1 by rw [List.length_drop]; omega), show cs.drop 2 = (cs.drop 1).drop 1 by rw [List.drop_drop], List.take_append_drop, show cs.drop 1 = (cs.drop 0).drop 1 by rw [List.drop_drop], List.take_append_drop]
      rfl
    refine ⟨v0, v1, v2, ⟨l0, l1, l2⟩, ?_, k0, k1, k2⟩
    rw [e, e0, e1, e2]
    rfl
set_option maxRecDepth 100000 in
theorem access_came {H : Type} {enc : TypeId × Value → H} {W : World} {base : Nat} {v : Value} {d : DataW H} {p : List MemPlace}
    (hval : Value.okWide Try.prog W .any base 26 v) (h : DataW.Trod enc Try.prog W 0 (fun _ => true) true 26 v d p) : ∃ (a s q : Value) (z : Ax), v = .agg #[a, s, q] ∧ AxR W a s q z := by
  simp only [Value.okWide, Try.underlying26] at hval
  obtain ⟨cs, rfl, hsz, _⟩ := hval
  obtain ⟨fuel, hf⟩ := h
  obtain ⟨a, s, q, z, e, hz⟩ := access_trod hf
  have e' : cs = #[a, s, q] := by
    apply Array.toList_inj.1
    rw [← e]
    rfl
  exact ⟨a, s, q, z, by rw [e'], hz⟩
end Go.Proofs.Ytjampleddeidaaa
