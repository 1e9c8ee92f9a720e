/- Package journal: worlds, points, journals and steps that came in. -/
import Derived.Test.YtnjpdchmdimaaaaGreatQJnj
import Derived.Test.YtnjpdchmdimaaaaGreatQFrm
import Derived.Deep.Strs
namespace Go.Proofs.YtnjpdchmdimaaaaGreat
open Go.ChangeShapes Go.WideShapes Go.ChangeAt Go.RowKit Go.Shelf

set_option maxRecDepth 100000 in
theorem u64_trodJ {H : Type} {enc : TypeId × Value → H} {W : World} {f : Nat → Bool} {b : Bool} {fuel : Nat} {t : TypeId} {cs : List Value} {x : DataW H × List MemPlace} (ht : Tryz.prog.underlying t = some (.int .u64)) (h : DataW.trod enc Tryz.prog W 0 f b fuel t cs = some x) : ∃ z : Nat, z < 18446744073709551616 ∧ cs = [.int .u64 (z : Nat)] := by
 obtain ⟨z, e0, _, wz⟩ := DataW.trod_int ht h
 have hb : 0 ≤ z ∧ z ≤ 18446744073709551615 := by simpa [Lit.wf, IntKind.min, IntKind.max, IntKind.signed, IntKind.bits] using wz
 exact ⟨z.toNat, by omega, by rw [e0, Int.toNat_of_nonneg hb.1]⟩
set_option maxRecDepth 100000 in
theorem pair_trodJ {H : Type} {enc : TypeId × Value → H} {W : World} {f : Nat → Bool} {b : Bool} {fuel : Nat} {cs : List Value} {x : DataW H × List MemPlace} (h : DataW.trod enc Tryz.prog W 0 f b fuel 106 cs = some x) : ∃ z, PkR cs z := by
 obtain ⟨y0, y1, n, _, hl, h0, h1⟩ := trod_struct2 Tryz.underlying106 h
 have hC : Tryz.prog.cellsOf 106 = 8 := by kernel_rfl
 have hW : Tryz.prog.cellsOf 75 = 4 := by kernel_rfl
 rw [hC] at hl
 dsimp only at h0 h1
 rw [hW] at h0 h1
 obtain ⟨z0, hz0, hl0, hzc0⟩ := word_trod h0
 obtain ⟨z1, hz1, hl1, hzc1⟩ := word_trod h1
 have e0 := wc_list z0 _ hl0 hzc0
 have e1 := wc_list z1 _ hl1 hzc1
 refine ⟨(z0, z1), hz0, hz1, ?_⟩
 have e : cs = (cs.drop 0).take 4 ++ (cs.drop 4).take 4 := by
  rw [List.take_of_length_le (show (cs.drop 4).length ≤ 4 by rw [List.length_drop]; omega), show cs.drop 4 = (cs.drop 0).drop 4 by rw [List.drop_drop], List.take_append_drop, List.drop_zero]
 rw [e, e0, e1]
 rfl
set_option maxRecDepth 100000 in
theorem ac_trodJ {H : Type} {enc : TypeId × Value → H} {W : World} {f : Nat → Bool} {b : Bool} {fuel : Nat} {cs : List Value} {x : DataW H × List MemPlace} (h : DataW.trod enc Tryz.prog W 0 f b fuel 79 cs = some x) : ∃ z, AcR W cs z := by
 obtain ⟨xs, n, _, _, hl, hlen, hf⟩ := DataW.trod_struct Tryz.underlying79 h
 have hC : Tryz.prog.cellsOf 79 = 8 := by kernel_rfl
 have hA : Tryz.prog.cellsOf 45 = 1 := by kernel_rfl
 have hU : Tryz.prog.cellsOf 44 = 1 := by kernel_rfl
 have hW : Tryz.prog.cellsOf 75 = 4 := by kernel_rfl
 have hS : Tryz.prog.cellsOf 76 = 1 := by kernel_rfl
 have hP : Tryz.prog.cellsOf 77 = 1 := by kernel_rfl
 rw [hC] at hl
 match xs, hlen with
 | [y0, y1, y2, y3, y4], _ =>
  have h0 : DataW.trod enc Tryz.prog W 0 f b n 45 ((cs.drop 0).take (Tryz.prog.cellsOf 45)) = some y0 := by simpa using hf 0 _ rfl
  have h1 : DataW.trod enc Tryz.prog W 0 f b n 75 ((cs.drop 1).take (Tryz.prog.cellsOf 75)) = some y1 := by simpa using hf 1 _ rfl
  have h2 : DataW.trod enc Tryz.prog W 0 f b n 44 ((cs.drop 5).take (Tryz.prog.cellsOf 44)) = some y2 := by simpa using hf 2 _ rfl
  have h3 : DataW.trod enc Tryz.prog W 0 f b n 76 ((cs.drop 6).take (Tryz.prog.cellsOf 76)) = some y3 := by simpa using hf 3 _ rfl
  have h4 : DataW.trod enc Tryz.prog W 0 f b n 77 ((cs.drop 7).take (Tryz.prog.cellsOf 77)) = some y4 := by simpa using hf 4 _ rfl
  rw [hA] at h0
  rw [hW] at h1
  rw [hU] at h2
  rw [hS] at h3
  rw [hP] at h4
  obtain ⟨z0, b0, e0⟩ := u64_trodJ Tryz.underlying45 h0
  obtain ⟨z1, b1, hl1, hc1⟩ := word_trod h1
  have e1 := wc_list z1 _ hl1 hc1
  obtain ⟨z2, b2, e2⟩ := u64_trodJ Tryz.underlying44 h2
  obtain ⟨u, d, e3, hb⟩ := bytes_trod Tryz.underlying76 Tryz.underlying5 (by kernel_rfl) h3
  obtain ⟨v, s, e4, hs⟩ := slice_came (α := Nat × Nat) (s := 8) Tryz.underlying77 (by kernel_rfl) (by decide) PkR (fun _ _ _ h => pair_trodJ h) h4
  refine ⟨⟨z0, z1, z2, d, s⟩, ⟨b0, b1, b2⟩, u, v, ?_, hb, hs⟩
  have e : cs = (cs.drop 0).take 1 ++ ((cs.drop 1).take 4 ++ ((cs.drop 5).take 1 ++ ((cs.drop 6).take 1 ++ (cs.drop 7).take 1))) := by
   rw [List.take_of_length_le (show (cs.drop 7).length ≤ 1 by rw [List.length_drop]; omega), show cs.drop 7 = (cs.drop 6).drop 1 by rw [List.drop_drop], List.take_append_drop, show cs.drop 6 = (cs.drop 5).drop 1 by rw [List.drop_drop], List.take_append_drop, show cs.drop 5 = (cs.drop 1).drop 4 by rw [List.drop_drop], List.take_append_drop, show cs.drop 1 = (cs.drop 0).drop 1 by rw [List.drop_drop], List.take_append_drop, List.drop_zero]
  rw [e, e0, e1, e2, e3, e4]
  rfl
set_option maxRecDepth 100000 in
theorem held_trodJ {H : Type} {enc : TypeId × Value → H} {W : World} {f : Nat → Bool} {b : Bool} {fuel : Nat} {cs : List Value} {x : DataW H × List MemPlace} (h : DataW.trod enc Tryz.prog W 0 f b fuel 109 cs = some x) : ∃ z, HdR cs z := by
 obtain ⟨xs, n, _, _, hl, hlen, hf⟩ := DataW.trod_struct Tryz.underlying109 h
 have hC : Tryz.prog.cellsOf 109 = 11 := by kernel_rfl
 have hA : Tryz.prog.cellsOf 45 = 1 := by kernel_rfl
 have hW : Tryz.prog.cellsOf 75 = 4 := by kernel_rfl
 have hU : Tryz.prog.cellsOf 44 = 1 := by kernel_rfl
 rw [hC] at hl
 match xs, hlen with
 | [y0, y1, y2, y3, y4], _ =>
  have h0 : DataW.trod enc Tryz.prog W 0 f b n 45 ((cs.drop 0).take (Tryz.prog.cellsOf 45)) = some y0 := by simpa using hf 0 _ rfl
  have h1 : DataW.trod enc Tryz.prog W 0 f b n 75 ((cs.drop 1).take (Tryz.prog.cellsOf 75)) = some y1 := by simpa using hf 1 _ rfl
  have h2 : DataW.trod enc Tryz.prog W 0 f b n 75 ((cs.drop 5).take (Tryz.prog.cellsOf 75)) = some y2 := by simpa using hf 2 _ rfl
  have h3 : DataW.trod enc Tryz.prog W 0 f b n 44 ((cs.drop 9).take (Tryz.prog.cellsOf 44)) = some y3 := by simpa using hf 3 _ rfl
  have h4 : DataW.trod enc Tryz.prog W 0 f b n 44 ((cs.drop 10).take (Tryz.prog.cellsOf 44)) = some y4 := by simpa using hf 4 _ rfl
  rw [hA] at h0
  rw [hW] at h1 h2
  rw [hU] at h3 h4
  obtain ⟨z0, b0, e0⟩ := u64_trodJ Tryz.underlying45 h0
  obtain ⟨z1, b1, hl1, hc1⟩ := word_trod h1
  have e1 := wc_list z1 _ hl1 hc1
  obtain ⟨z2, b2, hl2, hc2⟩ := word_trod h2
  have e2 := wc_list z2 _ hl2 hc2
  obtain ⟨z3, b3, e3⟩ := u64_trodJ Tryz.underlying44 h3
  obtain ⟨z4, b4, e4⟩ := u64_trodJ Tryz.underlying44 h4
  refine ⟨⟨z0, z1, z2, z3, z4⟩, ⟨b0, b1, b2, b3, b4⟩, ?_⟩
  have e : cs = (cs.drop 0).take 1 ++ ((cs.drop 1).take 4 ++ ((cs.drop 5).take 4 ++ ((cs.drop 9).take 1 ++ (cs.drop 10).take 1))) := by
   rw [List.take_of_length_le (show (cs.drop 10).length ≤ 1 by rw [List.length_drop]; omega), show cs.drop 10 = (cs.drop 9).drop 1 by rw [List.drop_drop], List.take_append_drop, show cs.drop 9 = (cs.drop 5).drop 4 by rw [List.drop_drop], List.take_append_drop, show cs.drop 5 = (cs.drop 1).drop 4 by rw [List.drop_drop], List.take_append_drop, show cs.drop 1 = (cs.drop 0).drop 1 by rw [List.drop_drop], List.take_append_drop, List.drop_zero]
  rw [e, e0, e1, e2, e3, e4]
  rfl
set_option maxRecDepth 100000 in
theorem nonce_trodJ {H : Type} {enc : TypeId × Value → H} {W : World} {f : Nat → Bool} {b : Bool} {fuel : Nat} {cs : List Value} {x : DataW H × List MemPlace} (h : DataW.trod enc Tryz.prog W 0 f b fuel 112 cs = some x) : ∃ z, NnR cs z := by
 obtain ⟨xs, n, _, _, hl, hlen, hf⟩ := DataW.trod_struct Tryz.underlying112 h
 have hC : Tryz.prog.cellsOf 112 = 6 := by kernel_rfl
 have hA : Tryz.prog.cellsOf 45 = 1 := by kernel_rfl
 have hW : Tryz.prog.cellsOf 75 = 4 := by kernel_rfl
 have hU : Tryz.prog.cellsOf 44 = 1 := by kernel_rfl
 rw [hC] at hl
 match xs, hlen with
 | [y0, y1, y2], _ =>
  have h0 : DataW.trod enc Tryz.prog W 0 f b n 45 ((cs.drop 0).take (Tryz.prog.cellsOf 45)) = some y0 := by simpa using hf 0 _ rfl
  have h1 : DataW.trod enc Tryz.prog W 0 f b n 75 ((cs.drop 1).take (Tryz.prog.cellsOf 75)) = some y1 := by simpa using hf 1 _ rfl
  have h2 : DataW.trod enc Tryz.prog W 0 f b n 44 ((cs.drop 5).take (Tryz.prog.cellsOf 44)) = some y2 := by simpa using hf 2 _ rfl
  rw [hA] at h0
  rw [hW] at h1
  rw [hU] at h2
  obtain ⟨z0, b0, e0⟩ := u64_trodJ Tryz.underlying45 h0
  obtain ⟨z1, b1, hl1, hc1⟩ := word_trod h1
  have e1 := wc_list z1 _ hl1 hc1
  obtain ⟨z2, b2, e2⟩ := u64_trodJ Tryz.underlying44 h2
  refine ⟨⟨z0, z1, z2⟩, ⟨b0, b1, b2⟩, ?_⟩
  have e : cs = (cs.drop 0).take 1 ++ ((cs.drop 1).take 4 ++ (cs.drop 5).take 1) := by
   rw [List.take_of_length_le (show (cs.drop 5).length ≤ 1 by rw [List.length_drop]; omega), show cs.drop 5 = (cs.drop 1).drop 4 by rw [List.drop_drop], List.take_append_drop, show cs.drop 1 = (cs.drop 0).drop 1 by rw [List.drop_drop], List.take_append_drop]
   rfl
  rw [e, e0, e1, e2]
  rfl
set_option maxRecDepth 100000 in
theorem addr_trodJ {H : Type} {enc : TypeId × Value → H} {W : World} {f : Nat → Bool} {b : Bool} {fuel : Nat} {cs : List Value} {x : DataW H × List MemPlace} (h : DataW.trod enc Tryz.prog W 0 f b fuel 45 cs = some x) : ∃ z, RA cs z := by
 obtain ⟨z, hz, e⟩ := u64_trodJ Tryz.underlying45 h
 exact ⟨⟨z, 0, 0⟩, ⟨hz, rfl, rfl⟩, e⟩
set_option maxRecDepth 100000 in
theorem spot_trodJ {H : Type} {enc : TypeId × Value → H} {W : World} {f : Nat → Bool} {b : Bool} {fuel : Nat} {cs : List Value} {x : DataW H × List MemPlace} (h : DataW.trod enc Tryz.prog W 0 f b fuel 115 cs = some x) : ∃ z, RS cs z := by
 obtain ⟨xs, n, _, _, hl, hlen, hf⟩ := DataW.trod_struct Tryz.underlying115 h
 have hC : Tryz.prog.cellsOf 115 = 5 := by kernel_rfl
 have hT0 : Tryz.prog.cellsOf 45 = 1 := by kernel_rfl
 have hT1 : Tryz.prog.cellsOf 75 = 4 := by kernel_rfl
 rw [hC] at hl
 match xs, hlen with
 | [y0, y1], _ =>
  have h0 : DataW.trod enc Tryz.prog W 0 f b n 45 ((cs.drop 0).take (Tryz.prog.cellsOf 45)) = some y0 := by simpa using hf 0 _ rfl
  have h1 : DataW.trod enc Tryz.prog W 0 f b n 75 ((cs.drop 1).take (Tryz.prog.cellsOf 75)) = some y1 := by simpa using hf 1 _ rfl
  rw [hT0] at h0
  rw [hT1] at h1
  obtain ⟨z0, b0, e0⟩ := u64_trodJ Tryz.underlying45 h0
  obtain ⟨z1, b1, hl1, hc1⟩ := word_trod h1
  have e1 := wc_list z1 _ hl1 hc1
  have e : cs = (cs.drop 0).take 1 ++ ((cs.drop 1).take 4) := by
   rw [List.take_of_length_le (show (cs.drop 1).length ≤ 4 by rw [List.length_drop]; omega), show cs.drop 1 = (cs.drop 0).drop 1 by rw [List.drop_drop], List.take_append_drop]
   rfl
  refine ⟨⟨z0, z1, 0⟩, ⟨b0, b1, rfl⟩, ?_⟩
  rw [e, e0, e1]
  rfl
set_option maxRecDepth 100000 in
theorem passing_trodJ {H : Type} {enc : TypeId × Value → H} {W : World} {f : Nat → Bool} {b : Bool} {fuel : Nat} {cs : List Value} {x : DataW H × List MemPlace} (h : DataW.trod enc Tryz.prog W 0 f b fuel 118 cs = some x) : ∃ z, RP cs z := by
 obtain ⟨xs, n, _, _, hl, hlen, hf⟩ := DataW.trod_struct Tryz.underlying118 h
 have hC : Tryz.prog.cellsOf 118 = 9 := by kernel_rfl
 have hT0 : Tryz.prog.cellsOf 115 = 5 := by kernel_rfl
 have hT1 : Tryz.prog.cellsOf 75 = 4 := by kernel_rfl
 rw [hC] at hl
 match xs, hlen with
 | [y0, y1], _ =>
  have h0 : DataW.trod enc Tryz.prog W 0 f b n 115 ((cs.drop 0).take (Tryz.prog.cellsOf 115)) = some y0 := by simpa using hf 0 _ rfl
  have h1 : DataW.trod enc Tryz.prog W 0 f b n 75 ((cs.drop 5).take (Tryz.prog.cellsOf 75)) = some y1 := by simpa using hf 1 _ rfl
  rw [hT0] at h0
  rw [hT1] at h1
  obtain ⟨z0, b0, e0⟩ := spot_trodJ h0
  obtain ⟨z1, b1, hl1, hc1⟩ := word_trod h1
  have e1 := wc_list z1 _ hl1 hc1
  have e : cs = (cs.drop 0).take 5 ++ ((cs.drop 5).take 4) := by
   rw [List.take_of_length_le (show (cs.drop 5).length ≤ 4 by rw [List.length_drop]; omega), show cs.drop 5 = (cs.drop 0).drop 5 by rw [List.drop_drop], List.take_append_drop]
   rfl
  refine ⟨⟨z0.addr, z0.key, z1⟩, ⟨b0.1, b0.2.1, b1⟩, ?_⟩
  rw [e, e0, e1]
  rfl
set_option maxRecDepth 100000 in
theorem access_trodJ {H : Type} {enc : TypeId × Value → H} {W : World} {f : Nat → Bool} {b : Bool} {fuel : Nat} {cs : List Value} {x : DataW H × List MemPlace} (h : DataW.trod enc Tryz.prog W 0 f b fuel 35 cs = some x) : ∃ (a s p : Value) (z : Ax), cs = [a, s, p] ∧ AxR W a s p z := by
 obtain ⟨xs, n, _, _, hl, hlen, hf⟩ := DataW.trod_struct Tryz.underlying35 h
 have hC : Tryz.prog.cellsOf 35 = 3 := by kernel_rfl
 have hT0 : Tryz.prog.cellsOf 31 = 1 := by kernel_rfl
 have hT1 : Tryz.prog.cellsOf 32 = 1 := by kernel_rfl
 have hT2 : Tryz.prog.cellsOf 33 = 1 := by kernel_rfl
 rw [hC] at hl
 match xs, hlen with
 | [y0, y1, y2], _ =>
  have h0 : DataW.trod enc Tryz.prog W 0 f b n 31 ((cs.drop 0).take (Tryz.prog.cellsOf 31)) = some y0 := by simpa using hf 0 _ rfl
  have h1 : DataW.trod enc Tryz.prog W 0 f b n 32 ((cs.drop 1).take (Tryz.prog.cellsOf 32)) = some y1 := by simpa using hf 1 _ rfl
  have h2 : DataW.trod enc Tryz.prog W 0 f b n 33 ((cs.drop 2).take (Tryz.prog.cellsOf 33)) = some y2 := by simpa using hf 2 _ rfl
  rw [hT0] at h0
  rw [hT1] at h1
  rw [hT2] at h2
  obtain ⟨v0, l0, e0, k0⟩ := slice_came (α := Pe) (s := 1) Tryz.underlying31 (by kernel_rfl) (by decide) RA (fun _ _ _ h => addr_trodJ h) h0
  obtain ⟨v1, l1, e1, k1⟩ := slice_came (α := Pe) (s := 5) Tryz.underlying32 (by kernel_rfl) (by decide) RS (fun _ _ _ h => spot_trodJ h) h1
  obtain ⟨v2, l2, e2, k2⟩ := slice_came (α := Pe) (s := 9) Tryz.underlying33 (by kernel_rfl) (by decide) RP (fun _ _ _ h => passing_trodJ h) h2
  have e : cs = (cs.drop 0).take 1 ++ ((cs.drop 1).take 1 ++ ((cs.drop 2).take 1)) := by
   rw [List.take_of_length_le (show (cs.drop 2).length ≤ 1 by rw [List.length_drop]; omega), show cs.drop 2 = (cs.drop 1).drop 1 by rw [List.drop_drop], List.take_append_drop, show cs.drop 1 = (cs.drop 0).drop 1 by rw [List.drop_drop], List.take_append_drop]
   rfl
  refine ⟨v0, v1, v2, ⟨l0, l1, l2⟩, ?_, k0, k1, k2⟩
  rw [e, e0, e1, e2]
  rfl
set_option maxRecDepth 100000 in
theorem i64_trodJ {H : Type} {enc : TypeId × Value → H} {W : World} {f : Nat → Bool} {b : Bool} {fuel : Nat} {t : TypeId} {cs : List Value} {x : DataW H × List MemPlace} (ht : Tryz.prog.underlying t = some (.int .i64)) (h : DataW.trod enc Tryz.prog W 0 f b fuel t cs = some x) : ∃ z : Int, (-9223372036854775808 ≤ z ∧ z ≤ 9223372036854775807) ∧ cs = [.int .i64 z] := by
 obtain ⟨z, e0, _, wz⟩ := DataW.trod_int ht h
 have hb : -9223372036854775808 ≤ z ∧ z ≤ 9223372036854775807 := by simpa [Lit.wf, IntKind.min, IntKind.max, IntKind.signed, IntKind.bits] using wz
 exact ⟨z, hb, e0⟩
set_option maxRecDepth 100000 in
theorem state_trodJ {H : Type} {enc : TypeId × Value → H} {W : World} {f : Nat → Bool} {b : Bool} {fuel : Nat} {cs : List Value} {x : DataW H × List MemPlace} (h : DataW.trod enc Tryz.prog W 0 f b fuel 24 cs = some x) : ∃ (v : Value) (l : List Ac), cs = [v] ∧ Acs W v l := by
 obtain ⟨xs, n, _, _, hl, hlen, hf⟩ := DataW.trod_struct Tryz.underlying24 h
 have hC : Tryz.prog.cellsOf 24 = 1 := by kernel_rfl
 have hTtRowapiAccount : Tryz.prog.cellsOf 22 = 1 := by kernel_rfl
 rw [hC] at hl
 match xs, hlen with
 | [y0], _ =>
  have h0 : DataW.trod enc Tryz.prog W 0 f b n 22 ((cs.drop 0).take (Tryz.prog.cellsOf 22)) = some y0 := by simpa using hf 0 _ rfl
  rw [hTtRowapiAccount] at h0
  obtain ⟨v0, l0, e0, k0⟩ := slice_came (α := Ac) (s := 8) Tryz.underlying22 (by kernel_rfl) (by decide) (AcR W) (fun _ _ _ h => ac_trodJ h) h0
  refine ⟨v0, l0, ?_, k0⟩
  rw [← e0, List.drop_zero, List.take_of_length_le (Nat.le_of_eq hl)]
set_option maxRecDepth 100000 in
theorem ledger_trodJ {H : Type} {enc : TypeId × Value → H} {W : World} {f : Nat → Bool} {b : Bool} {fuel : Nat} {cs : List Value} {x : DataW H × List MemPlace} (h : DataW.trod enc Tryz.prog W 0 f b fuel 27 cs = some x) : ∃ (v : Value) (l : List Hd), cs = [v] ∧ Hds W v l := by
 obtain ⟨xs, n, _, _, hl, hlen, hf⟩ := DataW.trod_struct Tryz.underlying27 h
 have hC : Tryz.prog.cellsOf 27 = 1 := by kernel_rfl
 have hTtRowapiHeld : Tryz.prog.cellsOf 25 = 1 := by kernel_rfl
 rw [hC] at hl
 match xs, hlen with
 | [y0], _ =>
  have h0 : DataW.trod enc Tryz.prog W 0 f b n 25 ((cs.drop 0).take (Tryz.prog.cellsOf 25)) = some y0 := by simpa using hf 0 _ rfl
  rw [hTtRowapiHeld] at h0
  obtain ⟨v0, l0, e0, k0⟩ := slice_came (α := Hd) (s := 11) Tryz.underlying25 (by kernel_rfl) (by decide) HdR (fun _ _ _ h => held_trodJ h) h0
  refine ⟨v0, l0, ?_, k0⟩
  rw [← e0, List.drop_zero, List.take_of_length_le (Nat.le_of_eq hl)]
set_option maxRecDepth 100000 in
theorem world_trodJ {H : Type} {enc : TypeId × Value → H} {W : World} {f : Nat → Bool} {b : Bool} {fuel : Nat} {cs : List Value} {x : DataW H × List MemPlace} (h : DataW.trod enc Tryz.prog W 0 f b fuel 30 cs = some x) : ∃ (u v z : Value) (o : Wo), cs = [u, v, z] ∧ WoR W u v z o := by
 obtain ⟨xs, n, _, _, hl, hlen, hf⟩ := DataW.trod_struct Tryz.underlying30 h
 have hC : Tryz.prog.cellsOf 30 = 3 := by kernel_rfl
 have hTtapiState : Tryz.prog.cellsOf 24 = 1 := by kernel_rfl
 have hTtapiLedger : Tryz.prog.cellsOf 27 = 1 := by kernel_rfl
 have hTtRowapiNonce : Tryz.prog.cellsOf 28 = 1 := by kernel_rfl
 rw [hC] at hl
 match xs, hlen with
 | [y0, y1, y2], _ =>
  have h0 : DataW.trod enc Tryz.prog W 0 f b n 24 ((cs.drop 0).take (Tryz.prog.cellsOf 24)) = some y0 := by simpa using hf 0 _ rfl
  have h1 : DataW.trod enc Tryz.prog W 0 f b n 27 ((cs.drop 1).take (Tryz.prog.cellsOf 27)) = some y1 := by simpa using hf 1 _ rfl
  have h2 : DataW.trod enc Tryz.prog W 0 f b n 28 ((cs.drop 2).take (Tryz.prog.cellsOf 28)) = some y2 := by simpa using hf 2 _ rfl
  rw [hTtapiState] at h0
  rw [hTtapiLedger] at h1
  rw [hTtRowapiNonce] at h2
  obtain ⟨v0, l0, e0, k0⟩ := state_trodJ h0
  obtain ⟨v1, l1, e1, k1⟩ := ledger_trodJ h1
  obtain ⟨v2, l2, e2, k2⟩ := slice_came (α := Nn) (s := 6) Tryz.underlying28 (by kernel_rfl) (by decide) NnR (fun _ _ _ h => nonce_trodJ h) h2
  have e : cs = (cs.drop 0).take 1 ++ ((cs.drop 1).take 1 ++ ((cs.drop 2).take 1)) := by
   rw [List.take_of_length_le (show (cs.drop 2).length ≤ 1 by rw [List.length_drop]; omega), show cs.drop 2 = (cs.drop 1).drop 1 by rw [List.drop_drop], List.take_append_drop, show cs.drop 1 = (cs.drop 0).drop 1 by rw [List.drop_drop], List.take_append_drop]
   rfl
  refine ⟨v0, v1, v2, ⟨l0, l1, l2⟩, ?_, k0, k1, k2⟩
  rw [e, e0, e1, e2]
  rfl
set_option maxRecDepth 100000 in
theorem point_trodJ {H : Type} {enc : TypeId × Value → H} {W : World} {f : Nat → Bool} {b : Bool} {fuel : Nat} {cs : List Value} {x : DataW H × List MemPlace} (h : DataW.trod enc Tryz.prog W 0 f b fuel 37 cs = some x) : ∃ p : Po, PoR W cs p := by
 obtain ⟨xs, n, _, _, hl, hlen, hf⟩ := DataW.trod_struct Tryz.underlying37 h
 have hC : Tryz.prog.cellsOf 37 = 6 := by kernel_rfl
 have hTtapiWorld : Tryz.prog.cellsOf 30 = 3 := by kernel_rfl
 have hTtapiAccess : Tryz.prog.cellsOf 35 = 3 := by kernel_rfl
 rw [hC] at hl
 match xs, hlen with
 | [y0, y1], _ =>
  have h0 : DataW.trod enc Tryz.prog W 0 f b n 30 ((cs.drop 0).take (Tryz.prog.cellsOf 30)) = some y0 := by simpa using hf 0 _ rfl
  have h1 : DataW.trod enc Tryz.prog W 0 f b n 35 ((cs.drop 3).take (Tryz.prog.cellsOf 35)) = some y1 := by simpa using hf 1 _ rfl
  rw [hTtapiWorld] at h0
  rw [hTtapiAccess] at h1
  obtain ⟨u, v, z, o, e0, k0⟩ := world_trodJ h0
  obtain ⟨a, s, q, y, e1, k1⟩ := access_trodJ h1
  have e : cs = (cs.drop 0).take 3 ++ ((cs.drop 3).take 3) := by
   rw [List.take_of_length_le (show (cs.drop 3).length ≤ 3 by rw [List.length_drop]; omega), show cs.drop 3 = (cs.drop 0).drop 3 by rw [List.drop_drop], List.take_append_drop]
   rfl
  refine ⟨⟨o, y⟩, u, v, z, a, s, q, ?_, k0, k1⟩
  rw [e, e0, e1]
  rfl
set_option maxRecDepth 100000 in
theorem journal_trodJ {H : Type} {enc : TypeId × Value → H} {W : World} {f : Nat → Bool} {b : Bool} {fuel : Nat} {cs : List Value} {x : DataW H × List MemPlace} (h : DataW.trod enc Tryz.prog W 0 f b fuel 40 cs = some x) : ∃ (u v z a s q m : Value) (j : Jn), cs = [u, v, z, a, s, q, m] ∧ WoR W u v z j.p.w ∧ AxR W a s q j.p.x ∧ Pos W m j.m := by
 obtain ⟨xs, n, _, _, hl, hlen, hf⟩ := DataW.trod_struct Tryz.underlying40 h
 have hC : Tryz.prog.cellsOf 40 = 7 := by kernel_rfl
 have hTtapiPoint : Tryz.prog.cellsOf 37 = 6 := by kernel_rfl
 have hTtRowapiPoint : Tryz.prog.cellsOf 38 = 1 := by kernel_rfl
 rw [hC] at hl
 match xs, hlen with
 | [y0, y1], _ =>
  have h0 : DataW.trod enc Tryz.prog W 0 f b n 37 ((cs.drop 0).take (Tryz.prog.cellsOf 37)) = some y0 := by simpa using hf 0 _ rfl
  have h1 : DataW.trod enc Tryz.prog W 0 f b n 38 ((cs.drop 6).take (Tryz.prog.cellsOf 38)) = some y1 := by simpa using hf 1 _ rfl
  rw [hTtapiPoint] at h0
  rw [hTtRowapiPoint] at h1
  obtain ⟨p, u, v, z, a, s, q, e0, k0, k1⟩ := point_trodJ h0
  obtain ⟨m, l, e1, k2⟩ := slice_came (α := Po) (s := 6) Tryz.underlying38 (by kernel_rfl) (by decide) (PoR W) (fun _ _ _ h => point_trodJ h) h1
  have e : cs = (cs.drop 0).take 6 ++ ((cs.drop 6).take 1) := by
   rw [List.take_of_length_le (show (cs.drop 6).length ≤ 1 by rw [List.length_drop]; omega), show cs.drop 6 = (cs.drop 0).drop 6 by rw [List.drop_drop], List.take_append_drop]
   rfl
  refine ⟨u, v, z, a, s, q, m, ⟨p, l⟩, ?_, k0, k1, k2⟩
  rw [e, e0, e1]
  rfl
set_option maxRecDepth 100000 in
theorem journal_came {H : Type} {enc : TypeId × Value → H} {W : World} {base : Nat} {v : Value} {d : DataW H} {p : List MemPlace}
  (hval : Value.okWide Tryz.prog W .any base 40 v) (h : DataW.Trod enc Tryz.prog W 0 (fun _ => true) true 40 v d p) : ∃ (xu xv xz xa xs xq xm : Value) (j : Jn), v = .agg #[xu, xv, xz, xa, xs, xq, xm] ∧ WoR W xu xv xz j.p.w ∧ AxR W xa xs xq j.p.x ∧ Pos W xm j.m := by
 simp only [Value.okWide, Tryz.underlying40] at hval
 obtain ⟨cs, rfl, hsz, _⟩ := hval
 obtain ⟨fuel, hf⟩ := h
 obtain ⟨u, v, z, a, s, q, m, j, e, hz⟩ := journal_trodJ hf
 have e' : cs = #[u, v, z, a, s, q, m] := by
  apply Array.toList_inj.1
  rw [← e]
  rfl
 exact ⟨u, v, z, a, s, q, m, j, by rw [e'], hz⟩
structure Sp where
 k : Int
 n : Int
 w : Wo
 x : Ax
def SpR (W : World) (cs : List Value) (s : Sp) : Prop := (-9223372036854775808 ≤ s.k ∧ s.k ≤ 9223372036854775807) ∧ (-9223372036854775808 ≤ s.n ∧ s.n ≤ 9223372036854775807) ∧ ∃ u v z a q r, cs = [.int .i64 s.k, .int .i64 s.n, u, v, z, a, q, r] ∧ WoR W u v z s.w ∧ AxR W a q r s.x
set_option maxRecDepth 100000 in
theorem step_trodJ {H : Type} {enc : TypeId × Value → H} {W : World} {f : Nat → Bool} {b : Bool} {fuel : Nat} {cs : List Value} {x : DataW H × List MemPlace} (h : DataW.trod enc Tryz.prog W 0 f b fuel 61 cs = some x) : ∃ s : Sp, SpR W cs s := by
 obtain ⟨xs, n, _, _, hl, hlen, hf⟩ := DataW.trod_struct Tryz.underlying61 h
 have hC : Tryz.prog.cellsOf 61 = 8 := by kernel_rfl
 have hTtint : Tryz.prog.cellsOf 3 = 1 := by kernel_rfl
 have hTtapiWorld : Tryz.prog.cellsOf 30 = 3 := by kernel_rfl
 have hTtapiAccess : Tryz.prog.cellsOf 35 = 3 := by kernel_rfl
 rw [hC] at hl
 match xs, hlen with
 | [y0, y1, y2, y3], _ =>
  have h0 : DataW.trod enc Tryz.prog W 0 f b n 3 ((cs.drop 0).take (Tryz.prog.cellsOf 3)) = some y0 := by simpa using hf 0 _ rfl
  have h1 : DataW.trod enc Tryz.prog W 0 f b n 3 ((cs.drop 1).take (Tryz.prog.cellsOf 3)) = some y1 := by simpa using hf 1 _ rfl
  have h2 : DataW.trod enc Tryz.prog W 0 f b n 30 ((cs.drop 2).take (Tryz.prog.cellsOf 30)) = some y2 := by simpa using hf 2 _ rfl
  have h3 : DataW.trod enc Tryz.prog W 0 f b n 35 ((cs.drop 5).take (Tryz.prog.cellsOf 35)) = some y3 := by simpa using hf 3 _ rfl
  rw [hTtint] at h0
  rw [hTtint] at h1
  rw [hTtapiWorld] at h2
  rw [hTtapiAccess] at h3
  obtain ⟨z0, b0, e0⟩ := i64_trodJ Tryz.underlying3 h0
  obtain ⟨z1, b1, e1⟩ := i64_trodJ Tryz.underlying3 h1
  obtain ⟨u, v, z, o, e2, k2⟩ := world_trodJ h2
  obtain ⟨a, s, q, y, e3, k3⟩ := access_trodJ h3
  have e : cs = (cs.drop 0).take 1 ++ ((cs.drop 1).take 1 ++ ((cs.drop 2).take 3 ++ ((cs.drop 5).take 3))) := by
   rw [List.take_of_length_le (show (cs.drop 5).length ≤ 3 by rw [List.length_drop]; omega), show cs.drop 5 = (cs.drop 2).drop 3 by rw [List.drop_drop], List.take_append_drop, show cs.drop 2 = (cs.drop 1).drop 1 by rw [List.drop_drop], List.take_append_drop, show cs.drop 1 = (cs.drop 0).drop 1 by rw [List.drop_drop], List.take_append_drop]
   rfl
  refine ⟨⟨z0, z1, o, y⟩, b0, b1, u, v, z, a, s, q, ?_, k2, k3⟩
  rw [e, e0, e1, e2, e3]
  rfl
def Sps (W : World) (v : Value) (l : List Sp) : Prop := Sl W 8 (SpR W) v l
set_option maxRecDepth 100000 in
theorem steps_came {H : Type} {enc : TypeId × Value → H} {W : World} {base : Nat} {v : Value} {d : DataW H} {p : List MemPlace}
  (hval : Value.okWide Tryz.prog W .any base 59 v) (h : DataW.Trod enc Tryz.prog W 0 (fun _ => true) true 59 v d p) : ∃ l : List Sp, Sps W v l := by
 obtain ⟨a0, len0, cap0, rfl⟩ := okWide_slice Tryz.underlying59 hval
 obtain ⟨fuel, hf⟩ := h
 obtain ⟨v, l, hv, hl⟩ := slice_came (α := Sp) (s := 8) Tryz.underlying59 (by kernel_rfl) (by decide) (SpR W) (fun _ _ _ h => step_trodJ h) hf
 simp [Value.cells] at hv
 rw [hv]
 exact ⟨l, hl⟩
end Go.Proofs.YtnjpdchmdimaaaaGreat
