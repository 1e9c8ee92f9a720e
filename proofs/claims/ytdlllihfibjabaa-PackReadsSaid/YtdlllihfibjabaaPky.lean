/- A word that came in, as cells. Package pack: parts, rows of parts, booleans that came in. -/
import Derived.Test.YtdlllihfibjabaaWrl
import Derived.Test.YtdlllihfibjabaaPkx
import Derived.Deep.Strs
namespace Go.Proofs.Ytdlllihfibjabaa
open Go.ChangeShapes Go.WideShapes Go.ChangeAt Go.RowKit

set_option maxRecDepth 100000 in
theorem word_trod {H : Type} {enc : TypeId × Value → H} {W : World} {base fuel : Nat} {f : Nat → Bool} {b : Bool} {cs : List Value} {x : DataW H × List MemPlace} (h : DataW.trod enc Try.prog W base f b fuel 46 cs = some x) : ∃ z, z < M256 ∧ cs.length = 4 ∧ ∀ j, j < 4 → cs[j]? = some (.int .u64 (lb z j : Nat)) := by
  obtain ⟨xs, k, _, _, hlen, hxl, hel⟩ := DataW.trod_array Try.underlying46 h
  have hce : Try.prog.cellsOf 44 = 1 := by kernel_rfl
  have hC : Try.prog.cellsOf 46 = 4 := by kernel_rfl
  rw [hC] at hlen
  have ez : ∀ j, j < 4 → ∃ z : Nat, z < 18446744073709551616 ∧ cs[j]? = some (.int .u64 (z : Nat)) := by
    intro j hj
    have hh := hel j hj
    rw [hce, Nat.mul_one] at hh
    have hxj : xs[j]? = some (xs[j]'(by omega)) := List.getElem?_eq_getElem (by omega)
    rw [hxj] at hh
    obtain ⟨z, e0, _, wz⟩ := DataW.trod_int Try.underlying44 hh
    have hb : 0 ≤ z ∧ z ≤ 18446744073709551615 := by simpa [Lit.wf, IntKind.min, IntKind.max, IntKind.signed, IntKind.bits] using wz
    refine ⟨z.toNat, by omega, ?_⟩
    have e1 : (List.take 1 (List.drop j cs))[0]? = cs[j]? := by rw [List.getElem?_take, if_pos (by omega), List.getElem?_drop, Nat.add_zero]
    rw [e0] at e1
    rw [← e1, Int.toNat_of_nonneg hb.1]
    rfl
  obtain ⟨z0, b0, e0⟩ := ez 0 (by omega)
  obtain ⟨z1, b1, e1⟩ := ez 1 (by omega)
  obtain ⟨z2, b2, e2⟩ := ez 2 (by omega)
  obtain ⟨z3, b3, e3⟩ := ez 3 (by omega)
  obtain ⟨l0, l1, l2, l3⟩ := lb_ofL z0 z1 z2 z3 b0 b1 b2 b3
  refine ⟨ofL z0 z1 z2 z3, ofL_lt _ _ _ _ b0 b1 b2 b3, hlen, fun j hj => ?_⟩
  match j, hj with
  | 0, _ => rw [l0]; exact e0
  | 1, _ => rw [l1]; exact e1
  | 2, _ => rw [l2]; exact e2
  | 3, _ => rw [l3]; exact e3
set_option maxRecDepth 100000 in
theorem wc_list (z : Nat) (cs : List Value) (hl : cs.length = 4) (h : ∀ j, j < 4 → cs[j]? = some (.int .u64 (lb z j : Nat))) : cs = (wc z).toList := by
  apply List.ext_getElem?
  intro j
  by_cases hj : j < 4
  · rw [h j hj]
    have := wc_get z j hj
    rw [← Array.getElem?_toList] at this
    exact this.symm
  · rw [List.getElem?_eq_none (by omega), List.getElem?_eq_none (by simp [wc]; omega)]
end Go.Proofs.Ytdlllihfibjabaa
namespace Go.Proofs.Ytdlllihfibjabaa
open Go.ChangeShapes Go.WideShapes Go.ChangeAt Go.RowKit Go.Shelf

set_option maxRecDepth 100000 in
theorem part_trod {H : Type} {enc : TypeId × Value → H} {W : World} {fuel : Nat} {f : Nat → Bool} {b : Bool} {cs : List Value} {x : DataW H × List MemPlace} (h : DataW.trod enc Try.prog W 0 f b fuel 48 cs = some x) : ∃ z, PtR W cs z := by
  obtain ⟨y0, y1, y2, n, _, hl, h0, h1, h2⟩ := Go.Deep.trod_struct3 Try.underlying48 h
  have hC : Try.prog.cellsOf 48 = 6 := by kernel_rfl
  have hB : Try.prog.cellsOf 4 = 1 := by kernel_rfl
  have hW : Try.prog.cellsOf 46 = 4 := by kernel_rfl
  have hS : Try.prog.cellsOf 28 = 1 := by kernel_rfl
  rw [hC] at hl
  dsimp only at h0 h1 h2
  rw [hB] at h0
  rw [hW] at h1
  rw [hS] at h2
  obtain ⟨lg, e0, _⟩ := DataW.trod_bool Try.underlying4 h0
  obtain ⟨z, hz, hl4, hzc⟩ := word_trod h1
  have e1 := wc_list z _ hl4 hzc
  obtain ⟨u, d, e2, hb⟩ := bytes_trod Try.underlying28 Try.underlying5 (by kernel_rfl) h2
  refine ⟨(lg, z, d), hz, u, ?_, hb⟩
  have e : cs = (cs.drop 0).take 1 ++ ((cs.drop 1).take 4 ++ (cs.drop 5).take 1) := by
    rw [List.take_of_length_le (show (cs.drop 5).length ≤ 1 by rw [List.length_drop]; omega), show cs.drop 5 = (cs.drop 1).drop 4 by rw [List.drop_drop], List.take_append_drop, show cs.drop 1 = (cs.drop 0).drop 1 by rw [List.drop_drop], List.take_append_drop, List.drop_zero]
  rw [e, e0, e1, e2]
  rfl
set_option maxRecDepth 100000 in
theorem Pts.words {W : World} {v : Value} {l : List Pt} (h : Pts W v l) : ∀ p ∈ l, p.2.1 < M256 := by
  intro p hp
  obtain ⟨i, hi, rfl⟩ := List.getElem_of_mem hp
  obtain ⟨A, c, rfl, _, _⟩ := h.len
  obtain ⟨_, _, _, _, _, _, hw⟩ := h.at i hi
  simpa [List.getD, hi] using hw
set_option maxRecDepth 100000 in
theorem pts_came {H : Type} {enc : TypeId × Value → H} {W : World} {base : Nat} {v : Value} {d : DataW H} {p : List MemPlace}
    (hval : Value.okWide Try.prog W .any base 24 v) (h : DataW.Trod enc Try.prog W 0 (fun _ => true) true 24 v d p) : ∃ l : List Pt, Pts W v l := by
  obtain ⟨a0, len0, cap0, rfl⟩ := okWide_slice Try.underlying24 hval
  obtain ⟨fuel, hf⟩ := h
  obtain ⟨v, l, hv, hl⟩ := slice_came (α := Pt) (s := 6) Try.underlying24 (by kernel_rfl) (by decide) (PtR W) (fun _ _ _ h => part_trod h) hf
  simp [Value.cells] at hv
  rw [hv]
  exact ⟨l, hl⟩
set_option maxRecDepth 100000 in
theorem bls_came {H : Type} {enc : TypeId × Value → H} {W : World} {base : Nat} {v : Value} {d : DataW H} {p : List MemPlace}
    (hval : Value.okWide Try.prog W .any base 37 v) (h : DataW.Trod enc Try.prog W 0 (fun _ => true) true 37 v d p) : ∃ l : List Bool, Bls W v l := by
  obtain ⟨a0, len0, cap0, rfl⟩ := okWide_slice Try.underlying37 hval
  obtain ⟨fuel, hf⟩ := h
  obtain ⟨v, l, hv, hl⟩ := slice_came (α := Bool) (s := 1) Try.underlying37 (by kernel_rfl) (by decide) (fun cs b => cs = [.bool b]) (fun _ _ _ h => by
    obtain ⟨b, e, _⟩ := DataW.trod_bool Try.underlying4 h
    exact ⟨b, e⟩) hf
  simp [Value.cells] at hv
  rw [hv]
  exact ⟨l, hl⟩
/-- A slice of rows of parts. -/
def Ptss (W : World) (v : Value) (l : List (List Pt)) : Prop := Sl W 1 (fun cs x => ∃ u, cs = [u] ∧ Pts W u x) v l
set_option maxRecDepth 100000 in
theorem Ptss.ext {W W' : World} {v : Value} {l : List (List Pt)} (h : Ptss W v l) (he : Ext W W') : Ptss W' v l :=
  Sl.mono h (fun _ _ hc => he.cell hc) fun _ _ ⟨u, e, h⟩ => ⟨u, e, h.ext he⟩
set_option maxRecDepth 100000 in
theorem Ptss.len {W : World} {v : Value} {l : List (List Pt)} (h : Ptss W v l) : ∃ A c, v = .slice A l.length c ∧ l.length ≤ c ∧ c ≤ maxLen := by
  obtain ⟨A, c, e, h1, h2, _⟩ := h
  exact ⟨A, c, e, h1, h2⟩
set_option maxRecDepth 100000 in
theorem Ptss.at {W : World} {A : Option Addr} {n c : Nat} {l : List (List Pt)} (h : Ptss W (.slice A n c) l) (i : Nat) (hi : i < l.length) : ∃ b o u, A = some ⟨b, o, none⟩ ∧ W.cell? ⟨b, o + i, none⟩ = some u ∧ Pts W u (l.getD i []) := by
  obtain ⟨A', c', e, _, _, h3⟩ := h
  injection e with e1 e2 e3
  subst e1
  obtain ⟨b, o, rfl, hc⟩ := h3 (by omega)
  obtain ⟨cs, k1, ⟨u, rfl, k2⟩, k3⟩ := hc i _ (List.getElem?_eq_getElem hi)
  refine ⟨b, o, u, rfl, ?_, by simpa [List.getD, List.getElem?_eq_getElem hi] using k2⟩
  simpa using k3 0 u rfl
set_option maxRecDepth 100000 in
theorem ptss_came {H : Type} {enc : TypeId × Value → H} {W : World} {base : Nat} {v : Value} {d : DataW H} {p : List MemPlace}
    (hval : Value.okWide Try.prog W .any base 22 v) (h : DataW.Trod enc Try.prog W 0 (fun _ => true) true 22 v d p) : ∃ l : List (List Pt), Ptss W v l := by
  obtain ⟨a0, len0, cap0, rfl⟩ := okWide_slice Try.underlying22 hval
  obtain ⟨fuel, hf⟩ := h
  obtain ⟨v, l, hv, hl⟩ := slice_came (α := List Pt) (s := 1) Try.underlying22 (by kernel_rfl) (by decide) (fun cs x => ∃ u, cs = [u] ∧ Pts W u x) (fun fuel cs x h => by
    obtain ⟨u, l, e, hl⟩ := slice_came (α := Pt) (s := 6) Try.underlying24 (by kernel_rfl) (by decide) (PtR W) (fun _ _ _ h => part_trod h) h
    exact ⟨l, u, e, hl⟩) hf
  simp [Value.cells] at hv
  rw [hv]
  exact ⟨l, hl⟩
end Go.Proofs.Ytdlllihfibjabaa
