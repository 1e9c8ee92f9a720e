/- A word that came in, as cells. -/
import Derived.Test.YtmojbekihbmdfaaWrl
import Derived.Deep.Strs
namespace Go.Proofs.Ytmojbekihbmdfaa
open Go.ChangeShapes Go.WideShapes Go.ChangeAt Go.RowKit

set_option maxRecDepth 100000 in
theorem word_trod {H : Type} {enc : TypeId × Value → H} {W : World} {base fuel : Nat} {f : Nat → Bool} {b : Bool} {cs : List Value} {x : DataW H × List MemPlace} (h : DataW.trod enc Try.prog W base f b fuel 31 cs = some x) : ∃ z, z < M256 ∧ cs.length = 4 ∧ ∀ j, j < 4 → cs[j]? = some (.int .u64 (lb z j : Nat)) := by
  obtain ⟨xs, k, _, _, hlen, hxl, hel⟩ := DataW.trod_array Try.underlying31 h
  have hce : Try.prog.cellsOf 28 = 1 := by kernel_rfl
  have hC : Try.prog.cellsOf 31 = 4 := by kernel_rfl
  rw [hC] at hlen
  have ez : ∀ j, j < 4 → ∃ z : Nat, z < 18446744073709551616 ∧ cs[j]? = some (.int .u64 (z : Nat)) := by
    intro j hj
    have hh := hel j hj
    rw [hce, Nat.mul_one] at hh
    have hxj : xs[j]? = some (xs[j]'(by omega)) := List.getElem?_eq_getElem (by omega)
    rw [hxj] at hh
    obtain ⟨z, e0, _, wz⟩ := DataW.trod_int Try.underlying28 hh
    have hb : 0 ≤ z ∧ z ≤ 18446744073709551615 := by simpa [Lit.wf, IntKind.min, IntKind.max, IntKind.signed, IntKind.bits] using wz
    refine ⟨z.toNat, by omega, ?_⟩
    have e1 : (List.take 1 (List.drop j cs))[0]? = cs[j]? := by rw [List.getElem?_take, if_pos (by omega), List.getElem?_drop, Nat.add_zero]
    rw [e0] at e1
    rw [← e1, Int.toNat_of_nonneg hb.1]
    rfl
  obtain ⟨z0, b0, e0⟩ := ez 0 (by omega)
  obtain ⟨z1, b1, e1⟩ := ez 1 (by omega)
  obtain ⟨z2, b2, e2⟩ := ez 2 (by omega)
  obtain ⟨z3, b3, e3⟩ := ez 3 (by omega)
  obtain ⟨l0, l1, l2, l3⟩ := lb_ofL z0 z1 z2 z3 b0 b1 b2 b3
  refine ⟨ofL z0 z1 z2 z3, ofL_lt _ _ _ _ b0 b1 b2 b3, hlen, fun j hj => ?_⟩
  match j, hj with
  | 0, _ => rw [l0]; exact e0
  | 1, _ => rw [l1]; exact e1
  | 2, _ => rw [l2]; exact e2
  | 3, _ => rw [l3]; exact e3
set_option maxRecDepth 100000 in
theorem wc_list (z : Nat) (cs : List Value) (hl : cs.length = 4) (h : ∀ j, j < 4 → cs[j]? = some (.int .u64 (lb z j : Nat))) : cs = (wc z).toList := by
  apply List.ext_getElem?
  intro j
  by_cases hj : j < 4
  · rw [h j hj]
    have := wc_get z j hj
    rw [← Array.getElem?_toList] at this
    exact this.symm
  · rw [List.getElem?_eq_none (by omega), List.getElem?_eq_none (by simp [wc]; omega)]
end Go.Proofs.Ytmojbekihbmdfaa
