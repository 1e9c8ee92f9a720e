/- The frame of a tied row: what the listed tables are when the call begins. -/
import Derived.Test.YthjmjccggkejhaaDoorSpo
import Derived.Test.YthjmjccggkejhaaDoorFrm
import Derived.LaidMore
import Derived.Stop.Joined
namespace Go.Proofs.YthjmjccggkejhaaDoor
open Go.ChangeShapes Go.WideShapes Go.ChangeAt Go.RowKit

/-- What the listed variables read as. -/
def laid2 : List (String × DataW Unit) := [("sheafer/sponge.turns", Rows.laid_sheafer_sponge_turns), ("sheafer/sponge.roundNumbers", Rows.laid_sheafer_sponge_roundNumbers)]
set_option maxRecDepth 100000 in
theorem var_block {P : Program} {w : World} {n : String} {g : Nat} {cs : Array Value} (hg : P.globalNamed n = some g) (h : w.var? P n = some cs) : ∃ t p, w.heap[g]? = some (.cells cs t p) := by
  simp only [World.var?, hg, Option.bind_some] at h
  split at h
  · injection h with h
    subst h
    exact ⟨_, _, by assumption⟩
  · cases h
set_option maxRecDepth 100000 in
theorem tab_of {P : Program} {W : World} {H : Type} {enc : TypeId × Value → H} {spare : Nat → Bool} {base fuel n : Nat} {held : Bool} {t e : TypeId} {cs : List Value} {ns : List Nat} {p : List MemPlace} (ht : P.underlying t = some (.array n e)) (he : P.underlying e = some (.int .u64)) (hce : P.cellsOf e = 1) (hct : P.cellsOf t = n)
    (hns : ns.length = n) (h : DataW.trod enc P W base spare held fuel t cs = some (.agg (ns.map fun (k : Nat) => .lit (.int .u64 (k : Int))), p)) : cs = ns.map fun (k : Nat) => Value.int .u64 (k : Int) := by
  obtain ⟨xs, m, _, hx, hlen, hn, hel⟩ := DataW.trod_array ht h
  injection hx with hx _
  injection hx with hx
  rw [hce] at hel
  apply List.ext_getElem (by rw [hlen, hct, List.length_map, hns])
  intro i h1 h2
  have hi : i < n := by rw [hlen, hct] at h1; exact h1
  have hxi : i < xs.length := by omega
  have h3 := hel i hi
  rw [List.getElem?_eq_getElem hxi] at h3
  obtain ⟨k, e1, e2, _⟩ := DataW.trod_int he h3
  have e3 : (xs.map (·.1))[i]? = some (.lit (.int .u64 k)) := by rw [List.getElem?_map, List.getElem?_eq_getElem hxi, e2]; rfl
  rw [← hx, List.getElem?_map, List.getElem?_eq_getElem (by omega)] at e3
  simp only [Option.map_some, Option.some.injEq, DataW.lit.injEq, Lit.int.injEq, true_and] at e3
  rw [Nat.mul_one, List.drop_eq_getElem_cons h1, List.take_succ_cons, List.take_zero] at e1
  injection e1 with e1 _
  rw [e1, List.getElem_map, e3]
set_option maxRecDepth 100000 in
theorem gTurns : Tryd.prog.globalNamed "sheafer/sponge.turns" = some 0 := by kernel_rfl
set_option maxRecDepth 100000 in
theorem gNums : Tryd.prog.globalNamed "sheafer/sponge.roundNumbers" = some 1 := by kernel_rfl
set_option maxRecDepth 100000 in
theorem tTurns : (Tryd.prog.globals[0]?).map (·.type) = some 77 := by kernel_rfl
set_option maxRecDepth 100000 in
theorem tNums : (Tryd.prog.globals[1]?).map (·.type) = some 79 := by kernel_rfl
set_option maxRecDepth 100000 in
theorem tb_of_laid {W : World} (h : laidMetH Tryd.prog laid2 W) : Tb W := by
  rw [MakeChecks.laidMetH_plain _ _ _ (by kernel_rfl)] at h
  obtain ⟨ps, ⟨g0, t0, cs0, f0, p0, q0, hg0, ht0, hv0, hd0, ⟨g1, t1, cs1, f1, p1, q1, hg1, ht1, hv1, hd1, _, _⟩, _⟩, _, _⟩ := h
  obtain rfl := Option.some.inj (gTurns.symm.trans hg0)
  obtain rfl := Option.some.inj (gNums.symm.trans hg1)
  obtain rfl := Option.some.inj (tTurns.symm.trans ht0)
  obtain rfl := Option.some.inj (tNums.symm.trans ht1)
  have e0 := tab_of (ns := (List.range 25).map turnsF) Tryd.underlying77 Tryd.underlying58 (by kernel_rfl) (by kernel_rfl) (by simp) hd0
  have e1 := tab_of (ns := (List.range 24).map rnN) Tryd.underlying79 Tryd.underlying33 (by kernel_rfl) (by kernel_rfl) (by simp) hd1
  obtain ⟨a0, b0, h0⟩ := var_block hg0 hv0
  obtain ⟨a1, b1, h1⟩ := var_block hg1 hv1
  refine ⟨⟨a0, b0, ?_⟩, ⟨a1, b1, ?_⟩⟩
  · rw [h0]
    congr 2
    apply Array.toList_inj.1
    rw [e0]
    simp [nc, lv]
  · rw [h1]
    congr 2
    apply Array.toList_inj.1
    rw [e1]
    simp [nc, lv]
end Go.Proofs.YthjmjccggkejhaaDoor
