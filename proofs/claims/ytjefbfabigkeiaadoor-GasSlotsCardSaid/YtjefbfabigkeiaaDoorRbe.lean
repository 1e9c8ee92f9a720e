/- Slices of pairs of words that came in; a pair that lies in memory. -/
import Derived.Test.YtjefbfabigkeiaaDoorInw
import Derived.Test.YtjefbfabigkeiaaDoorByt
import Derived.Deep.Slices
import Derived.Deep.MidRow
namespace Go.Proofs.YtjefbfabigkeiaaDoor
open Go.ChangeShapes Go.WideShapes Go.ChangeAt Go.RowKit

/-- The eight cells of a pair. -/
def pcs (x y : Nat) : Array Value := ((wc x).toList ++ (wc y).toList).toArray
set_option maxRecDepth 100000 in
theorem pcs_size (x y : Nat) : (pcs x y).size = 8 := rfl
set_option maxRecDepth 100000 in
theorem pcs_one (x y : Nat) : (pcs x y).all (·.oneCell') = true := by simp [pcs, wc, lv, Value.oneCell']
set_option maxRecDepth 100000 in
theorem pcs_fst {W : World} {g : Nat} {t : TypeId} {x y : Nat} (h : Cs W g t (pcs x y)) : W.rangeAt g 0 (wc x).toList := by
  intro j v hj
  have hl : j < 4 := by have := (List.getElem?_eq_some_iff.1 hj).1; simpa [wc] using this
  rw [Nat.zero_add]
  refine h.cell j v ?_
  unfold pcs
  rw [List.getElem?_toArray, List.getElem?_append_left (by simpa [wc] using hl)]
  exact hj
set_option maxRecDepth 100000 in
theorem pcs_snd {W : World} {g : Nat} {t : TypeId} {x y : Nat} (h : Cs W g t (pcs x y)) : W.rangeAt g 4 (wc y).toList := by
  intro j v hj
  refine h.cell (4 + j) v ?_
  unfold pcs
  rw [List.getElem?_toArray, List.getElem?_append_right (by simp [wc]), show 4 + j - (wc x).toList.length = j by simp [wc]]
  exact hj
set_option maxRecDepth 100000 in
/-- A word is loaded out of a pair. -/
theorem wpList_load_half {ops : Array Oper} {rest : List Oper} {o : Oper} {a : Act} {W : World} {Q : Exit → Act → World → Prop} (hgd : o.guard = none) (x : Operand) (ho : o.op = .load 36 x) (g off n : Nat) (hx : a.eval x = .pointer (some ⟨g, off, none⟩))
    (hr : W.rangeAt g off (wc n).toList) (h : wpList Tryd.prog ops Q rest (a.put o.dst (wv n)) W) : wpList Tryd.prog ops Q (o :: rest) a W :=
  wpList_load_mid hgd 36 x ho g off hx (wc n).toList _ hr Tryd.underlying36 rfl winfo h

/-- The slice v reads as the pairs l. -/
def Ps (w : World) (v : Value) (l : List (Nat × Nat)) : Prop :=
  (∀ p ∈ l, p.1 < M256 ∧ p.2 < M256) ∧ ∃ A c, v = .slice A l.length c ∧ l.length ≤ c ∧ c ≤ maxLen ∧ (0 < l.length → ∃ b o, A = some ⟨b, o, none⟩ ∧ ∀ i p, l[i]? = some p → w.rangeAt b (o + i * 8) (pcs p.1 p.2).toList)

set_option maxRecDepth 100000 in
theorem word_trod {H : Type} {enc : TypeId × Value → H} {W : World} {base fuel : Nat} {f : Nat → Bool} {b : Bool} {cs : List Value} {x : DataW H × List MemPlace} (h : DataW.trod enc Tryd.prog W base f b fuel 36 cs = some x) : ∃ z, z < M256 ∧ cs.length = 4 ∧ ∀ j, j < 4 → cs[j]? = some (.int .u64 (lb z j : Nat)) := by
  obtain ⟨xs, k, _, _, hlen, hxl, hel⟩ := DataW.trod_array Tryd.underlying36 h
  have hce : Tryd.prog.cellsOf 24 = 1 := by kernel_rfl
  have hC : Tryd.prog.cellsOf 36 = 4 := by kernel_rfl
  rw [hC] at hlen
  have ez : ∀ j, j < 4 → ∃ z : Nat, z < 18446744073709551616 ∧ cs[j]? = some (.int .u64 (z : Nat)) := by
    intro j hj
    have hh := hel j hj
    rw [hce, Nat.mul_one] at hh
    have hxj : xs[j]? = some (xs[j]'(by omega)) := List.getElem?_eq_getElem (by omega)
    rw [hxj] at hh
    obtain ⟨z, e0, _, wz⟩ := DataW.trod_int Tryd.underlying24 hh
    have hb : 0 ≤ z ∧ z ≤ 18446744073709551615 := by simpa [Lit.wf, IntKind.min, IntKind.max, IntKind.signed, IntKind.bits] using wz
    refine ⟨z.toNat, by omega, ?_⟩
    have e1 : (List.take 1 (List.drop j cs))[0]? = cs[j]? := by rw [List.getElem?_take, if_pos (by omega), List.getElem?_drop, Nat.add_zero]
    rw [e0] at e1
    rw [← e1, Int.toNat_of_nonneg hb.1]
    rfl
  obtain ⟨z0, b0, e0⟩ := ez 0 (by omega)
  obtain ⟨z1, b1, e1⟩ := ez 1 (by omega)
  obtain ⟨z2, b2, e2⟩ := ez 2 (by omega)
  obtain ⟨z3, b3, e3⟩ := ez 3 (by omega)
  obtain ⟨l0, l1, l2, l3⟩ := lb_ofL z0 z1 z2 z3 b0 b1 b2 b3
  refine ⟨ofL z0 z1 z2 z3, ofL_lt _ _ _ _ b0 b1 b2 b3, hlen, fun j hj => ?_⟩
  match j, hj with
  | 0, _ => rw [l0]; exact e0
  | 1, _ => rw [l1]; exact e1
  | 2, _ => rw [l2]; exact e2
  | 3, _ => rw [l3]; exact e3
set_option maxRecDepth 100000 in
theorem wc_list (z : Nat) (cs : List Value) (hl : cs.length = 4) (h : ∀ j, j < 4 → cs[j]? = some (.int .u64 (lb z j : Nat))) : cs = (wc z).toList := by
  apply List.ext_getElem?
  intro j
  by_cases hj : j < 4
  · rw [h j hj]
    have := wc_get z j hj
    rw [← Array.getElem?_toList] at this
    exact this.symm
  · rw [List.getElem?_eq_none (by omega), List.getElem?_eq_none (by simp [wc]; omega)]
set_option maxRecDepth 100000 in
theorem pair_trod {H : Type} {enc : TypeId × Value → H} {W : World} {base fuel : Nat} {f : Nat → Bool} {b : Bool} {cs : List Value} {x : DataW H × List MemPlace} (h : DataW.trod enc Tryd.prog W base f b fuel 37 cs = some x) : ∃ p : Nat × Nat, p.1 < M256 ∧ p.2 < M256 ∧ cs = (pcs p.1 p.2).toList := by
  obtain ⟨xs, k, _, _, hlen, hxl, hel⟩ := DataW.trod_array Tryd.underlying37 h
  have hC : Tryd.prog.cellsOf 36 = 4 := by kernel_rfl
  have hC2 : Tryd.prog.cellsOf 37 = 8 := by kernel_rfl
  rw [hC2] at hlen
  have h0 := hel 0 (by omega)
  have h1 := hel 1 (by omega)
  rw [hC, show xs[0]? = some (xs[0]'(by omega)) from List.getElem?_eq_getElem (by omega)] at h0
  rw [hC, show xs[1]? = some (xs[1]'(by omega)) from List.getElem?_eq_getElem (by omega)] at h1
  obtain ⟨z0, b0, k0, e0⟩ := word_trod h0
  obtain ⟨z1, b1, k1, e1⟩ := word_trod h1
  refine ⟨(z0, z1), b0, b1, ?_⟩
  have f0 := wc_list z0 _ k0 e0
  have f1 := wc_list z1 _ k1 e1
  rw [Nat.zero_mul, List.drop_zero] at f0
  rw [Nat.one_mul, List.take_of_length_le (by rw [List.length_drop]; omega)] at f1
  show cs = (wc z0).toList ++ (wc z1).toList
  rw [← f0, ← f1, List.take_append_drop]

set_option maxRecDepth 100000 in
/-- A slice of pairs that came in. -/
theorem ps_came {H : Type} {enc : TypeId × Value → H} {W : World} {base : Nat} {v : Value} {d : DataW H} {p : List MemPlace}
    (hval : Value.okWide Tryd.prog W .any base 32 v) (h : DataW.Trod enc Tryd.prog W 0 (fun _ => true) true 32 v d p) : ∃ l : List (Nat × Nat), Ps W v l := by
  obtain ⟨a0, len0, cap0, rfl⟩ := okWide_slice Tryd.underlying32 hval
  obtain ⟨fuel, hf⟩ := h
  have hC : Tryd.prog.cellsOf 37 = 8 := by kernel_rfl
  rcases Go.Deep.open_slice Tryd.underlying32 hf with ⟨hcs, _⟩ | ⟨a, len, cap, m, n, D, Pl, hcs, _, hl, hm, hmm, _, hx⟩
  · simp [Value.cells] at hcs
    obtain ⟨rfl, rfl, rfl⟩ := hcs
    exact ⟨[], (fun _ h => by cases h), none, 0, rfl, Nat.le_refl _, Nat.zero_le _, fun h => absurd h (by simp)⟩
  · simp [Value.cells] at hcs
    obtain ⟨rfl, rfl, rfl⟩ := hcs
    simp only [if_true] at hmm
    subst hmm
    rw [hC] at hx
    have each : ∀ i, ∃ z : Nat × Nat, i < len0 → (z.1 < M256 ∧ z.2 < M256) ∧ ∀ j u, (pcs z.1 z.2).toList[j]? = some u → W.cell? (a.add (i * 8 + j)) = some u := by
      intro i
      by_cases hi : i < len0
      · obtain ⟨cs', hc, ht⟩ := hx i (by omega)
        obtain ⟨_, hlen, hat⟩ := World.cells?_some hc
        obtain ⟨z, b0, b1, e⟩ := pair_trod ht
        refine ⟨z, fun _ => ⟨⟨b0, b1⟩, fun j u hu => ?_⟩⟩
        rw [← e] at hu
        have hj : j < 8 := by have := (List.getElem?_eq_some_iff.1 hu).1; omega
        rw [← Go.Deep.add_add, hat j hj]
        exact hu
      · exact ⟨(0, 0), fun h => absurd h hi⟩
    obtain ⟨f, hf'⟩ : ∃ f : Nat → Nat × Nat, ∀ i, i < len0 → ((f i).1 < M256 ∧ (f i).2 < M256) ∧ ∀ j u, (pcs (f i).1 (f i).2).toList[j]? = some u → W.cell? (a.add (i * 8 + j)) = some u := ⟨fun i => Classical.choose (each i), fun i => Classical.choose_spec (each i)⟩
    have hlen : ((List.range len0).map f).length = len0 := by simp
    refine ⟨(List.range len0).map f, fun p hp => ?_, some a, m, by rw [hlen], by rw [hlen]; exact hl, hm, fun hp => ?_⟩
    · obtain ⟨i, hi, rfl⟩ := List.mem_map.1 hp
      exact (hf' i (by simpa using hi)).1
    · rw [hlen] at hp
      obtain ⟨b, o, sp⟩ := a
      have hc0 := (hf' 0 hp).2 0 _ rfl
      obtain rfl : sp = none := by simpa [Addr.add] using World.cell?_spot hc0
      refine ⟨b, o, rfl, fun i p hpi j u hu => ?_⟩
      have hi : i < len0 := by
        have := (List.getElem?_eq_some_iff.1 hpi).1
        omega
      rw [List.getElem?_map, List.getElem?_range hi] at hpi
      simp at hpi
      subst hpi
      rw [← (hf' i hi).2 j u hu, add_plain, Nat.add_assoc]
end Go.Proofs.YtjefbfabigkeiaaDoor
