/- What comes in: rows of digests, of lanes. -/
import Derived.Test.YthjmjccggkejhaaDoorSpr
import Derived.Deep.Slices
import Derived.Maps.AppendAt
import Derived.Deep.MidRow

namespace Go.Proofs.YthjmjccggkejhaaDoor
open Go.ChangeShapes Go.WideShapes Go.ChangeAt Go.RowKit

/-- The slice v reads as the rows l, each of N numbers of kind k below M. -/
def As (W : World) (N : Nat) (k : IntKind) (M : Nat) (v : Value) (l : List (Nat → Nat)) : Prop :=
  ∃ A c, v = .slice A l.length c ∧ l.length ≤ c ∧ c ≤ maxLen ∧ (0 < l.length → ∃ b o, A = some ⟨b, o, none⟩ ∧ ∀ i, i < l.length → ∀ j, j < N → W.cell? ⟨b, o + i * N + j, none⟩ = some (.int k ((l.getD i (fun _ => 0)) j : Nat))) ∧
    ∀ i, i < l.length → ∀ j, j < N → (l.getD i (fun _ => 0)) j < M
set_option maxRecDepth 100000 in
theorem As.ext {W W' : World} {N : Nat} {k : IntKind} {M : Nat} {v : Value} {l : List (Nat → Nat)} (h : As W N k M v l) (he : Ext W W') : As W' N k M v l := by
  obtain ⟨A, c, e, h1, h2, h3, h4⟩ := h
  refine ⟨A, c, e, h1, h2, fun hp => ?_, h4⟩
  obtain ⟨b, o, ea, hc⟩ := h3 hp
  exact ⟨b, o, ea, fun i hi j hj => he.cell (hc i hi j hj)⟩

set_option maxRecDepth 100000 in
theorem as_came {H : Type} {enc : TypeId × Value → H} {W : World} {base N M : Nat} {k : IntKind} {t a e : TypeId} {v : Value} {d : DataW H} {p : List MemPlace} (ht : Tryd.prog.underlying t = some (.slice a)) (ha : Tryd.prog.underlying a = some (.array N e)) (he : Tryd.prog.underlying e = some (.int k))
    (hca : Tryd.prog.cellsOf a = N) (hce : Tryd.prog.cellsOf e = 1) (hN : 0 < N) (hM : ∀ z : Int, (Lit.int k z).wf = true → 0 ≤ z ∧ z < (M : Int))
    (hval : Value.okWide Tryd.prog W .any base t v) (h : DataW.Trod enc Tryd.prog W 0 (fun _ => true) true t v d p) : ∃ l : List (Nat → Nat), As W N k M v l := by
  obtain ⟨a0, len0, cap0, rfl⟩ := okWide_slice ht hval
  obtain ⟨fuel, hf⟩ := h
  rcases Go.Deep.open_slice ht hf with ⟨hcs, _⟩ | ⟨a, len, cap, m, n, D, Pl, hcs, _, hl, hm, hmm, _, hx⟩
  · simp [Value.cells] at hcs
    obtain ⟨rfl, rfl, rfl⟩ := hcs
    exact ⟨[], none, 0, rfl, Nat.le_refl _, Nat.zero_le _, fun h => absurd h (by simp), fun i h => absurd h (by simp)⟩
  · simp [Value.cells] at hcs
    obtain ⟨rfl, rfl, rfl⟩ := hcs
    simp only [if_true] at hmm
    subst hmm
    rw [hca] at hx
    have each : ∀ i, i < len0 → ∀ j, ∃ z : Nat, j < N → z < M ∧ W.cell? (a.add (i * N + j)) = some (.int k (z : Nat)) := by
      intro i hi j
      by_cases hj : j < N
      · obtain ⟨cs', hc, ht'⟩ := hx i (by omega)
        obtain ⟨_, hlen, hat⟩ := World.cells?_some hc
        obtain ⟨xs, k', _, _, _, hxl, hel⟩ := DataW.trod_array ha ht'
        have hh := hel j hj
        rw [hce, Nat.mul_one] at hh
        have hxj : xs[j]? = some (xs[j]'(by omega)) := List.getElem?_eq_getElem (by omega)
        rw [hxj] at hh
        obtain ⟨z, e0, _, wz⟩ := DataW.trod_int he hh
        have hb := hM z wz
        refine ⟨z.toNat, fun _ => ⟨by omega, ?_⟩⟩
        have e1 : (List.take 1 (List.drop j cs'))[0]? = cs'[j]? := by rw [List.getElem?_take, if_pos (by omega), List.getElem?_drop, Nat.add_zero]
        rw [e0] at e1
        rw [← Go.Deep.add_add, hat j hj, ← e1, Int.toNat_of_nonneg hb.1]
        rfl
      · exact ⟨0, fun h => absurd h hj⟩
    have pick : ∀ i, ∃ f : Nat → Nat, i < len0 → ∀ j, j < N → f j < M ∧ W.cell? (a.add (i * N + j)) = some (.int k (f j : Nat)) := by
      intro i
      by_cases hi : i < len0
      · exact ⟨fun j => Classical.choose (each i hi j), fun _ j hj => Classical.choose_spec (each i hi j) hj⟩
      · exact ⟨fun _ => 0, fun h => absurd h hi⟩
    obtain ⟨F, hF⟩ : ∃ F : Nat → Nat → Nat, ∀ i, i < len0 → ∀ j, j < N → F i j < M ∧ W.cell? (a.add (i * N + j)) = some (.int k (F i j : Nat)) := ⟨fun i => Classical.choose (pick i), fun i => Classical.choose_spec (pick i)⟩
    have hlen : ((List.range len0).map F).length = len0 := by simp
    have hget : ∀ i, i < len0 → ((List.range len0).map F).getD i (fun _ => 0) = F i := fun i hi => by simp [List.getD, hi]
    refine ⟨(List.range len0).map F, some a, m, by rw [hlen], by rw [hlen]; exact hl, hm, fun hp => ?_, fun i hi j hj => ?_⟩
    · rw [hlen] at hp
      obtain ⟨b, o, sp⟩ := a
      have hc0 := (hF 0 hp 0 hN).2
      obtain rfl : sp = none := by simpa [Addr.add] using World.cell?_spot hc0
      refine ⟨b, o, rfl, fun i hi j hj => ?_⟩
      rw [hlen] at hi
      rw [hget i hi, ← (hF i hi j hj).2, add_plain, Nat.add_assoc]
    · rw [hlen] at hi
      rw [hget i hi]
      exact (hF i hi j hj).1
set_option maxRecDepth 100000 in
/-- A digest in the midst of a block is loaded. -/
theorem wpList_load_idAt {ops : Array Oper} {rest : List Oper} {o : Oper} {a : Act} {w : World} {Q : Exit → Act → World → Prop} (hgd : Region.wanted o (yielded ops a.tmps) = true) (x : Operand) (ho : o.op = .load 27 x)
    (g k : Nat) (f : Nat → Nat) (hx : a.eval x = .pointer (some ⟨g, k, none⟩)) (hg : w.rangeAt g k (ic f).toList) (h : wpList Tryd.prog ops Q rest (a.put o.dst (idv f)) w) : wpList Tryd.prog ops Q (o :: rest) a w := by
  refine wpList_step fun K hK => ?_
  rw [if_pos hgd]
  refine wp_load_mid 27 x ho g k hx (ic f).toList _ hg Tryd.underlying27 rfl iinfo ?_
  exact hK _ _ h
set_option maxRecDepth 100000 in
/-- Lanes in the midst of a block are loaded. -/
theorem wpList_load_lanesAt {ops : Array Oper} {rest : List Oper} {o : Oper} {a : Act} {w : World} {Q : Exit → Act → World → Prop} (hgd : Region.wanted o (yielded ops a.tmps) = true) (x : Operand) (ho : o.op = .load 35 x)
    (g k : Nat) (f : Nat → Nat) (hx : a.eval x = .pointer (some ⟨g, k, none⟩)) (hg : w.rangeAt g k (lc f).toList) (h : wpList Tryd.prog ops Q rest (a.put o.dst (lnv f)) w) : wpList Tryd.prog ops Q (o :: rest) a w := by
  refine wpList_step fun K hK => ?_
  rw [if_pos hgd]
  refine wp_load_mid 35 x ho g k hx (lc f).toList _ hg Tryd.underlying35 rfl linfo ?_
  exact hK _ _ h
set_option maxRecDepth 100000 in
theorem rangeAt_ext {w w' : World} {b o : Nat} {cs : List Value} (h : w.rangeAt b o cs) (he : Ext w w') : w'.rangeAt b o cs := fun j v hv => he.cell (h j v hv)
set_option maxRecDepth 100000 in
/-- A row of digests: its shape, and each of them. -/
theorem As.ids {W : World} {v : Value} {l : List (Nat → Nat)} (h : As W 32 .u8 256 v l) (hp : 0 < l.length) :
    ∃ b o c, v = .slice (some ⟨b, o, none⟩) l.length c ∧ (∀ i, i < l.length → W.rangeAt b (o + i * 32) (ic (l.getD i fun _ => 0)).toList) ∧ ∀ i, i < l.length → ∀ j, j < 32 → (l.getD i fun _ => 0) j < 256 := by
  obtain ⟨A, c, rfl, h1, h2, h3, h4⟩ := h
  obtain ⟨b, o, rfl, hc⟩ := h3 hp
  refine ⟨b, o, c, rfl, fun i hi j v hv => ?_, h4⟩
  have hj : j < 32 := by
    have := (List.getElem?_eq_some_iff.1 hv).1
    simpa [ic] using this
  rw [Array.getElem?_toList, ic_get _ j hj] at hv
  injection hv with hv
  rw [← hv]
  exact hc i hi j hj
set_option maxRecDepth 100000 in
/-- A row of lanes: its shape, and each of them. -/
theorem As.lanes {W : World} {v : Value} {l : List (Nat → Nat)} (h : As W 25 .u64 18446744073709551616 v l) (hp : 0 < l.length) :
    ∃ b o c, v = .slice (some ⟨b, o, none⟩) l.length c ∧ (∀ i, i < l.length → W.rangeAt b (o + i * 25) (lc (l.getD i fun _ => 0)).toList) ∧ ∀ i, i < l.length → Lok (l.getD i fun _ => 0) := by
  obtain ⟨A, c, rfl, h1, h2, h3, h4⟩ := h
  obtain ⟨b, o, rfl, hc⟩ := h3 hp
  refine ⟨b, o, c, rfl, fun i hi j v hv => ?_, h4⟩
  have hj : j < 25 := by
    have := (List.getElem?_eq_some_iff.1 hv).1
    simpa [lc, nc] using this
  rw [Array.getElem?_toList, lc_get _ j hj] at hv
  injection hv with hv
  rw [← hv]
  exact hc i hi j hj
set_option maxRecDepth 100000 in
/-- A digest, lanes, that came in by value. -/
theorem lanes_came {H : Type} {enc : TypeId × Value → H} {W : World} {base : Nat} {v : Value} {d : DataW H} {p : List MemPlace} (hval : Value.okWide Tryd.prog W .any base 35 v) (h : DataW.Trod enc Tryd.prog W 0 (fun _ => true) true 35 v d p) :
    ∃ f, v = lnv f ∧ Lok f := by
  obtain ⟨zs, hl, rfl, hz⟩ := arr_came Tryd.underlying35 Tryd.underlying33 (by kernel_rfl) (by kernel_rfl) hval h
  have hb : ∀ z ∈ zs, 0 ≤ z ∧ z ≤ 18446744073709551615 := fun z h => by simpa [Lit.wf, IntKind.min, IntKind.max, IntKind.signed, IntKind.bits] using hz z h
  refine ⟨fun i => (zs.getD i 0).toNat, ?_, fun i hi => ?_⟩
  · unfold lnv lc nc
    congr 2
    apply List.ext_getElem (by simp [hl])
    intro i h1 h2
    have hi : i < zs.length := by simpa using h1
    have h0 := hb zs[i] (List.getElem_mem hi)
    simp only [List.getElem_map, List.getElem_range, lv, List.getD, List.getElem?_eq_getElem hi, Option.getD_some]
    rw [Int.toNat_of_nonneg h0.1]
  · have hi' : i < zs.length := by omega
    have h0 := hb zs[i] (List.getElem_mem hi')
    simp only [List.getD, List.getElem?_eq_getElem hi', Option.getD_some]
    omega
end Go.Proofs.YthjmjccggkejhaaDoor
