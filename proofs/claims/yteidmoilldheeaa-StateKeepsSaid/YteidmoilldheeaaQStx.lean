/- States that came in; rows of accounts that rise; two states made side by side. -/
import Derived.Test.YteidmoilldheeaaQStw
namespace Go.Proofs.Yteidmoilldheeaa
open Go.ChangeShapes Go.WideShapes Go.ChangeAt Go.RowKit Go.Shelf

set_option maxRecDepth 100000 in
theorem state_came {H : Type} {enc : TypeId × Value → H} {W : World} {base : Nat} {v : Value} {d : DataW H} {p : List MemPlace}
    (hval : Value.okWide Try.prog W .any base 24 v) (h : DataW.Trod enc Try.prog W 0 (fun _ => true) true 24 v d p) : ∃ (s : Value) (l : List Ac), v = .agg #[s] ∧ Acs W s l := by
  simp only [Value.okWide, Try.underlying24] at hval
  obtain ⟨cs, rfl, hsz, _⟩ := hval
  have hC : Try.prog.cellsOf 24 = 1 := by kernel_rfl
  have hS : Try.prog.cellsOf 22 = 1 := by kernel_rfl
  rw [hC] at hsz
  obtain ⟨fuel, hf⟩ := h
  obtain ⟨y0, n, _, _, h0⟩ := trod_struct1 Try.underlying24 hf
  dsimp only at h0
  rw [hS] at h0
  obtain ⟨s, l, hv, hl⟩ := slice_came (α := Ac) (s := 8) Try.underlying22 (by kernel_rfl) (by decide) (AcR W) (fun _ _ _ h => ac_trod h) h0
  refine ⟨s, l, ?_, hl⟩
  have e : cs.toList = [s] := by
    rw [← hv]
    simp [Value.cells, List.take_of_length_le, hsz]
  have : cs = #[s] := by apply Array.toList_inj.1; rw [e]
  rw [this]

/-! ### Rows of accounts that rise -/
def RiseA (l : List Ac) : Prop := l.Pairwise (fun p q => p.addr < q.addr)
set_option maxRecDepth 100000 in
theorem RiseA.uniq : ∀ {l : List Ac}, RiseA l → ∀ p ∈ l, ∀ q ∈ l, p.addr = q.addr → p = q
  | x :: l, h, p, hp, q, hq, e => by
    obtain ⟨h1, h2⟩ := List.pairwise_cons.1 h
    rcases List.mem_cons.1 hp with hp | hp
    · rcases List.mem_cons.1 hq with hq | hq
      · rw [hp, hq]
      · exact absurd (h1 q hq) (by rw [← hp]; omega)
    · rcases List.mem_cons.1 hq with hq | hq
      · exact absurd (h1 p hp) (by rw [← hq]; omega)
      · exact RiseA.uniq h2 p hp q hq e
set_option maxRecDepth 100000 in
theorem RiseA.ext : ∀ {l m : List Ac}, RiseA l → RiseA m → (∀ p ∈ l, p ∈ m) → (∀ p ∈ m, p ∈ l) → l = m
  | [], [], _, _, _, _ => rfl
  | [], q :: _, _, _, _, h => nomatch h q List.mem_cons_self
  | p :: _, [], _, _, h, _ => nomatch h p List.mem_cons_self
  | p :: l, q :: m, hl, hm, h1, h2 => by
    obtain ⟨a1, a2⟩ := List.pairwise_cons.1 hl
    obtain ⟨b1, b2⟩ := List.pairwise_cons.1 hm
    have e : p = q := by
      rcases List.mem_cons.1 (h1 p List.mem_cons_self) with e | hp
      · exact e
      · rcases List.mem_cons.1 (h2 q List.mem_cons_self) with e | hq
        · exact e.symm
        · have := b1 p hp
          have := a1 q hq
          omega
    subst e
    rw [RiseA.ext a2 b2 (fun x hx => by
      rcases List.mem_cons.1 (h1 x (List.mem_cons_of_mem _ hx)) with rfl | h
      · exact absurd (a1 x hx) (by omega)
      · exact h) (fun x hx => by
      rcases List.mem_cons.1 (h2 x (List.mem_cons_of_mem _ hx)) with rfl | h
      · exact absurd (b1 x hx) (by omega)
      · exact h)]
set_option maxRecDepth 100000 in
theorem accF_mem {l : List Ac} (h : RiseA l) {p : Ac} (hp : p ∈ l) : accF l p.addr = (p, true) := by
  unfold accF
  cases hf : l.find? (fun q => q.addr == p.addr) with
  | none =>
    have := List.find?_eq_none.1 hf p hp
    simp at this
  | some q =>
    have hq := List.mem_of_find?_eq_some hf
    have he := List.find?_some hf
    rw [h.uniq q hq p hp (by simpa using he)]
set_option maxRecDepth 100000 in
theorem accF_else {l : List Ac} {a : Nat} : (∃ p ∈ l, p.addr = a ∧ accF l a = (p, true)) ∨ accF l a = (⟨a, 0, 0, [], []⟩, false) := by
  unfold accF
  cases hf : l.find? (fun q => q.addr == a) with
  | none => exact .inr rfl
  | some q => exact .inl ⟨q, List.mem_of_find?_eq_some hf, by simpa using List.find?_some hf, rfl⟩
set_option maxRecDepth 100000 in
theorem ofA_right {l : List Ac} (h : rightL l = true) (a : Nat) : ofA l a = (accF l a).1 := by unfold ofA; rw [h]; rfl
/-! ### Two states made side by side -/
/-- A block of the call's own that holds a state. -/
def BoxS (lo : Nat) (W : World) (v x : Value) : Prop := ∃ g, v = .pointer (some ⟨g, 0, none⟩) ∧ lo ≤ g ∧ Cs W g 24 #[x]
def StF (lo : Nat) (W : World) (v : Value) (l : List Ac) : Prop := ∃ x, v = .agg #[x] ∧ RwA lo W x (.slice none 0 0) l
set_option maxRecDepth 100000 in
theorem BoxS.ext {lo : Nat} {W W' : World} {v x : Value} (h : BoxS lo W v x) (he : Ext W W') : BoxS lo W' v x := by
  obtain ⟨g, h1, h2, h3⟩ := h
  exact ⟨g, h1, h2, Cs.ext h3 he⟩
set_option maxRecDepth 100000 in
theorem StF.ext {lo : Nat} {W W' : World} {v : Value} {l : List Ac} (h : StF lo W v l) (he : Ext W W') : StF lo W' v l := by
  obtain ⟨x, h1, h2⟩ := h
  exact ⟨x, h1, h2.ext he⟩
def OnI (w1 : World) (la lb : List Ac) (c1 c3 c4 c5 c6 c7 : Bool) (v1 v3 v4 v5 : Value) (W : World) : Prop :=
  Ext w1 W ∧ (c1 = true → StF w1.heap.size W v1 la) ∧ (c3 = true → StF w1.heap.size W v3 lb) ∧ (c4 = true → c6 = false → ∃ x, BoxS w1.heap.size W v4 x) ∧ (c5 = true → c7 = false → ∃ x, BoxS w1.heap.size W v5 x) ∧
    (c6 = true → ∃ x, v1 = .agg #[x] ∧ BoxS w1.heap.size W v4 x) ∧ (c7 = true → ∃ x, v3 = .agg #[x] ∧ BoxS w1.heap.size W v5 x) ∧ (c4 = true → c5 = true → v4 ≠ v5)
set_option maxRecDepth 100000 in
theorem OnI.ext {w1 : World} {la lb : List Ac} {c1 c3 c4 c5 c6 c7 : Bool} {v1 v3 v4 v5 : Value} {W W' : World} (h : OnI w1 la lb c1 c3 c4 c5 c6 c7 v1 v3 v4 v5 W) (he : Ext W W') : OnI w1 la lb c1 c3 c4 c5 c6 c7 v1 v3 v4 v5 W' := by
  obtain ⟨h0, h1, h2, h3, h4, h5, h6, h7⟩ := h
  refine ⟨h0.trans he, fun c => (h1 c).ext he, fun c => (h2 c).ext he, fun c d => ?_, fun c d => ?_, fun c => ?_, fun c => ?_, h7⟩
  · obtain ⟨x, hx⟩ := h3 c d; exact ⟨x, hx.ext he⟩
  · obtain ⟨x, hx⟩ := h4 c d; exact ⟨x, hx.ext he⟩
  · obtain ⟨x, hx, hy⟩ := h5 c; exact ⟨x, hx, hy.ext he⟩
  · obtain ⟨x, hx, hy⟩ := h6 c; exact ⟨x, hx, hy.ext he⟩
set_option maxRecDepth 100000 in
theorem OnI.swap {w1 : World} {la lb : List Ac} {c1 c3 c4 c5 c6 c7 : Bool} {v1 v3 v4 v5 : Value} {W : World} (h : OnI w1 la lb c1 c3 c4 c5 c6 c7 v1 v3 v4 v5 W) : OnI w1 lb la c3 c1 c5 c4 c7 c6 v3 v1 v5 v4 W := by
  obtain ⟨h0, h1, h2, h3, h4, h5, h6, h7⟩ := h
  exact ⟨h0, h2, h1, h4, h3, h6, h5, fun c d e => h7 d c e.symm⟩
set_option maxRecDepth 100000 in
theorem OnI.call {w1 : World} {la lb : List Ac} {c1 c3 c4 c5 c7 : Bool} {v1 v3 v4 v5 v : Value} {W W' : World} (h : OnI w1 la lb c1 c3 c4 c5 false c7 v1 v3 v4 v5 W) (he : Ext W W') (hv : StF w1.heap.size W' v la) : OnI w1 la lb true c3 c4 c5 false c7 v v3 v4 v5 W' := by
  obtain ⟨h0, h1, h2, h3, h4, h5, h6, h7⟩ := h.ext he
  exact ⟨h0, fun _ => hv, h2, h3, h4, (fun c => nomatch c), h6, h7⟩
set_option maxRecDepth 100000 in
theorem OnI.alloc {w1 : World} {la lb : List Ac} {c1 c3 c4 c5 c7 : Bool} {v1 v3 v4 v5 x : Value} {W : World} (h : OnI w1 la lb c1 c3 c4 c5 false c7 v1 v3 v4 v5 W) (hs : c5 = true → ∃ g, v5 = .pointer (some ⟨g, 0, none⟩) ∧ g < W.heap.size) : OnI w1 la lb c1 c3 true c5 false c7 v1 v3 (.pointer (some ⟨W.heap.size, 0, none⟩)) v5 (W.alloc (.cells #[x] 24)) := by
  obtain ⟨h0, h1, h2, h3, h4, h5, h6, h7⟩ := h.ext ((Ext.refl W).alloc (.cells #[x] 24))
  refine ⟨h0, h1, h2, fun _ _ => ⟨x, _, rfl, h.1.size, Cs.new _ _ _ _ rfl⟩, h4, fun c => (nomatch c), h6, fun _ c e => ?_⟩
  obtain ⟨g, e', hg⟩ := hs c
  rw [e'] at e
  injection e with e
  injection e with e
  injection e with e
  omega
set_option maxRecDepth 100000 in
theorem OnI.store {w1 : World} {la lb : List Ac} {c3 c5 c7 : Bool} {v3 v5 x : Value} {g : Nat} {W : World} (h : OnI w1 la lb true c3 true c5 false c7 (.agg #[x]) v3 (.pointer (some ⟨g, 0, none⟩)) v5 W) (h57 : c7 = true → c5 = true) :
    OnI w1 la lb true c3 true c5 true c7 (.agg #[x]) v3 (.pointer (some ⟨g, 0, none⟩)) v5 (W.setCell ⟨g, 0, none⟩ x) := by
  obtain ⟨h0, h1, h2, h3, h4, h5, h6, h7⟩ := h
  obtain ⟨y, g', e, hlo, hc⟩ := h3 rfl rfl
  obtain rfl : g = g' := by simpa using e
  have hk : ∀ {v z : Value}, v ≠ .pointer (some ⟨g, 0, none⟩) → BoxS w1.heap.size W v z → BoxS w1.heap.size (W.setCell ⟨g, 0, none⟩ x) v z := by
    rintro v z hne ⟨g2, rfl, l2, c2⟩
    exact ⟨g2, rfl, l2, Cs.kept c2 (grown_set _ _ _ _) (some_ne (fun e => hne (by rw [e])))⟩
  have hs : ∀ {v : Value} {l : List Ac}, StF w1.heap.size W v l → StF w1.heap.size (W.setCell ⟨g, 0, none⟩ x) v l := by
    rintro v l ⟨z, rfl, hz⟩
    exact ⟨z, rfl, hz.keptS (grown_set _ _ _ _) hc⟩
  refine ⟨h0.grown (grown_set _ _ _ _) hlo, fun c => hs (h1 c), fun c => hs (h2 c), fun _ c => (nomatch c), fun c d => ?_, fun _ => ⟨x, rfl, g, rfl, hlo, by simpa using Cs.set hc 0 x⟩, fun c => ?_, h7⟩
  · obtain ⟨z, hz⟩ := h4 c d
    exact ⟨z, hk (h7 rfl c).symm hz⟩
  · obtain ⟨z, e, hz⟩ := h6 c
    exact ⟨z, e, hk (h7 rfl (h57 c)).symm hz⟩
end Go.Proofs.Yteidmoilldheeaa
