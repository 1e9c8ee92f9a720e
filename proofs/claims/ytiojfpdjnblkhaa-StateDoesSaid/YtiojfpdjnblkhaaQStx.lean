/- States that came in; rows of accounts that rise; two states made side by side. -/
import Derived.Test.YtiojfpdjnblkhaaQStw
namespace Go.Proofs.Ytiojfpdjnblkhaa
open Go.ChangeShapes Go.WideShapes Go.ChangeAt Go.RowKit Go.Shelf

set_option maxRecDepth 100000 in
theorem state_came {H : Type} {enc : TypeId × Value → H} {W : World} {base : Nat} {v : Value} {d : DataW H} {p : List MemPlace}
  (hval : Value.okWide Try.prog W .any base 24 v) (h : DataW.Trod enc Try.prog W 0 (fun _ => true) true 24 v d p) : ∃ (s : Value) (l : List Ac), v = .agg #[s] ∧ Acs W s l := by
 simp only [Value.okWide, Try.underlying24] at hval
 obtain ⟨cs, rfl, hsz, _⟩ := hval
 have hC : Try.prog.cellsOf 24 = 1 := by kernel_rfl
 have hS : Try.prog.cellsOf 22 = 1 := by kernel_rfl
 rw [hC] at hsz
 obtain ⟨fuel, hf⟩ := h
 obtain ⟨y0, n, _, _, h0⟩ := trod_struct1 Try.underlying24 hf
 dsimp only at h0
 rw [hS] at h0
 obtain ⟨s, l, hv, hl⟩ := slice_came (α := Ac) (s := 8) Try.underlying22 (by kernel_rfl) (by decide) (AcR W) (fun _ _ _ h => ac_trod h) h0
 refine ⟨s, l, ?_, hl⟩
 have e : cs.toList = [s] := by
  rw [← hv]
  simp [Value.cells, List.take_of_length_le, hsz]
 have : cs = #[s] := by apply Array.toList_inj.1; rw [e]
 rw [this]

def RiseA (l : List Ac) : Prop := l.Pairwise (fun p q => p.addr < q.addr)
theorem chS_last {s : Option (Nat × Nat)} {p : Ac} {r : Nat × Nat} (h : chS s p = some r) : ∃ t, s = some t ∧ t.2 < p.addr ∧ r.2 = p.addr := by
 obtain ⟨_, _, f, t, rfl, h1, h2⟩ := chS_right h
 exact ⟨_, rfl, h1, h2⟩
theorem chL_rise : ∀ (l : List Ac) (s r : Nat × Nat), l.foldl chS (some s) = some r → RiseA l ∧ ∀ p ∈ l, s.2 < p.addr
 | [], _, _, _ => ⟨List.Pairwise.nil, fun p hp => nomatch hp⟩
 | q :: l, s, r, h => by
  rw [List.foldl_cons] at h
  cases hc : chS (some s) q with
  | none => rw [hc, chS_none] at h; cases h
  | some s' =>
   rw [hc] at h
   obtain ⟨t, e, h1, h2⟩ := chS_last hc
   obtain rfl := Option.some.inj e
   obtain ⟨i1, i2⟩ := chL_rise l s' r h
   rw [h2] at i2
   exact ⟨List.pairwise_cons.2 ⟨i2, i1⟩, fun p hp => by
    rcases List.mem_cons.1 hp with rfl | hp
    ·exact h1
    ·exact Nat.lt_trans h1 (i2 p hp)⟩
theorem RiseA.uniq : ∀ {l : List Ac}, RiseA l → ∀ p ∈ l, ∀ q ∈ l, p.addr = q.addr → p = q
 | x :: l, h, p, hp, q, hq, e => by
  obtain ⟨h1, h2⟩ := List.pairwise_cons.1 h
  rcases List.mem_cons.1 hp with hp | hp
  ·rcases List.mem_cons.1 hq with hq | hq
   ·rw [hp, hq]
   ·exact absurd (h1 q hq) (by rw [← hp]; omega)
  ·rcases List.mem_cons.1 hq with hq | hq
   ·exact absurd (h1 p hp) (by rw [← hq]; omega)
   ·exact RiseA.uniq h2 p hp q hq e
theorem RiseA.ext : ∀ {l m : List Ac}, RiseA l → RiseA m → (∀ p ∈ l, p ∈ m) → (∀ p ∈ m, p ∈ l) → l = m
 | [], [], _, _, _, _ => rfl
 | [], q :: _, _, _, _, h => nomatch h q List.mem_cons_self
 | p :: _, [], _, _, h, _ => nomatch h p List.mem_cons_self
 | p :: l, q :: m, hl, hm, h1, h2 => by
  obtain ⟨a1, a2⟩ := List.pairwise_cons.1 hl
  obtain ⟨b1, b2⟩ := List.pairwise_cons.1 hm
  have e : p = q := by
   rcases List.mem_cons.1 (h1 p List.mem_cons_self) with e | hp
   ·exact e
   ·rcases List.mem_cons.1 (h2 q List.mem_cons_self) with e | hq
    ·exact e.symm
    ·have := b1 p hp
     have := a1 q hq
     omega
  subst e
  rw [RiseA.ext a2 b2 (fun x hx => by
   rcases List.mem_cons.1 (h1 x (List.mem_cons_of_mem _ hx)) with rfl | h
   ·exact absurd (a1 x hx) (by omega)
   ·exact h) (fun x hx => by
   rcases List.mem_cons.1 (h2 x (List.mem_cons_of_mem _ hx)) with rfl | h
   ·exact absurd (b1 x hx) (by omega)
   ·exact h)]
theorem accF_mem {l : List Ac} (h : RiseA l) {p : Ac} (hp : p ∈ l) : accF l p.addr = (p, true) := by
 unfold accF
 cases hf : l.find? (fun q => q.addr == p.addr) with
 | none =>
  have := List.find?_eq_none.1 hf p hp
  simp at this
 | some q =>
  have hq := List.mem_of_find?_eq_some hf
  have he := List.find?_some hf
  rw [h.uniq q hq p hp (by simpa using he)]
theorem accF_else {l : List Ac} {a : Nat} : (∃ p ∈ l, p.addr = a ∧ accF l a = (p, true)) ∨ accF l a = (⟨a, 0, 0, [], []⟩, false) := by
 unfold accF
 cases hf : l.find? (fun q => q.addr == a) with
 | none => exact .inr rfl
 | some q => exact .inl ⟨q, List.mem_of_find?_eq_some hf, by simpa using List.find?_some hf, rfl⟩
end Go.Proofs.Ytiojfpdjnblkhaa
