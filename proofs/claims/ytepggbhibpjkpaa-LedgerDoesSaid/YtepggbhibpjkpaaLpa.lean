/- A drawn region of two calls whose answers go into two new words. -/
import Derived.Test.YtepggbhibpjkpaaLho
namespace Go.Proofs.Ytepggbhibpjkpaa
open Go.ChangeShapes Go.WideShapes Go.ChangeAt Go.RowKit Go.Shelf

theorem own_keptTL {W W' : World} {lo g s n : Nat} {e t : TypeId} {v : Value} {ds : List Value} {cs : Array Value} (h : W.ownsRow lo e s v n ds) (hg : W.grownBy W' (some g)) (hs : Cs W g t cs) (ht : t ≠ e) : W'.ownsRow lo e s v n ds := by
  refine h.kept hg ?_
  rcases h.2 with ⟨rfl, _⟩ | ⟨g', cap, cur, rfl, _, hgg, _⟩
  · exact .inl rfl
  · refine .inr (fun e' => ?_)
    injection e' with e'
    subst e'
    rw [show W.heap[g']? = _ from hs] at hgg
    cases hgg
    exact ht rfl
/-- A new variable that holds cs. -/
def BxL (t : TypeId) (base : Nat) (W : World) (v : Value) (cs : Array Value) : Prop := ∃ g, v = .pointer (some ⟨g, 0, none⟩) ∧ base ≤ g ∧ Cs W g t cs
theorem BxL.ext {t : TypeId} {base : Nat} {W W' : World} {v : Value} {cs : Array Value} (h : BxL t base W v cs) (he : Ext W W') : BxL t base W' v cs := by
  obtain ⟨g, h1, h2, h3⟩ := h
  exact ⟨g, h1, h2, Cs.ext h3 he⟩
/-- What an answer is said to be stays when the world grows, and when such a variable is written. -/
structure PkL (t : TypeId) (n base : Nat) (P : World → Value → Prop) : Prop where
  ext : ∀ {W W' : World} {v : Value}, P W v → Ext W W' → P W' v
  kept : ∀ {W W' : World} {v : Value} {g : Nat} {cs : Array Value}, P W v → base ≤ g → Cs W g t cs → W.grownBy W' (some g) → P W' v
  agg : ∀ {W : World} {v : Value}, P W v → ∃ cs, v = .agg cs ∧ cs.size = n ∧ cs.all (·.oneCell') = true
def PrIL (t : TypeId) (z : Array Value) (base : Nat) (P1 P2 : World → Value → Prop) (w1 : World) (c1 c2 d1 d2 e1 e2 : Bool) (v1 v2 b1 b2 : Value) (W : World) : Prop :=
  Ext w1 W ∧ (c1 = true → P1 W v1) ∧ (c2 = true → P2 W v2) ∧ (d1 = true → e1 = false → BxL t base W b1 z) ∧ (d2 = true → e2 = false → BxL t base W b2 z) ∧
    (e1 = true → ∃ cs, v1 = .agg cs ∧ BxL t base W b1 cs) ∧ (e2 = true → ∃ cs, v2 = .agg cs ∧ BxL t base W b2 cs) ∧ (d1 = true → d2 = true → b1 ≠ b2)
section
variable {t : TypeId} {z : Array Value} {base n : Nat} {P1 P2 : World → Value → Prop} {w1 W W' : World} {c1 c2 d1 d2 e1 e2 : Bool} {v v1 v2 b1 b2 : Value}
theorem PrIL.ext (k1 : PkL t n base P1) (k2 : PkL t n base P2) (h : PrIL t z base P1 P2 w1 c1 c2 d1 d2 e1 e2 v1 v2 b1 b2 W) (he : Ext W W') : PrIL t z base P1 P2 w1 c1 c2 d1 d2 e1 e2 v1 v2 b1 b2 W' := by
  obtain ⟨h0, h1, h2, h3, h4, h5, h6, h7⟩ := h
  refine ⟨h0.trans he, fun c => k1.ext (h1 c) he, fun c => k2.ext (h2 c) he, fun c d => (h3 c d).ext he, fun c d => (h4 c d).ext he, fun c => ?_, fun c => ?_, h7⟩
  · obtain ⟨x, hx, hy⟩ := h5 c; exact ⟨x, hx, hy.ext he⟩
  · obtain ⟨x, hx, hy⟩ := h6 c; exact ⟨x, hx, hy.ext he⟩
theorem PrIL.swap (h : PrIL t z base P1 P2 w1 c1 c2 d1 d2 e1 e2 v1 v2 b1 b2 W) : PrIL t z base P2 P1 w1 c2 c1 d2 d1 e2 e1 v2 v1 b2 b1 W := by
  obtain ⟨h0, h1, h2, h3, h4, h5, h6, h7⟩ := h
  exact ⟨h0, h2, h1, h4, h3, h6, h5, fun c d e => h7 d c e.symm⟩
theorem PrIL.call (k1 : PkL t n base P1) (k2 : PkL t n base P2) (h : PrIL t z base P1 P2 w1 c1 c2 d1 d2 false e2 v1 v2 b1 b2 W) (he : Ext W W') (hv : P1 W' v) : PrIL t z base P1 P2 w1 true c2 d1 d2 false e2 v v2 b1 b2 W' := by
  obtain ⟨h0, h1, h2, h3, h4, h5, h6, h7⟩ := h.ext k1 k2 he
  exact ⟨h0, fun _ => hv, h2, h3, h4, (fun c => nomatch c), h6, h7⟩
theorem PrIL.lt2 (h : PrIL t z base P1 P2 w1 c1 c2 d1 d2 e1 e2 v1 v2 b1 b2 W) (hc : d2 = true) : ∃ g, b2 = .pointer (some ⟨g, 0, none⟩) ∧ g < W.heap.size := by
  obtain ⟨h0, h1, h2, h3, h4, h5, h6, h7⟩ := h
  cases e2 with
  | false => obtain ⟨g, e, _, h⟩ := h4 hc rfl; exact ⟨g, e, Cs.lt h⟩
  | true => obtain ⟨x, _, g, e, _, h⟩ := h6 rfl; exact ⟨g, e, Cs.lt h⟩
theorem PrIL.alloc (k1 : PkL t n base P1) (k2 : PkL t n base P2) (hb : base ≤ w1.heap.size) (h : PrIL t z base P1 P2 w1 c1 c2 d1 d2 false e2 v1 v2 b1 b2 W) : PrIL t z base P1 P2 w1 c1 c2 true d2 false e2 v1 v2 (.pointer (some ⟨W.heap.size, 0, none⟩)) b2 (W.alloc (.cells z t)) := by
  have hs := fun c => h.lt2 c
  have hsz := h.1.size
  obtain ⟨h0, h1, h2, h3, h4, h5, h6, h7⟩ := h.ext k1 k2 ((Ext.refl W).alloc (.cells z t))
  refine ⟨h0, h1, h2, fun _ _ => ⟨_, rfl, Nat.le_trans hb hsz, Cs.new _ _ _ _ rfl⟩, h4, fun c => (nomatch c), h6, fun _ c e => ?_⟩
  obtain ⟨g, e', hg⟩ := hs c
  rw [e'] at e
  injection e with e
  injection e with e
  injection e with e
  omega
theorem PrIL.store (k1 : PkL t n base P1) (k2 : PkL t n base P2) (hb : w1.heap.size ≤ base) {x : Array Value} {g : Nat} (h : PrIL t z base P1 P2 w1 true c2 true d2 false e2 (.agg x) v2 (.pointer (some ⟨g, 0, none⟩)) b2 W) (h57 : e2 = true → d2 = true) (hc : Cs W' g t x) (hg : W.grownBy W' (some g)) :
    PrIL t z base P1 P2 w1 true c2 true d2 true e2 (.agg x) v2 (.pointer (some ⟨g, 0, none⟩)) b2 W' := by
  obtain ⟨h0, h1, h2, h3, h4, h5, h6, h7⟩ := h
  obtain ⟨g', e, hlo, hz⟩ := h3 rfl rfl
  obtain rfl : g = g' := by simpa using e
  have hk : ∀ {b : Value} {cs : Array Value}, b ≠ .pointer (some ⟨g, 0, none⟩) → BxL t base W b cs → BxL t base W' b cs := by
    rintro b cs hne ⟨g2, rfl, l2, c2⟩
    exact ⟨g2, rfl, l2, Cs.kept c2 hg (some_ne (fun e => hne (by rw [e])))⟩
  refine ⟨h0.grown hg (Nat.le_trans hb hlo), fun c => k1.kept (h1 c) hlo hz hg, fun c => k2.kept (h2 c) hlo hz hg, fun _ c => (nomatch c), fun c d => hk (h7 rfl c).symm (h4 c d), fun _ => ⟨x, rfl, g, rfl, hlo, hc⟩, fun c => ?_, h7⟩
  obtain ⟨y, e, hy⟩ := h6 c
  exact ⟨y, e, hk (h7 rfl (h57 c)).symm hy⟩
end

/-- A word. -/
def WdPL (n : Nat) (_ : World) (val : Value) : Prop := val = .agg (wc n)
theorem WdPL.pk (base n : Nat) : PkL 29 4 base (WdPL n) where
  ext := fun h _ => h
  kept := fun h _ _ _ => h
  agg := fun h => ⟨_, h, by simp [wc], wc_one n⟩
/-- Rows that lie elsewhere than in block g. -/
def NB (g : Nat) (v : Value) (l : List Hd) : Prop := 0 < l.length → ∀ b o sp n c, v = .slice (some ⟨b, o, sp⟩) n c → b ≠ g
theorem Hds.set {W W' : World} {g : Nat} {v : Value} {l : List Hd} (h : Hds W v l) (hb : NB g v l) (hg : W.grownBy W' (some g)) : Hds W' v l := by
  obtain ⟨A, c, e, h1, h2, h3⟩ := h
  refine ⟨A, c, e, h1, h2, fun hp => ?_⟩
  obtain ⟨b, o, rfl, hc⟩ := h3 hp
  have hne := hb hp b o none _ _ e
  refine ⟨b, o, rfl, fun i z hz => ?_⟩
  obtain ⟨cs, k1, k2, k3⟩ := hc i z hz
  refine ⟨cs, k1, k2, fun j u hu => ?_⟩
  have h4 := k3 j u hu
  have hlt := World.block_lt_of_cell? W _ h4
  have hblk := hg.block b hlt (by simpa using hne)
  unfold World.cell? at h4 ⊢
  rw [hblk]
  exact h4
theorem NB.own {W : World} {base g : Nat} {v : Value} {l : List Hd} (h : OwnH W base v l) (hg : g < base) : NB g v l := by
  intro _ b o sp n c e
  subst e
  have := h.1.2
  rcases this with ⟨e, _⟩ | ⟨b', cap, cur, e, hb, _⟩
  · cases e
  · injection e with e
    injection e with e
    injection e with e
    omega
theorem NB.old {W : World} {g : Nat} {v : Value} {l : List Hd} (h : Hds W v l) (hg : W.heap.size ≤ g) : NB g v l := by
  intro hp b o sp n c e
  subst e
  obtain ⟨A, c', e, h1, h2, h3⟩ := h
  obtain ⟨b', o', e', hc⟩ := h3 hp
  injection e with e1 _ _
  rw [e'] at e1
  injection e1 with e1
  injection e1 with e1
  obtain ⟨cs, k1, k2, k3⟩ := hc 0 _ (List.getElem?_eq_getElem hp)
  have hcs : ∃ u, cs[0]? = some u := by
    obtain ⟨_, rfl⟩ := k2
    exact ⟨_, rfl⟩
  obtain ⟨u, hu⟩ := hcs
  have := World.block_lt_of_cell? W _ (k3 0 u hu)
  dsimp only at this
  omega
end Go.Proofs.Ytepggbhibpjkpaa
