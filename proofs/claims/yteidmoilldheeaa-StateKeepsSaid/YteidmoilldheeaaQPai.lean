/- A drawn region of two calls whose answers go into two new variables. -/
import Derived.Test.YteidmoilldheeaaQSmb
namespace Go.Proofs.Yteidmoilldheeaa
open Go.ChangeShapes Go.WideShapes Go.ChangeAt Go.RowKit Go.Shelf

theorem own_keptT {W W' : World} {lo g s n : Nat} {e t : TypeId} {v : Value} {ds : List Value} {cs : Array Value} (h : W.ownsRow lo e s v n ds) (hg : W.grownBy W' (some g)) (hs : Cs W g t cs) (ht : t ≠ e) : W'.ownsRow lo e s v n ds := by
  refine h.kept hg ?_
  rcases h.2 with ⟨rfl, _⟩ | ⟨g', cap, cur, rfl, _, hgg, _⟩
  · exact .inl rfl
  · refine .inr (fun e' => ?_)
    injection e' with e'
    subst e'
    rw [show W.heap[g']? = _ from hs] at hgg
    cases hgg
    exact ht rfl
/-- A new variable that holds cs. -/
def Bx (t : TypeId) (base : Nat) (W : World) (v : Value) (cs : Array Value) : Prop := ∃ g, v = .pointer (some ⟨g, 0, none⟩) ∧ base ≤ g ∧ Cs W g t cs
theorem Bx.ext {t : TypeId} {base : Nat} {W W' : World} {v : Value} {cs : Array Value} (h : Bx t base W v cs) (he : Ext W W') : Bx t base W' v cs := by
  obtain ⟨g, h1, h2, h3⟩ := h
  exact ⟨g, h1, h2, Cs.ext h3 he⟩
/-- What an answer is said to be stays when the world grows, and when such a variable is written. -/
structure Pk (t : TypeId) (n base : Nat) (P : World → Value → Prop) : Prop where
  ext : ∀ {W W' : World} {v : Value}, P W v → Ext W W' → P W' v
  kept : ∀ {W W' : World} {v : Value} {g : Nat} {cs : Array Value}, P W v → base ≤ g → Cs W g t cs → W.grownBy W' (some g) → P W' v
  agg : ∀ {W : World} {v : Value}, P W v → ∃ cs, v = .agg cs ∧ cs.size = n ∧ cs.all (·.oneCell') = true
def PrI (t : TypeId) (z : Array Value) (base : Nat) (P1 P2 : World → Value → Prop) (w1 : World) (c1 c2 d1 d2 e1 e2 : Bool) (v1 v2 b1 b2 : Value) (W : World) : Prop :=
  Ext w1 W ∧ (c1 = true → P1 W v1) ∧ (c2 = true → P2 W v2) ∧ (d1 = true → e1 = false → Bx t base W b1 z) ∧ (d2 = true → e2 = false → Bx t base W b2 z) ∧
    (e1 = true → ∃ cs, v1 = .agg cs ∧ Bx t base W b1 cs) ∧ (e2 = true → ∃ cs, v2 = .agg cs ∧ Bx t base W b2 cs) ∧ (d1 = true → d2 = true → b1 ≠ b2)
section
variable {t : TypeId} {z : Array Value} {base n : Nat} {P1 P2 : World → Value → Prop} {w1 W W' : World} {c1 c2 d1 d2 e1 e2 : Bool} {v v1 v2 b1 b2 : Value}
theorem PrI.ext (k1 : Pk t n base P1) (k2 : Pk t n base P2) (h : PrI t z base P1 P2 w1 c1 c2 d1 d2 e1 e2 v1 v2 b1 b2 W) (he : Ext W W') : PrI t z base P1 P2 w1 c1 c2 d1 d2 e1 e2 v1 v2 b1 b2 W' := by
  obtain ⟨h0, h1, h2, h3, h4, h5, h6, h7⟩ := h
  refine ⟨h0.trans he, fun c => k1.ext (h1 c) he, fun c => k2.ext (h2 c) he, fun c d => (h3 c d).ext he, fun c d => (h4 c d).ext he, fun c => ?_, fun c => ?_, h7⟩
  · obtain ⟨x, hx, hy⟩ := h5 c; exact ⟨x, hx, hy.ext he⟩
  · obtain ⟨x, hx, hy⟩ := h6 c; exact ⟨x, hx, hy.ext he⟩
theorem PrI.swap (h : PrI t z base P1 P2 w1 c1 c2 d1 d2 e1 e2 v1 v2 b1 b2 W) : PrI t z base P2 P1 w1 c2 c1 d2 d1 e2 e1 v2 v1 b2 b1 W := by
  obtain ⟨h0, h1, h2, h3, h4, h5, h6, h7⟩ := h
  exact ⟨h0, h2, h1, h4, h3, h6, h5, fun c d e => h7 d c e.symm⟩
theorem PrI.call (k1 : Pk t n base P1) (k2 : Pk t n base P2) (h : PrI t z base P1 P2 w1 c1 c2 d1 d2 false e2 v1 v2 b1 b2 W) (he : Ext W W') (hv : P1 W' v) : PrI t z base P1 P2 w1 true c2 d1 d2 false e2 v v2 b1 b2 W' := by
  obtain ⟨h0, h1, h2, h3, h4, h5, h6, h7⟩ := h.ext k1 k2 he
  exact ⟨h0, fun _ => hv, h2, h3, h4, (fun c => nomatch c), h6, h7⟩
theorem PrI.lt2 (h : PrI t z base P1 P2 w1 c1 c2 d1 d2 e1 e2 v1 v2 b1 b2 W) (hc : d2 = true) : ∃ g, b2 = .pointer (some ⟨g, 0, none⟩) ∧ g < W.heap.size := by
  obtain ⟨h0, h1, h2, h3, h4, h5, h6, h7⟩ := h
  cases e2 with
  | false => obtain ⟨g, e, _, h⟩ := h4 hc rfl; exact ⟨g, e, Cs.lt h⟩
  | true => obtain ⟨x, _, g, e, _, h⟩ := h6 rfl; exact ⟨g, e, Cs.lt h⟩
theorem PrI.alloc (k1 : Pk t n base P1) (k2 : Pk t n base P2) (hb : base ≤ w1.heap.size) (h : PrI t z base P1 P2 w1 c1 c2 d1 d2 false e2 v1 v2 b1 b2 W) : PrI t z base P1 P2 w1 c1 c2 true d2 false e2 v1 v2 (.pointer (some ⟨W.heap.size, 0, none⟩)) b2 (W.alloc (.cells z t)) := by
  have hs := fun c => h.lt2 c
  have hsz := h.1.size
  obtain ⟨h0, h1, h2, h3, h4, h5, h6, h7⟩ := h.ext k1 k2 ((Ext.refl W).alloc (.cells z t))
  refine ⟨h0, h1, h2, fun _ _ => ⟨_, rfl, Nat.le_trans hb hsz, Cs.new _ _ _ _ rfl⟩, h4, fun c => (nomatch c), h6, fun _ c e => ?_⟩
  obtain ⟨g, e', hg⟩ := hs c
  rw [e'] at e
  injection e with e
  injection e with e
  injection e with e
  omega
theorem PrI.store (k1 : Pk t n base P1) (k2 : Pk t n base P2) (hb : w1.heap.size ≤ base) {x : Array Value} {g : Nat} (h : PrI t z base P1 P2 w1 true c2 true d2 false e2 (.agg x) v2 (.pointer (some ⟨g, 0, none⟩)) b2 W) (h57 : e2 = true → d2 = true) (hc : Cs W' g t x) (hg : W.grownBy W' (some g)) :
    PrI t z base P1 P2 w1 true c2 true d2 true e2 (.agg x) v2 (.pointer (some ⟨g, 0, none⟩)) b2 W' := by
  obtain ⟨h0, h1, h2, h3, h4, h5, h6, h7⟩ := h
  obtain ⟨g', e, hlo, hz⟩ := h3 rfl rfl
  obtain rfl : g = g' := by simpa using e
  have hk : ∀ {b : Value} {cs : Array Value}, b ≠ .pointer (some ⟨g, 0, none⟩) → Bx t base W b cs → Bx t base W' b cs := by
    rintro b cs hne ⟨g2, rfl, l2, c2⟩
    exact ⟨g2, rfl, l2, Cs.kept c2 hg (some_ne (fun e => hne (by rw [e])))⟩
  refine ⟨h0.grown hg (Nat.le_trans hb hlo), fun c => k1.kept (h1 c) hlo hz hg, fun c => k2.kept (h2 c) hlo hz hg, fun _ c => (nomatch c), fun c d => hk (h7 rfl c).symm (h4 c d), fun _ => ⟨x, rfl, g, rfl, hlo, hc⟩, fun c => ?_, h7⟩
  obtain ⟨y, e, hy⟩ := h6 c
  exact ⟨y, e, hk (h7 rfl (h57 c)).symm hy⟩
end

/-! ### Kinds of answers -/
/-- An account of the call's own. -/
def AcP (base : Nat) (q : Ac) (W : World) (val : Value) : Prop := ∃ u v, val = .agg (acc q u v) ∧ AcO base W q u v
theorem AcP.pk (base : Nat) (q : Ac) : Pk 37 8 base (AcP base q) where
  ext := by
    rintro W W' val ⟨u, v, h1, h2⟩ he
    exact ⟨u, v, h1, h2.ext he⟩
  kept := by
    rintro W W' val g cs ⟨u, v, h1, h2⟩ _ hc hg
    exact ⟨u, v, h1, own_keptT h2.1 hg hc (by decide), own_keptT h2.2.1 hg hc (by decide), h2.2.2⟩
  agg := by
    rintro W val ⟨u, v, rfl, h2⟩
    exact ⟨_, rfl, rfl, acc_one q u v (bs_one h2.1.bs) (pks_one h2.2.pks)⟩
theorem AcP.low {lo base : Nat} {q : Ac} {W : World} {u v : Value} (h : AcO lo W q u v) (hl : base ≤ lo) : AcP base q W (.agg (acc q u v)) := ⟨u, v, rfl, h.low hl⟩
/-- A state of the call's own. -/
def StP (base : Nat) (l : List Ac) (W : World) (val : Value) : Prop := ∃ x, val = .agg #[x] ∧ RwA base W x (.slice none 0 0) l
theorem StP.pk (base : Nat) (l : List Ac) : Pk 24 1 base (StP base l) where
  ext := by
    rintro W W' val ⟨x, h1, h2⟩ he
    exact ⟨x, h1, h2.ext he⟩
  kept := by
    rintro W W' val g cs ⟨x, h1, h2⟩ _ hc hg
    exact ⟨x, h1, h2.keptS hg hc⟩
  agg := by
    rintro W val ⟨x, rfl, h2⟩
    obtain ⟨A, c, rfl⟩ := h2.shape
    exact ⟨_, rfl, rfl, by simp [Value.oneCell']⟩
/-- A word. -/
def WdP (n : Nat) (_ : World) (val : Value) : Prop := val = .agg (wc n)
theorem WdP.pk (base n : Nat) : Pk 31 4 base (WdP n) where
  ext := fun h _ => h
  kept := fun h _ _ _ => h
  agg := fun h => ⟨_, h, by simp [wc], wc_one n⟩
end Go.Proofs.Yteidmoilldheeaa
