/- A drawn region of two calls whose answers go into two new variables. -/
import Derived.Test.YtiojfpdjnblkhaaQSma
namespace Go.Proofs.Ytiojfpdjnblkhaa
open Go.ChangeShapes Go.WideShapes Go.ChangeAt Go.RowKit Go.Shelf

theorem own_keptT {W W' : World} {lo g s n : Nat} {e t : TypeId} {v : Value} {ds : List Value} {cs : Array Value} (h : W.ownsRow lo e s v n ds) (hg : W.grownBy W' (some g)) (hs : Cs W g t cs) (ht : t ≠ e) : W'.ownsRow lo e s v n ds := by
 refine h.kept hg ?_
 rcases h.2 with ⟨rfl, _⟩ | ⟨g', cap, cur, rfl, _, hgg, _⟩
 ·exact .inl rfl
 ·refine .inr (fun e' => ?_)
  injection e' with e'
  subst e'
  rw [show W.heap[g']? = _ from hs] at hgg
  cases hgg
  exact ht rfl
structure Pk (t : TypeId) (n base : Nat) (P : World → Value → Prop) : Prop where
 ext : ∀ {W W' : World} {v : Value}, P W v → Ext W W' → P W' v
 kept : ∀ {W W' : World} {v : Value} {g : Nat} {cs : Array Value}, P W v → base ≤ g → Cs W g t cs → W.grownBy W' (some g) → P W' v
 agg : ∀ {W : World} {v : Value}, P W v → ∃ cs, v = .agg cs ∧ cs.size = n ∧ cs.all (·.oneCell') = true
section
variable {t : TypeId} {z : Array Value} {base n : Nat} {P1 P2 : World → Value → Prop} {w1 W W' : World} {c1 c2 d1 d2 e1 e2 : Bool} {v v1 v2 b1 b2 : Value}
end

def AcP (base : Nat) (q : Ac) (W : World) (val : Value) : Prop := ∃ u v, val = .agg (acc q u v) ∧ AcO base W q u v
theorem AcP.pk (base : Nat) (q : Ac) : Pk 37 8 base (AcP base q) where
 ext := by
  rintro W W' val ⟨u, v, h1, h2⟩ he
  exact ⟨u, v, h1, h2.ext he⟩
 kept := by
  rintro W W' val g cs ⟨u, v, h1, h2⟩ _ hc hg
  exact ⟨u, v, h1, own_keptT h2.1 hg hc (by decide), own_keptT h2.2.1 hg hc (by decide), h2.2.2⟩
 agg := by
  rintro W val ⟨u, v, rfl, h2⟩
  exact ⟨_, rfl, rfl, acc_one q u v (bs_one h2.1.bs) (pks_one h2.2.pks)⟩
theorem AcP.low {lo base : Nat} {q : Ac} {W : World} {u v : Value} (h : AcO lo W q u v) (hl : base ≤ lo) : AcP base q W (.agg (acc q u v)) := ⟨u, v, rfl, h.low hl⟩
def StP (base : Nat) (l : List Ac) (W : World) (val : Value) : Prop := ∃ x, val = .agg #[x] ∧ RwA base W x (.slice none 0 0) l
theorem StP.pk (base : Nat) (l : List Ac) : Pk 24 1 base (StP base l) where
 ext := by
  rintro W W' val ⟨x, h1, h2⟩ he
  exact ⟨x, h1, h2.ext he⟩
 kept := by
  rintro W W' val g cs ⟨x, h1, h2⟩ _ hc hg
  exact ⟨x, h1, h2.keptS hg hc⟩
 agg := by
  rintro W val ⟨x, rfl, h2⟩
  obtain ⟨A, c, rfl⟩ := h2.shape
  exact ⟨_, rfl, rfl, by simp [Value.oneCell']⟩
end Go.Proofs.Ytiojfpdjnblkhaa
