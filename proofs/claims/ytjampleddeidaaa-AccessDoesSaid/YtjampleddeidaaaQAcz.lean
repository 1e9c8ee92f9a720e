/- Package access: Same. -/
import Derived.Test.YtjampleddeidaaaQAcq
namespace Go.Proofs.Ytjampleddeidaaa
open Go.ChangeShapes Go.WideShapes Go.ChangeAt Go.RowKit Go.Shelf

set_option maxRecDepth 100000 in
theorem eq_addr {p q : Pe} (hp : okA p) (hq : okA q) (h : p.addr = q.addr) : p = q := by
  obtain ⟨a, k, v⟩ := p
  obtain ⟨b, j, u⟩ := q
  obtain ⟨_, h1, h2⟩ := hp
  obtain ⟨_, h3, h4⟩ := hq
  simp only at h h1 h2 h3 h4
  rw [h, h1, h2, h3, h4]
set_option maxRecDepth 100000 in
theorem eq_spot {p q : Pe} (hp : okS p) (hq : okS q) (h : p.eqS q = true) : p = q := by
  obtain ⟨a, k, v⟩ := p
  obtain ⟨b, j, u⟩ := q
  obtain ⟨_, _, h2⟩ := hp
  obtain ⟨_, _, h4⟩ := hq
  unfold Pe.eqS at h
  simp only [Bool.and_eq_true, beq_iff_eq] at h h2 h4
  rw [h.1, h.2, h2, h4]
set_option maxRecDepth 100000 in
theorem Pe.eqS_self (p : Pe) : p.eqS p = true := by unfold Pe.eqS; rw [beq_self_eq_true, beq_self_eq_true]; rfl
def sameX (x y : Ax) : Bool := decide (x.a = y.a) && (decide (x.s = y.s) && decide (x.p = y.p))
set_option maxRecDepth 100000 in
theorem sameX_iff {x y : Ax} : sameX x y = true ↔ x = y := by
  obtain ⟨a, b, c⟩ := x
  obtain ⟨a2, b2, c2⟩ := y
  unfold sameX
  simp only [Bool.and_eq_true, decide_eq_true_eq, Ax.mk.injEq]
end Go.Proofs.Ytjampleddeidaaa
