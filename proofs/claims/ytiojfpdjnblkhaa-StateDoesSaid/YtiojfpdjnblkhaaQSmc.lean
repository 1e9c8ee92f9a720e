/- What is done to one address is not seen of another one; what all have together (plain mathematics). -/
import Derived.Test.YtiojfpdjnblkhaaQRuo
import Derived.Test.YtiojfpdjnblkhaaQSue
namespace Go.Proofs.Ytiojfpdjnblkhaa
open Go.ChangeShapes Go.WideShapes Go.ChangeAt Go.RowKit Go.Shelf

theorem riseK_iff (l : List (Nat × Nat)) : RiseK l ↔ l.Pairwise (fun p q => p.1 < q.1) := by
 unfold RiseK
 rw [List.pairwise_iff_getElem]
 constructor
 ·intro h i j hi hj hij
  have := h i j hij hj
  rw [List.getD_eq_getElem?_getD, List.getD_eq_getElem?_getD, List.getElem?_eq_getElem hi, List.getElem?_eq_getElem hj] at this
  exact this
 ·intro h i j hij hj
  have := h i j (by omega) hj hij
  rw [List.getD_eq_getElem?_getD, List.getD_eq_getElem?_getD, List.getElem?_eq_getElem (show i < l.length by omega), List.getElem?_eq_getElem hj]
  exact this
theorem mem_savL {l : List (Nat × Nat)} {p q : Nat × Nat} : q ∈ savL l p ↔ (q ∈ l ∧ q.1 ≠ p.1) ∨ (p.2 ≠ 0 ∧ q = p) := by
 unfold savL
 rw [List.mem_append, List.mem_append, List.mem_filter, List.mem_filter]
 by_cases hz : p.2 = 0
 ·rw [if_pos hz]
  simp only [List.not_mem_nil, or_false, decide_eq_true_eq]
  constructor
  ·rintro (⟨h1, h2⟩ | ⟨h1, h2⟩) <;> exact .inl ⟨h1, by omega⟩
  ·rintro (⟨h1, h2⟩ | ⟨h1, _⟩)
   ·rcases Nat.lt_or_gt_of_ne h2 with h | h
    ·exact .inl ⟨h1, h⟩
    ·exact .inr ⟨h1, h⟩
   ·exact absurd hz h1
 ·rw [if_neg hz]
  simp only [List.mem_singleton, decide_eq_true_eq]
  constructor
  ·rintro ((⟨h1, h2⟩ | rfl) | ⟨h1, h2⟩)
   ·exact .inl ⟨h1, by omega⟩
   ·exact .inr ⟨hz, rfl⟩
   ·exact .inl ⟨h1, by omega⟩
  ·rintro (⟨h1, h2⟩ | ⟨_, rfl⟩)
   ·rcases Nat.lt_or_gt_of_ne h2 with h | h
    ·exact .inl (.inl ⟨h1, h⟩)
    ·exact .inr ⟨h1, h⟩
   ·exact .inl (.inr rfl)
theorem savL_rise {l : List (Nat × Nat)} (h : RiseK l) (p : Nat × Nat) : RiseK (savL l p) := by
 rw [riseK_iff] at h ⊢
 unfold savL
 rw [List.pairwise_append, List.pairwise_append]
 refine ⟨⟨List.Pairwise.filter _ h, by split <;> simp, ?_⟩, List.Pairwise.filter _ h, ?_⟩
 ·intro a ha b hb
  split at hb
  ·cases hb
  ·rw [List.mem_singleton.1 hb]
   simpa using (List.mem_filter.1 ha).2
 ·intro a ha b hb
  have hb2 : p.1 < b.1 := by simpa using (List.mem_filter.1 hb).2
  rcases List.mem_append.1 ha with ha | ha
  ·have : a.1 < p.1 := by simpa using (List.mem_filter.1 ha).2
   omega
  ·split at ha
   ·cases ha
   ·rw [List.mem_singleton.1 ha]; exact hb2
theorem slB_of {l : List (Nat × Nat)} (h : RiseK l) (hv : ∀ q ∈ l, q.2 ≠ 0) (i : Nat) (hi : i < l.length) : slB l i = true := by
 unfold slB
 have h1 : (l.getD i (0, 0)).2 ≠ 0 := hv _ (by rw [List.getD_eq_getElem?_getD, List.getElem?_eq_getElem hi]; exact List.getElem_mem hi)
 rw [decide_eq_true h1, Bool.true_and]
 by_cases h0 : i = 0
 ·simp [h0]
 ·have := h (i - 1) i (by omega) hi
  rw [decide_eq_false h0, Bool.false_or]
  exact decide_eq_true this
end Go.Proofs.Ytiojfpdjnblkhaa
