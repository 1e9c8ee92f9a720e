/- Slices of words: what came in, parts of it, a copy of the call's own; and the mathematics of sums. -/
import Derived.Test.YtjampleddeidaaaRcd
import Derived.Deep.Slices
import Derived.Maps.AppendAt
namespace Go.Proofs.Ytjampleddeidaaa
open Go.ChangeShapes Go.WideShapes Go.ChangeAt Go.RowKit

set_option maxRecDepth 100000 in
theorem Ws.len {w : World} {A : Option Addr} {n c : Nat} {l : List Nat} (h : Ws w (.slice A n c) l) : n = l.length := by
  obtain ⟨A', c', e, _⟩ := h
  injection e
set_option maxRecDepth 100000 in
theorem Ws.lt {w : World} {v : Value} {l : List Nat} (h : Ws w v l) : ∀ x ∈ l, x < M256 := by
  obtain ⟨A, c, e, h1, h2, h3, h4⟩ := h
  intro x hx
  obtain ⟨i, hi, rfl⟩ := List.getElem_of_mem hx
  have := h4 i hi
  rwa [List.getD, List.getElem?_eq_getElem hi] at this

set_option maxRecDepth 100000 in
theorem natGetD_take (l : List Nat) (k i : Nat) (h : i < k) : (l.take k).getD i 0 = l.getD i 0 := by
  simp [List.getD, h]
set_option maxRecDepth 100000 in
theorem natGetD_drop (l : List Nat) (k i : Nat) : (l.drop k).getD i 0 = l.getD (k + i) 0 := by
  simp [List.getD, List.getElem?_drop]

set_option maxRecDepth 100000 in
theorem Ws.take {w : World} {A : Option Addr} {n c : Nat} {l : List Nat} (h : Ws w (.slice A n c) l) (k : Nat) (hk : k ≤ l.length) : Ws w (.slice A k c) (l.take k) := by
  obtain ⟨A', c', e, h1, h2, h3, h4⟩ := h
  injection e with e1 e2 e3
  subst e1; subst e3
  have hl : (l.take k).length = k := by simp; omega
  refine ⟨A, c, by rw [hl], by omega, h2, fun hp => ?_, fun i hi => ?_⟩
  · obtain ⟨b, o, ea, hc⟩ := h3 (by omega)
    exact ⟨b, o, ea, fun i hi j hj => by rw [hc i (by omega) j hj, natGetD_take _ _ _ (by omega)]⟩
  · rw [natGetD_take _ _ _ (by omega)]
    exact h4 i (by omega)
set_option maxRecDepth 100000 in
theorem Ws.takeMin {w : World} {A : Option Addr} {n c : Nat} {l : List Nat} (h : Ws w (.slice A n c) l) (m k : Nat) (hk : k = min l.length m) : Ws w (.slice A k c) (l.take m) := by
  have e : l.take m = l.take k := by
    subst hk
    rcases Nat.le_total l.length m with hl | hl
    · rw [Nat.min_eq_left hl, List.take_of_length_le hl, List.take_length]
    · rw [Nat.min_eq_right hl]
  rw [e]
  exact h.take k (by omega)
set_option maxRecDepth 100000 in
theorem Ws.drop {w : World} {A : Option Addr} {n c : Nat} {l : List Nat} (h : Ws w (.slice A n c) l) (k : Nat) (hk : k ≤ l.length) :
    Ws w (.slice (if c = k then A else A.map (·.add (k * 4))) (l.length - k) (c - k)) (l.drop k) := by
  obtain ⟨A', c', e, h1, h2, h3, h4⟩ := h
  injection e with e1 e2 e3
  subst e1; subst e3
  have hl : (l.drop k).length = l.length - k := by simp
  refine ⟨_, _, by rw [hl], by omega, by omega, fun hp => ?_, fun i hi => ?_⟩
  · obtain ⟨b, o, rfl, hc⟩ := h3 (by omega)
    rw [if_neg (by omega)]
    refine ⟨b, o + k * 4, ?_, fun i hi j hj => ?_⟩
    · show some (Addr.add _ _) = _
      unfold Addr.add
      split <;> simp_all
    · rw [natGetD_drop, ← hc (k + i) (by omega) j hj]
      congr 2
      omega
  · rw [natGetD_drop]
    exact h4 (k + i) (by omega)

set_option maxRecDepth 100000 in
theorem sumW_eq (l : List Nat) (hl : ∀ x ∈ l, x < M256) : sumW l = (l.sum % M256, decide (M256 ≤ l.sum)) := by
  unfold sumW
  suffices h : ∀ (s : Nat) (l : List Nat), (∀ x ∈ l, x < M256) → l.foldl sumS (s % M256, decide (M256 ≤ s)) = ((s + l.sum) % M256, decide (M256 ≤ s + l.sum)) by
    have := h 0 l hl
    rw [Nat.zero_mod, Nat.zero_add, decide_eq_false (show ¬ M256 ≤ 0 by decide)] at this
    exact this
  intro s l
  induction l generalizing s with
  | nil => intro _; rw [List.foldl_nil, List.sum_nil, Nat.add_zero]
  | cons x l ih =>
    intro hx
    have h1 := hx x List.mem_cons_self
    have e : sumS (s % M256, decide (M256 ≤ s)) x = ((s + x) % M256, decide (M256 ≤ s + x)) := by
      unfold sumS addN ovr
      refine Prod.ext (by simp [Nat.mod_add_mod]) ?_
      show (decide (M256 ≤ s) || decide (M256 ≤ s % M256 + x)) = decide (M256 ≤ s + x)
      by_cases h : M256 ≤ s
      · simp [h, show M256 ≤ s + x by omega]
      · rw [Nat.mod_eq_of_lt (by omega)]
        simp [h]
    rw [List.foldl_cons, e, ih (s + x) (fun y hy => hx y (List.mem_cons_of_mem _ hy)), List.sum_cons, Nat.add_assoc]

set_option maxRecDepth 100000 in
theorem sumW_reverse (l : List Nat) (hl : ∀ x ∈ l, x < M256) : sumW l.reverse = sumW l := by
  rw [sumW_eq l hl, sumW_eq l.reverse (fun x hx => hl x (List.mem_reverse.1 hx)), List.sum_reverse]

set_option maxRecDepth 100000 in
theorem sumW_parts (l : List Nat) (k : Nat) (hl : ∀ x ∈ l, x < M256) : addN (sumW (l.take k)).1 (sumW (l.drop k)).1 = (sumW l).1 ∧ (((sumW (l.take k)).2 || (sumW (l.drop k)).2) || ovr (sumW (l.take k)).1 (sumW (l.drop k)).1) = (sumW l).2 := by
  have hs : (l.take k).sum + (l.drop k).sum = l.sum := by rw [← List.sum_append, List.take_append_drop]
  rw [sumW_eq l hl, sumW_eq _ (fun x hx => hl x (List.mem_of_mem_take hx)), sumW_eq _ (fun x hx => hl x (List.mem_of_mem_drop hx)), ← hs]
  generalize (l.take k).sum = a
  generalize (l.drop k).sum = b
  unfold addN ovr
  refine ⟨by rw [Nat.mod_add_mod, Nat.add_mod_mod], ?_⟩
  by_cases ha : M256 ≤ a
  · simp [ha, show M256 ≤ a + b by omega]
  · by_cases hb : M256 ≤ b
    · simp [hb, show M256 ≤ a + b by omega]
    · rw [Nat.mod_eq_of_lt (show a < M256 by omega), Nat.mod_eq_of_lt (show b < M256 by omega)]
      simp [ha, hb]

end Go.Proofs.Ytjampleddeidaaa
