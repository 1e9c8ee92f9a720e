/- Slices of words: what came in, parts of it, a copy of the call's own; and the mathematics of sums. -/
import Derived.Test.YtiojfpdjnblkhaaRcd
import Derived.Deep.Slices
import Derived.Maps.AppendAt
namespace Go.Proofs.Ytiojfpdjnblkhaa
open Go.ChangeShapes Go.WideShapes Go.ChangeAt Go.RowKit

set_option maxRecDepth 100000 in
theorem Ws.len {w : World} {A : Option Addr} {n c : Nat} {l : List Nat} (h : Ws w (.slice A n c) l) : n = l.length := by
  obtain ⟨A', c', e, _⟩ := h
  injection e
set_option maxRecDepth 100000 in
theorem Ws.lt {w : World} {v : Value} {l : List Nat} (h : Ws w v l) : ∀ x ∈ l, x < M256 := by
  obtain ⟨A, c, e, h1, h2, h3, h4⟩ := h
  intro x hx
  obtain ⟨i, hi, rfl⟩ := List.getElem_of_mem hx
  have := h4 i hi
  rwa [List.getD, List.getElem?_eq_getElem hi] at this

set_option maxRecDepth 100000 in
theorem natGetD_take (l : List Nat) (k i : Nat) (h : i < k) : (l.take k).getD i 0 = l.getD i 0 := by
  simp [List.getD, h]
set_option maxRecDepth 100000 in
theorem natGetD_drop (l : List Nat) (k i : Nat) : (l.drop k).getD i 0 = l.getD (k + i) 0 := by
  simp [List.getD, List.getElem?_drop]

set_option maxRecDepth 100000 in
theorem Ws.take {w : World} {A : Option Addr} {n c : Nat} {l : List Nat} (h : Ws w (.slice A n c) l) (k : Nat) (hk : k ≤ l.length) : Ws w (.slice A k c) (l.take k) := by
  obtain ⟨A', c', e, h1, h2, h3, h4⟩ := h
  injection e with e1 e2 e3
  subst e1; subst e3
  have hl : (l.take k).length = k := by simp; omega
  refine ⟨A, c, by rw [hl], by omega, h2, fun hp => ?_, fun i hi => ?_⟩
  · obtain ⟨b, o, ea, hc⟩ := h3 (by omega)
    exact ⟨b, o, ea, fun i hi j hj => by rw [hc i (by omega) j hj, natGetD_take _ _ _ (by omega)]⟩
  · rw [natGetD_take _ _ _ (by omega)]
    exact h4 i (by omega)
set_option maxRecDepth 100000 in
theorem Ws.takeMin {w : World} {A : Option Addr} {n c : Nat} {l : List Nat} (h : Ws w (.slice A n c) l) (m k : Nat) (hk : k = min l.length m) : Ws w (.slice A k c) (l.take m) := by
  have e : l.take m = l.take k := by
    subst hk
    rcases Nat.le_total l.length m with hl | hl
    · rw [Nat.min_eq_left hl, List.take_of_length_le hl, List.take_length]
    · rw [Nat.min_eq_right hl]
  rw [e]
  exact h.take k (by omega)
set_option maxRecDepth 100000 in
theorem Ws.drop {w : World} {A : Option Addr} {n c : Nat} {l : List Nat} (h : Ws w (.slice A n c) l) (k : Nat) (hk : k ≤ l.length) :
    Ws w (.slice (if c = k then A else A.map (·.add (k * 4))) (l.length - k) (c - k)) (l.drop k) := by
  obtain ⟨A', c', e, h1, h2, h3, h4⟩ := h
  injection e with e1 e2 e3
  subst e1; subst e3
  have hl : (l.drop k).length = l.length - k := by simp
  refine ⟨_, _, by rw [hl], by omega, by omega, fun hp => ?_, fun i hi => ?_⟩
  · obtain ⟨b, o, rfl, hc⟩ := h3 (by omega)
    rw [if_neg (by omega)]
    refine ⟨b, o + k * 4, ?_, fun i hi j hj => ?_⟩
    · show some (Addr.add _ _) = _
      unfold Addr.add
      split <;> simp_all
    · rw [natGetD_drop, ← hc (k + i) (by omega) j hj]
      congr 2
      omega
  · rw [natGetD_drop]
    exact h4 (k + i) (by omega)

set_option maxRecDepth 100000 in
/-- A slice of words that came in. -/
theorem ws_came {H : Type} {enc : TypeId × Value → H} {W : World} {base : Nat} {v : Value} {d : DataW H} {p : List MemPlace}
    (hval : Value.okWide Try.prog W .any base 155 v) (h : DataW.Trod enc Try.prog W 0 (fun _ => true) true 155 v d p) : ∃ l : List Nat, Ws W v l := by
  obtain ⟨a0, len0, cap0, rfl⟩ := okWide_slice Try.underlying155 hval
  obtain ⟨fuel, hf⟩ := h
  have hC : Try.prog.cellsOf 31 = 4 := by kernel_rfl
  rcases Go.Deep.open_slice Try.underlying155 hf with ⟨hcs, _⟩ | ⟨a, len, cap, m, n, D, Pl, hcs, _, hl, hm, hmm, _, hx⟩
  · simp [Value.cells] at hcs
    obtain ⟨rfl, rfl, rfl⟩ := hcs
    exact ⟨[], none, 0, rfl, Nat.le_refl _, Nat.zero_le _, fun h => absurd h (by simp), fun i h => absurd h (by simp)⟩
  · simp [Value.cells] at hcs
    obtain ⟨rfl, rfl, rfl⟩ := hcs
    simp only [if_true] at hmm
    subst hmm
    rw [hC] at hx
    have each : ∀ i, ∃ z : Nat, i < len0 → z < M256 ∧ ∀ j, j < 4 → W.cell? (a.add (i * 4 + j)) = some (.int .u64 (lb z j : Nat)) := by
      intro i
      by_cases hi : i < len0
      · obtain ⟨cs', hc, ht⟩ := hx i (by omega)
        obtain ⟨_, hlen, hat⟩ := World.cells?_some hc
        obtain ⟨xs, k, _, _, _, hxl, hel⟩ := DataW.trod_array Try.underlying31 ht
        have hce : Try.prog.cellsOf 28 = 1 := by kernel_rfl
        have ez : ∀ j, j < 4 → ∃ z : Nat, z < 18446744073709551616 ∧ cs'[j]? = some (.int .u64 (z : Nat)) := by
          intro j hj
          have hh := hel j hj
          rw [hce, Nat.mul_one] at hh
          have hxj : xs[j]? = some (xs[j]'(by omega)) := List.getElem?_eq_getElem (by omega)
          rw [hxj] at hh
          obtain ⟨z, e0, _, wz⟩ := DataW.trod_int Try.underlying28 hh
          have hb : 0 ≤ z ∧ z ≤ 18446744073709551615 := by simpa [Lit.wf, IntKind.min, IntKind.max, IntKind.signed, IntKind.bits] using wz
          refine ⟨z.toNat, by omega, ?_⟩
          have hj' : j < cs'.length := by omega
          have e1 : (List.take 1 (List.drop j cs'))[0]? = cs'[j]? := by rw [List.getElem?_take, if_pos (by omega), List.getElem?_drop, Nat.add_zero]
          rw [e0] at e1
          rw [← e1, Int.toNat_of_nonneg hb.1]
          rfl
        obtain ⟨z0, b0, e0⟩ := ez 0 (by omega)
        obtain ⟨z1, b1, e1⟩ := ez 1 (by omega)
        obtain ⟨z2, b2, e2⟩ := ez 2 (by omega)
        obtain ⟨z3, b3, e3⟩ := ez 3 (by omega)
        obtain ⟨l0, l1, l2, l3⟩ := lb_ofL z0 z1 z2 z3 b0 b1 b2 b3
        refine ⟨ofL z0 z1 z2 z3, fun _ => ⟨ofL_lt _ _ _ _ b0 b1 b2 b3, fun j hj => ?_⟩⟩
        rw [← Go.Deep.add_add, hat j hj]
        match j, hj with
        | 0, _ => rw [l0]; exact e0
        | 1, _ => rw [l1]; exact e1
        | 2, _ => rw [l2]; exact e2
        | 3, _ => rw [l3]; exact e3
      · exact ⟨0, fun h => absurd h hi⟩
    obtain ⟨f, hf'⟩ : ∃ f : Nat → Nat, ∀ i, i < len0 → f i < M256 ∧ ∀ j, j < 4 → W.cell? (a.add (i * 4 + j)) = some (.int .u64 (lb (f i) j : Nat)) := ⟨fun i => Classical.choose (each i), fun i => Classical.choose_spec (each i)⟩
    have hlen : ((List.range len0).map f).length = len0 := by simp
    have hget : ∀ i, i < len0 → ((List.range len0).map f).getD i 0 = f i := fun i hi => by simp [List.getD, hi]
    refine ⟨(List.range len0).map f, some a, m, by rw [hlen], by rw [hlen]; exact hl, hm, fun hp => ?_, fun i hi => ?_⟩
    · rw [hlen] at hp
      obtain ⟨b, o, sp⟩ := a
      have hc0 := (hf' 0 hp).2 0 (by omega)
      obtain rfl : sp = none := by simpa [Addr.add] using World.cell?_spot hc0
      refine ⟨b, o, rfl, fun i hi j hj => ?_⟩
      rw [hlen] at hi
      rw [hget i hi, ← (hf' i hi).2 j hj, add_plain, Nat.add_assoc]
    · rw [hlen] at hi
      rw [hget i hi]
      exact (hf' i hi).1

/-! ### Sums of many -/
set_option maxRecDepth 100000 in
theorem sumW_eq (l : List Nat) (hl : ∀ x ∈ l, x < M256) : sumW l = (l.sum % M256, decide (M256 ≤ l.sum)) := by
  unfold sumW
  suffices h : ∀ (s : Nat) (l : List Nat), (∀ x ∈ l, x < M256) → l.foldl sumS (s % M256, decide (M256 ≤ s)) = ((s + l.sum) % M256, decide (M256 ≤ s + l.sum)) by
    have := h 0 l hl
    rw [Nat.zero_mod, Nat.zero_add, decide_eq_false (show ¬ M256 ≤ 0 by decide)] at this
    exact this
  intro s l
  induction l generalizing s with
  | nil => intro _; rw [List.foldl_nil, List.sum_nil, Nat.add_zero]
  | cons x l ih =>
    intro hx
    have h1 := hx x List.mem_cons_self
    have e : sumS (s % M256, decide (M256 ≤ s)) x = ((s + x) % M256, decide (M256 ≤ s + x)) := by
      unfold sumS addN ovr
      refine Prod.ext (by simp [Nat.mod_add_mod]) ?_
      show (decide (M256 ≤ s) || decide (M256 ≤ s % M256 + x)) = decide (M256 ≤ s + x)
      by_cases h : M256 ≤ s
      · simp [h, show M256 ≤ s + x by omega]
      · rw [Nat.mod_eq_of_lt (by omega)]
        simp [h]
    rw [List.foldl_cons, e, ih (s + x) (fun y hy => hx y (List.mem_cons_of_mem _ hy)), List.sum_cons, Nat.add_assoc]

set_option maxRecDepth 100000 in
theorem sumW_reverse (l : List Nat) (hl : ∀ x ∈ l, x < M256) : sumW l.reverse = sumW l := by
  rw [sumW_eq l hl, sumW_eq l.reverse (fun x hx => hl x (List.mem_reverse.1 hx)), List.sum_reverse]

set_option maxRecDepth 100000 in
theorem sumW_parts (l : List Nat) (k : Nat) (hl : ∀ x ∈ l, x < M256) : addN (sumW (l.take k)).1 (sumW (l.drop k)).1 = (sumW l).1 ∧ (((sumW (l.take k)).2 || (sumW (l.drop k)).2) || ovr (sumW (l.take k)).1 (sumW (l.drop k)).1) = (sumW l).2 := by
  have hs : (l.take k).sum + (l.drop k).sum = l.sum := by rw [← List.sum_append, List.take_append_drop]
  rw [sumW_eq l hl, sumW_eq _ (fun x hx => hl x (List.mem_of_mem_take hx)), sumW_eq _ (fun x hx => hl x (List.mem_of_mem_drop hx)), ← hs]
  generalize (l.take k).sum = a
  generalize (l.drop k).sum = b
  unfold addN ovr
  refine ⟨by rw [Nat.mod_add_mod, Nat.add_mod_mod], ?_⟩
  by_cases ha : M256 ≤ a
  · simp [ha, show M256 ≤ a + b by omega]
  · by_cases hb : M256 ≤ b
    · simp [hb, show M256 ≤ a + b by omega]
    · rw [Nat.mod_eq_of_lt (show a < M256 by omega), Nat.mod_eq_of_lt (show b < M256 by omega)]
      simp [ha, hb]

end Go.Proofs.Ytiojfpdjnblkhaa
