/- Package nonce: what a use leaves (plain mathematics). -/
import Derived.Test.YtepggbhibpjkpaaNou
namespace Go.Proofs.Ytepggbhibpjkpaa
open Go.ChangeShapes Go.WideShapes Go.ChangeAt Go.RowKit Go.Shelf

theorem right_iff {l : List Nn} : rightN l = true ↔ l.length ≤ 48 ∧ (∀ p ∈ l, p.mayB = true) ∧ RiseN l := by
  constructor
  · intro h
    exact ⟨right_len h, fun p hp => right_may h hp, right_rise h⟩
  · rintro ⟨h1, h2, h3⟩
    refine rightN_all h1 (fun i hi => rgN_iff.2 ⟨h2 _ (getN_mem hi), fun h0 => ?_⟩)
    exact h3 (i - 1) i (by omega) hi
theorem mem_plN {l : List Nn} {p q : Nn} : q ∈ plN l p ↔ q = p ∨ (q ∈ l ∧ q.cod ≠ p.cod) := by
  unfold plN
  rw [List.mem_append, List.mem_cons, List.mem_filter, List.mem_filter, decide_eq_true_eq, decide_eq_true_eq]
  constructor
  · rintro (⟨h1, h2⟩ | h | ⟨h1, h2⟩)
    · exact .inr ⟨h1, by omega⟩
    · exact .inl h
    · exact .inr ⟨h1, by omega⟩
  · rintro (h | ⟨h1, h2⟩)
    · exact .inr (.inl h)
    · rcases Nat.lt_or_ge q.cod p.cod with h | h
      · exact .inl ⟨h1, h⟩
      · exact .inr (.inr ⟨h1, by omega⟩)
theorem plN_rise {l : List Nn} (hr : RiseN l) (p : Nn) : RiseN (plN l p) := by
  have h := (riseN_iff l).1 hr
  rw [riseN_iff]
  unfold plN
  rw [List.pairwise_append, List.pairwise_cons]
  refine ⟨h.filter _, ⟨fun q hq => ?_, h.filter _⟩, fun x hx y hy => ?_⟩
  · have := (List.mem_filter.1 hq).2
    simpa using this
  · have h1 := (List.mem_filter.1 hx).2
    rw [decide_eq_true_eq] at h1
    rcases List.mem_cons.1 hy with rfl | hy
    · exact h1
    · have h2 := (List.mem_filter.1 hy).2
      rw [decide_eq_true_eq] at h2
      omega
theorem plN_length {l : List Nn} (hr : RiseN l) (p : Nn) : (plN l p).length = l.length + (if hasN l p.cod then 0 else 1) := by
  have h1 := posN_le l p.cod
  rw [plN_eq hr, List.length_append, List.length_cons, List.length_take, List.length_drop]
  cases hh : hasN l p.cod with
  | true =>
    have := hasN_lt hh
    simp
    omega
  | false =>
    simp
    omega
theorem use_rt {l : List Nn} {a x : Nat} (h : usE l a x = 0) : rightN l = true := by
  unfold usE at h
  cases hr : rightN l with
  | true => rfl
  | false => rw [hr] at h; cases h
/-- A nonce word that was used: what is left. -/
theorem use_facts {l : List Nn} (hok : ∀ p ∈ l, p.ok) {a x : Nat} (ha : a < 18446744073709551616) (hx : x < M256) (h : usE l a x = 0) :
    rightN l = true ∧ a ≠ 0 ∧ seqN x = (rowN l a (keyN x)).nxt ∧ seqN x + 1 < 18446744073709551616 ∧ usL l a x = plN l ⟨a, keyN x, seqN x + 1⟩ ∧ rightN (usL l a x) = true ∧ (∀ p ∈ usL l a x, p.ok) := by
  have hr := use_rt h
  have hU : usL l a x = plN l ⟨a, keyN x, seqN x + 1⟩ := by unfold usL; rw [if_pos h]
  unfold usE at h
  rw [hr, if_pos rfl] at h
  by_cases h0 : a = 0
  · rw [if_pos h0] at h; cases h
  rw [if_neg h0] at h
  by_cases h1 : seqN x = (rowN l a (keyN x)).nxt
  · rw [if_pos h1] at h
    by_cases h2 : seqN x = 18446744073709551615
    · rw [if_pos h2] at h; cases h
    rw [if_neg h2] at h
    have hs : seqN x + 1 < 18446744073709551616 := by have := seqN_lt x; omega
    have hpk : (⟨a, keyN x, seqN x + 1⟩ : Nn).ok := ⟨ha, K192_lt (keyN_lt hx), hs⟩
    have hoks : ∀ p ∈ usL l a x, p.ok := by
      rw [hU]
      intro p hp
      rcases mem_plN.1 hp with rfl | ⟨h3, _⟩
      · exact hpk
      · exact hok p h3
    refine ⟨hr, h0, h1, hs, hU, ?_, hoks⟩
    rw [hU]
    refine right_iff.2 ⟨?_, fun p hp => ?_, plN_rise (right_rise hr) _⟩
    · have hlen := plN_length (right_rise hr) ⟨a, keyN x, seqN x + 1⟩
      have h48 := right_len hr
      rw [hlen]
      cases hh : hasN l (cdN a (keyN x)) with
      | true => rw [show (⟨a, keyN x, seqN x + 1⟩ : Nn).cod = cdN a (keyN x) from rfl, hh]; simpa using h48
      | false =>
        rw [hh] at h
        rw [show (⟨a, keyN x, seqN x + 1⟩ : Nn).cod = cdN a (keyN x) from rfl, hh]
        by_cases h3 : l.length = 48
        · simp [h3] at h
        · simp
          omega
    · rcases mem_plN.1 hp with rfl | ⟨h3, _⟩
      · exact (may_iff hpk.2.1).2 ⟨h0, keyN_lt hx, Nat.succ_pos _⟩
      · exact right_may hr h3
  · rw [if_neg h1] at h; cases h
theorem row_used {l : List Nn} (hr : RiseN l) (p : Nn) : rowN (plN l p) p.addr p.key = p := rowN_mem (plN_rise hr p) (mem_plN.2 (.inl rfl))
theorem row_other {l : List Nn} (hr : RiseN l) {p : Nn} {b k : Nat} (h : cdN b k ≠ p.cod) (hok : ∀ q ∈ plN l p, q.key < M256) (hk : k < M256) : rowN (plN l p) b k = rowN l b k := by
  by_cases hx : ∃ q ∈ l, q.cod = cdN b k
  · obtain ⟨q, hq, e⟩ := hx
    have hm : q ∈ plN l p := mem_plN.2 (.inr ⟨hq, by rw [e]; exact h⟩)
    obtain ⟨e1, e2⟩ := cdN_inj (hok q hm) hk e
    subst e1 e2
    rw [rowN_mem (plN_rise hr p) hm, rowN_mem hr hq]
  · have h1 : ∀ q ∈ l, q.cod ≠ cdN b k := fun q hq e => hx ⟨q, hq, e⟩
    rw [rowN_none hr h1, rowN_none (plN_rise hr p) (fun q hq => by
      rcases mem_plN.1 hq with rfl | ⟨h3, _⟩
      · exact fun e => h e.symm
      · exact h1 q h3)]
/-- Behind a use: next of its key is one more; the same word is refused; of all others next is as it was. -/
theorem use_next {l : List Nn} (hok : ∀ p ∈ l, p.ok) {a x : Nat} (ha : a < 18446744073709551616) (hx : x < M256) (h : usE l a x = 0) :
    nxE (usL l a x) a (keyN x) = 0 ∧ nxW (usL l a x) a (keyN x) = jnN (keyN x) (seqN x + 1) ∧ usE (usL l a x) a x = 181 := by
  obtain ⟨hr, h0, h1, h2, hU, hR, hoks⟩ := use_facts hok ha hx h
  have hrow : rowN (usL l a x) a (keyN x) = ⟨a, keyN x, seqN x + 1⟩ := by rw [hU]; exact row_used (right_rise hr) ⟨a, keyN x, seqN x + 1⟩
  have e1 : nxE (usL l a x) a (keyN x) = 0 := by
    unfold nxE
    rw [hR, if_pos rfl, if_neg h0, (keyB_iff (K192_lt (keyN_lt hx))).2 (keyN_lt hx), if_pos rfl]
  refine ⟨e1, ?_, ?_⟩
  · unfold nxW
    rw [if_pos e1, hrow]
  · unfold usE
    rw [hR, if_pos rfl, if_neg h0, hrow, if_neg (by simp)]
theorem use_others {l : List Nn} (hok : ∀ p ∈ l, p.ok) {a x : Nat} (ha : a < 18446744073709551616) (hx : x < M256) (h : usE l a x = 0) {b k : Nat} (hk : k < M256) (hne : ¬(b = a ∧ k = keyN x)) :
    nxE (usL l a x) b k = nxE l b k ∧ nxW (usL l a x) b k = nxW l b k := by
  obtain ⟨hr, h0, h1, h2, hU, hR, hoks⟩ := use_facts hok ha hx h
  have e1 : nxE (usL l a x) b k = nxE l b k := by unfold nxE; rw [hR, hr]
  refine ⟨e1, ?_⟩
  unfold nxW
  rw [e1]
  split
  · rw [hU, row_other (right_rise hr) (p := ⟨a, keyN x, seqN x + 1⟩) (fun e => hne (cdN_inj hk (K192_lt (keyN_lt hx)) e)) (fun q hq => by rw [← hU] at hq; exact (hoks q hq).2.1) hk]
  · rfl
/-- All that was used stands behind what is next. -/
def MetN (M : List (Nat × Nat)) (l : List Nn) : Prop := ∀ q ∈ M, seqN q.2 < (rowN l q.1 (keyN q.2)).nxt
theorem met_not {M : List (Nat × Nat)} {l : List Nn} (hM : MetN M l) {a x : Nat} (h : seqN x = (rowN l a (keyN x)).nxt) : (a, x) ∉ M := fun hm => by
  have := hM _ hm
  dsimp only at this
  omega
theorem met_more {M : List (Nat × Nat)} {l : List Nn} (hM : MetN M l) (hq : OkQ M) (hok : ∀ p ∈ l, p.ok) {a x : Nat} (ha : a < 18446744073709551616) (hx : x < M256) (h : usE l a x = 0) : MetN ((a, x) :: M) (usL l a x) := by
  obtain ⟨hr, h0, h1, h2, hU, hR, hoks⟩ := use_facts hok ha hx h
  have hrow : rowN (usL l a x) a (keyN x) = ⟨a, keyN x, seqN x + 1⟩ := by rw [hU]; exact row_used (right_rise hr) ⟨a, keyN x, seqN x + 1⟩
  intro q hqq
  rcases List.mem_cons.1 hqq with rfl | hm
  · rw [hrow]
    exact Nat.lt_succ_self _
  · have h3 := hM q hm
    have hb := hq q hm
    by_cases hs : q.1 = a ∧ keyN q.2 = keyN x
    · rw [hs.1, hs.2] at h3
      rw [hs.1, hs.2, hrow]
      show _ < seqN x + 1
      omega
    · rw [hU, row_other (right_rise hr) (p := ⟨a, keyN x, seqN x + 1⟩) (fun e => hs (cdN_inj (K192_lt (keyN_lt hb.2)) (K192_lt (keyN_lt hx)) e)) (fun q hq => by rw [← hU] at hq; exact (hoks q hq).2.1) (K192_lt (keyN_lt hb.2))]
      exact h3
end Go.Proofs.Ytepggbhibpjkpaa
