/- Package ledger: ledgers as tables (plain mathematics). -/
import Derived.Test.YtepggbhibpjkpaaLhl
namespace Go.Proofs.Ytepggbhibpjkpaa
open Go.ChangeShapes Go.WideShapes Go.ChangeAt Go.RowKit Go.Shelf

theorem hasB_no {h : Hd} (k : h.hasB = false) : h = ⟨h.addr, 0, 0, 0, 0⟩ := by
  unfold Hd.hasB at k
  rw [Bool.not_eq_false'] at k
  exact (Hd.eqB_iff _ _).1 k
theorem hasB_z (a : Nat) : (⟨a, 0, 0, 0, 0⟩ : Hd).hasB = false := by
  unfold Hd.hasB
  rw [Bool.not_eq_false']
  exact Hd.eqB_self _
theorem hasB_ne {h : Hd} (k : h ≠ ⟨h.addr, 0, 0, 0, 0⟩) : h.hasB = true := by
  cases hb : h.hasB with
  | true => rfl
  | false => exact absurd (hasB_no hb) k
theorem rowB_has {h : Hd} (k : h.rowB = true) : h.hasB = true := by
  refine hasB_ne (fun e => ?_)
  rw [e] at k
  simp [Hd.rowB] at k
theorem riseG_iff (l : List Hd) : RiseG l ↔ l.Pairwise (fun p q => p.addr < q.addr) := by
  unfold RiseG
  rw [List.pairwise_iff_getElem]
  constructor
  · intro h i j hi hj hij
    have := h i j hij hj
    rw [List.getD_eq_getElem?_getD, List.getD_eq_getElem?_getD, List.getElem?_eq_getElem hi, List.getElem?_eq_getElem hj] at this
    exact this
  · intro h i j hij hj
    have := h i j (by omega) hj hij
    rw [List.getD_eq_getElem?_getD, List.getD_eq_getElem?_getD, List.getElem?_eq_getElem (show i < l.length by omega), List.getElem?_eq_getElem hj]
    exact this
theorem uniqG {l : List Hd} (h : l.Pairwise (fun p q => p.addr < q.addr)) : ∀ p ∈ l, ∀ q ∈ l, p.addr = q.addr → p = q := by
  induction l with
  | nil => intro p hp; cases hp
  | cons x l ih =>
    obtain ⟨h1, h2⟩ := List.pairwise_cons.1 h
    intro p hp q hq e
    rcases List.mem_cons.1 hp with hp | hp
    · rcases List.mem_cons.1 hq with hq | hq
      · rw [hp, hq]
      · have := h1 q hq; rw [hp] at e; omega
    · rcases List.mem_cons.1 hq with hq | hq
      · have := h1 p hp; rw [hq] at e; omega
      · exact ih h2 p hp q hq e
theorem extG {l m : List Hd} (hl : l.Pairwise (fun p q => p.addr < q.addr)) (hm : m.Pairwise (fun p q => p.addr < q.addr)) (h1 : ∀ p ∈ l, p ∈ m) (h2 : ∀ p ∈ m, p ∈ l) : l = m := by
  induction l generalizing m with
  | nil =>
    cases m with
    | nil => rfl
    | cons q m => exact absurd (h2 q List.mem_cons_self) (by simp)
  | cons p l ih =>
    cases m with
    | nil => exact absurd (h1 p List.mem_cons_self) (by simp)
    | cons q m =>
      obtain ⟨a1, a2⟩ := List.pairwise_cons.1 hl
      obtain ⟨b1, b2⟩ := List.pairwise_cons.1 hm
      have e : p = q := by
        rcases List.mem_cons.1 (h1 p List.mem_cons_self) with e | hp
        · exact e
        · rcases List.mem_cons.1 (h2 q List.mem_cons_self) with e | hq
          · exact e.symm
          · have := b1 p hp
            have := a1 q hq
            omega
      subst e
      rw [ih a2 b2 (fun x hx => by
        rcases List.mem_cons.1 (h1 x (List.mem_cons_of_mem _ hx)) with rfl | h
        · exact absurd (a1 x hx) (by omega)
        · exact h) (fun x hx => by
        rcases List.mem_cons.1 (h2 x (List.mem_cons_of_mem _ hx)) with rfl | h
        · exact absurd (b1 x hx) (by omega)
        · exact h)]

/-! ### The row of an address -/
theorem hasG_at {l : List Hd} (a : Nat) (h : hasG l a = true) : ∃ p ∈ l, p.addr = a ∧ rowG l a = p := by
  have hi := hasG_lt h
  refine ⟨l.getD (posG l a) hz0, ?_, ?_, ?_⟩
  · rw [List.getD_eq_getElem?_getD, List.getElem?_eq_getElem hi]; exact List.getElem_mem hi
  · unfold hasG at h; simp only [Bool.and_eq_true, decide_eq_true_eq] at h; exact h.2
  · unfold rowG; rw [if_pos h]
theorem hasG_mem {l : List Hd} (hr : RiseG l) {p : Hd} (hp : p ∈ l) : hasG l p.addr = true := by
  obtain ⟨i, hi, e⟩ := List.getElem_of_mem hp
  have eg : l.getD i hz0 = p := by rw [List.getD_eq_getElem?_getD, List.getElem?_eq_getElem hi, Option.getD_some, e]
  have h1 := posG_lt l p.addr hr i hi
  rw [eg] at h1
  have hle : posG l p.addr ≤ i := by
    rcases Nat.lt_or_ge i (posG l p.addr) with h | h
    · have := h1.2 h; omega
    · exact h
  have hpos : posG l p.addr = i := by
    rcases Nat.lt_or_eq_of_le hle with h | h
    · have h2 := hr (posG l p.addr) i h hi
      rw [eg] at h2
      have := (posG_lt l p.addr hr (posG l p.addr) (by omega)).1 h2
      omega
    · exact h
  unfold hasG
  rw [hpos, eg, decide_eq_true hi]
  simp
theorem rowG_mem {l : List Hd} (hr : RiseG l) {p : Hd} (hp : p ∈ l) : rowG l p.addr = p := by
  obtain ⟨q, hq, e, h⟩ := hasG_at p.addr (hasG_mem hr hp)
  rw [h]
  exact uniqG ((riseG_iff l).1 hr) q hq p hp e
theorem rowG_none {l : List Hd} {a : Nat} (h : ∀ p ∈ l, p.addr ≠ a) : rowG l a = ⟨a, 0, 0, 0, 0⟩ := by
  unfold rowG
  cases hh : hasG l a with
  | false => rfl
  | true =>
    obtain ⟨p, hp, e, _⟩ := hasG_at a hh
    exact absurd e (h p hp)
theorem rowG_or {l : List Hd} (hr : RiseG l) (a : Nat) : (∃ p ∈ l, p.addr = a ∧ rowG l a = p ∧ hasG l a = true) ∨ ((∀ p ∈ l, p.addr ≠ a) ∧ rowG l a = ⟨a, 0, 0, 0, 0⟩ ∧ hasG l a = false) := by
  cases hh : hasG l a with
  | true =>
    obtain ⟨p, hp, e, h⟩ := hasG_at a hh
    exact .inl ⟨p, hp, e, h, rfl⟩
  | false =>
    have hn : ∀ p ∈ l, p.addr ≠ a := fun p hp e => by
      have := hasG_mem hr hp
      rw [e, hh] at this
      cases this
    exact .inr ⟨hn, rowG_none hn, rfl⟩
theorem splitG (l : List Hd) (a : Nat) : l = l.take (posG l a) ++ ((if hasG l a then [rowG l a] else []) ++ l.drop (posG l a + if hasG l a then 1 else 0)) := by
  cases hh : hasG l a with
  | false => simp
  | true =>
    have hi := hasG_lt hh
    have e : rowG l a = l[posG l a] := by
      unfold rowG
      rw [if_pos hh, List.getD_eq_getElem?_getD, List.getElem?_eq_getElem hi]
      rfl
    rw [e]
    simp only [if_true, List.singleton_append]
    rw [List.getElem_cons_drop, List.take_append_drop]

/-! ### Another row in its place -/
theorem mem_plG {l : List Hd} {h p : Hd} : p ∈ plG l h ↔ (p ∈ l ∧ p.addr ≠ h.addr) ∨ (h.hasB = true ∧ p = h) := by
  unfold plG ltG gtG
  rw [List.mem_append, List.mem_append, List.mem_filter, List.mem_filter]
  constructor
  · rintro (⟨h1, h2⟩ | h1 | ⟨h1, h2⟩)
    · exact .inl ⟨h1, by simp only [decide_eq_true_eq] at h2; omega⟩
    · cases hx : h.hasB with
      | true => rw [hx] at h1; exact .inr ⟨rfl, by simpa using h1⟩
      | false => rw [hx] at h1; simp at h1
    · exact .inl ⟨h1, by simp only [decide_eq_true_eq] at h2; omega⟩
  · rintro (⟨h1, h2⟩ | ⟨h1, rfl⟩)
    · rcases Nat.lt_or_gt_of_ne h2 with h | h
      · exact .inl ⟨h1, by simpa using h⟩
      · exact .inr (.inr ⟨h1, by simpa using h⟩)
    · exact .inr (.inl (by rw [h1]; simp))
theorem plG_rise {l : List Hd} (hr : RiseG l) (h : Hd) : RiseG (plG l h) := by
  rw [riseG_iff] at hr ⊢
  unfold plG ltG gtG
  rw [List.pairwise_append, List.pairwise_append]
  refine ⟨List.Pairwise.filter _ hr, ⟨by split <;> simp, List.Pairwise.filter _ hr, ?_⟩, ?_⟩
  · intro p hp q hq
    have hq2 : h.addr < q.addr := by simpa using (List.mem_filter.1 hq).2
    split at hp
    · rw [List.mem_singleton.1 hp]; exact hq2
    · cases hp
  · intro p hp q hq
    have hp2 : p.addr < h.addr := by simpa using (List.mem_filter.1 hp).2
    rcases List.mem_append.1 hq with hq | hq
    · split at hq
      · rw [List.mem_singleton.1 hq]; exact hp2
      · cases hq
    · have : h.addr < q.addr := by simpa using (List.mem_filter.1 hq).2
      omega
theorem rowG_plG {l : List Hd} (hr : RiseG l) (h : Hd) (b : Nat) : rowG (plG l h) b = if b = h.addr then h else rowG l b := by
  by_cases hb : b = h.addr
  · rw [if_pos hb]
    subst hb
    cases hh : h.hasB with
    | true => exact rowG_mem (plG_rise hr h) (mem_plG.2 (.inr ⟨hh, rfl⟩))
    | false =>
      rw [rowG_none (fun p hp => ?_)]
      · exact (hasB_no hh).symm
      · rcases mem_plG.1 hp with ⟨_, h2⟩ | ⟨h2, _⟩
        · exact h2
        · rw [hh] at h2; cases h2
  · rw [if_neg hb]
    rcases rowG_or hr b with ⟨p, hp, e, h1, _⟩ | ⟨h1, h2, _⟩
    · subst e
      rw [h1]
      exact rowG_mem (plG_rise hr h) (mem_plG.2 (.inl ⟨hp, hb⟩))
    · rw [h2, rowG_none (fun p hp => ?_)]
      rcases mem_plG.1 hp with ⟨h3, _⟩ | ⟨_, rfl⟩
      · exact h1 p h3
      · exact fun e => hb e.symm
def totG (l : List Hd) : Nat := (flatH l).sum
theorem totG_app (l m : List Hd) : totG (l ++ m) = totG l + totG m := by unfold totG flatH; rw [List.flatMap_append, List.sum_append]
theorem totG_one (h : Hd) : totG [h] = h.dep + h.stk := by simp [totG, flatH]
theorem totG_nil : totG [] = 0 := rfl
theorem rowG_not {l : List Hd} {a : Nat} (h : hasG l a = false) : rowG l a = ⟨a, 0, 0, 0, 0⟩ := by unfold rowG; rw [h]; rfl
theorem totG_plG {l : List Hd} (hr : RiseG l) (h : Hd) : totG (plG l h) + ((rowG l h.addr).dep + (rowG l h.addr).stk) = totG l + (h.dep + h.stk) := by
  have e1 := splitG l h.addr
  have e2 := plG_eq hr h
  generalize l.take (posG l h.addr) = A at e1 e2
  generalize l.drop (posG l h.addr + if hasG l h.addr then 1 else 0) = B at e1 e2
  rw [e2, totG_app, totG_app]
  have t1 : totG l = totG A + (totG (if hasG l h.addr then [rowG l h.addr] else []) + totG B) := by
    conv => lhs; rw [e1]
    rw [totG_app, totG_app]
  rw [t1]
  have k1 : totG (if hasG l h.addr then [rowG l h.addr] else []) = (rowG l h.addr).dep + (rowG l h.addr).stk := by
    cases hh : hasG l h.addr with
    | true => rw [if_pos rfl, totG_one]
    | false => rw [rowG_not hh]; rfl
  have k2 : totG (if h.hasB then [h] else []) = h.dep + h.stk := by
    cases hh : h.hasB with
    | true => rw [if_pos rfl, totG_one]
    | false =>
      have := hasB_no hh
      rw [if_neg (by simp), totG_nil, this]
      exact rfl
  rw [k1, k2]
  omega
theorem plG_length {l : List Hd} (hr : RiseG l) (h : Hd) : (plG l h).length + (if hasG l h.addr then 1 else 0) = l.length + (if h.hasB then 1 else 0) := by
  have e1 := congrArg List.length (splitG l h.addr)
  have e2 := congrArg List.length (plG_eq hr h)
  rw [List.length_append, List.length_append] at e1 e2
  generalize (l.take (posG l h.addr)).length = A at e1 e2
  generalize (l.drop (posG l h.addr + if hasG l h.addr then 1 else 0)).length = B at e1 e2
  have k1 : (if hasG l h.addr then [rowG l h.addr] else []).length = if hasG l h.addr then 1 else 0 := by split <;> rfl
  have k2 : (if h.hasB then [h] else []).length = if h.hasB then 1 else 0 := by split <;> rfl
  rw [k1] at e1
  rw [k2] at e2
  omega

/-! ### Which ledgers may be -/
structure Rg (l : List Hd) : Prop where
  rise : RiseG l
  each : ∀ p ∈ l, p.addr ≠ 0 ∧ p.rowB = true
  few : l.length ≤ 24
  fits : totG l < M256
theorem rg_iff {l : List Hd} (hok : ∀ p ∈ l, p.ok) : rightG l = true ↔ Rg l := by
  constructor
  · intro h
    obtain ⟨h1, h2, h3⟩ := rightG_parts h
    refine ⟨rightG_rise h, fun p hp => ?_, h1, ?_⟩
    · obtain ⟨i, hi, e⟩ := List.getElem_of_mem hp
      have := rgB_lt (h2 i hi)
      rw [List.getD_eq_getElem?_getD, List.getElem?_eq_getElem hi, Option.getD_some, e] at this
      exact ⟨by omega, this.2⟩
    · rw [sumW_eq (flatH l) (flatH_lt hok)] at h3
      have : ¬ M256 ≤ (flatH l).sum := of_decide_eq_false h3
      unfold totG
      omega
  · intro h
    unfold rightG
    rw [decide_eq_true h.few, Bool.true_and, Bool.and_eq_true, List.all_eq_true, Bool.not_eq_true']
    refine ⟨fun i hi => ?_, ?_⟩
    · have hi := List.mem_range.1 hi
      unfold rgB lastA
      have hm : l.getD i hz0 ∈ l := by rw [List.getD_eq_getElem?_getD, List.getElem?_eq_getElem hi]; exact List.getElem_mem hi
      rw [Bool.and_eq_true, decide_eq_true_eq]
      refine ⟨?_, (h.each _ hm).2⟩
      by_cases h0 : i = 0
      · rw [if_pos h0]; have := (h.each _ hm).1; omega
      · rw [if_neg h0]; exact h.rise (i - 1) i (by omega) hi
    · rw [sumW_eq (flatH l) (flatH_lt hok)]
      exact decide_eq_false (by have := h.fits; unfold totG at this; omega)
theorem Rg.sum {l : List Hd} (h : Rg l) (hok : ∀ p ∈ l, p.ok) : sumG l = totG l := by
  unfold sumG
  rw [if_pos ((rg_iff hok).2 h), sumW_eq (flatH l) (flatH_lt hok)]
  exact Nat.mod_eq_of_lt h.fits
theorem Rg.has {l : List Hd} (h : Rg l) (a : Nat) : hasG l a = (rowG l a).hasB := by
  rcases rowG_or h.rise a with ⟨p, hp, _, e1, e2⟩ | ⟨_, e1, e2⟩
  · rw [e1, e2, rowB_has (h.each p hp).2]
  · rw [e1, e2, hasB_z]
theorem Rg.view {l m : List Hd} (hl : Rg l) (hm : Rg m) (h : ∀ b, rowG l b = rowG m b) : l = m := by
  have key : ∀ {l m : List Hd}, Rg l → Rg m → (∀ b, rowG l b = rowG m b) → ∀ p ∈ l, p ∈ m := by
    intro l m hl hm h p hp
    have e := h p.addr
    rw [rowG_mem hl.rise hp] at e
    rcases rowG_or hm.rise p.addr with ⟨q, hq, _, e1, _⟩ | ⟨_, e1, _⟩
    · rw [e, e1]; exact hq
    · have := rowB_has (hl.each p hp).2
      rw [e, e1, hasB_z] at this
      cases this
  exact extG ((riseG_iff l).1 hl.rise) ((riseG_iff m).1 hm.rise) (key hl hm h) (key hm hl (fun b => (h b).symm))
theorem plG_ok {l : List Hd} (hok : ∀ p ∈ l, p.ok) {h : Hd} (hh : h.ok) : ∀ p ∈ plG l h, p.ok := fun p hp => by
  rcases mem_plG.1 hp with ⟨h1, _⟩ | ⟨_, rfl⟩
  · exact hok p h1
  · exact hh
theorem Rg.pl {l : List Hd} (hl : Rg l) {h : Hd} (ha : h.addr ≠ 0) (hb : h.hasB = true → h.rowB = true) (hf : (plG l h).length ≤ 24) (ht : totG (plG l h) < M256) : Rg (plG l h) := by
  refine ⟨plG_rise hl.rise h, fun p hp => ?_, hf, ht⟩
  rcases mem_plG.1 hp with ⟨h1, _⟩ | ⟨h1, rfl⟩
  · exact hl.each p h1
  · exact ⟨ha, hb h1⟩
theorem Rg.row {l : List Hd} (h : Rg l) (a : Nat) : (rowG l a).hasB = true → (rowG l a).rowB = true := by
  rcases rowG_or h.rise a with ⟨p, hp, _, e1, _⟩ | ⟨_, e1, _⟩
  · rw [e1]; exact fun _ => (h.each p hp).2
  · rw [e1, hasB_z]; intro h; cases h
theorem fd_row {l : List Hd} (h : rightG l = true) {a : Nat} (ha : a ≠ 0) : fdG l a = rowG l a := by unfold fdG; rw [if_pos (teE_right h ha)]
theorem fd_zero (l : List Hd) : fdG l 0 = hz0 := by
  unfold fdG
  rw [if_neg (fun h => (teE_zero h).2 rfl)]
end Go.Proofs.Ytepggbhibpjkpaa
