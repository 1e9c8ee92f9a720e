/- States as tables: what all addresses have (plain mathematics). -/
import Derived.Test.YteidmoilldheeaaQStx
namespace Go.Proofs.Yteidmoilldheeaa
open Go.ChangeShapes Go.WideShapes Go.ChangeAt Go.RowKit Go.Shelf

theorem emptyB_eq {x : Ac} (h : x.emptyB = true) : x = ⟨x.addr, 0, 0, [], []⟩ := by
  obtain ⟨a, b, c, d, e⟩ := x
  simp only [Ac.emptyB, Bool.and_eq_true, decide_eq_true_eq, List.length_eq_zero_iff] at h
  obtain ⟨h1, h2, h3, h4⟩ := h
  subst h1 h2 h3 h4
  rfl
theorem emptyB_em (a : Nat) : (⟨a, 0, 0, [], []⟩ : Ac).emptyB = true := by simp [Ac.emptyB]
theorem freeN_app (l m : List Ac) : freeN (l ++ m) = freeN l + freeN m := by simp [freeN]
theorem freeN_cons (p : Ac) (l : List Ac) : freeN (p :: l) = (if p.addr < 16 then 0 else 1) + freeN l := by
  unfold freeN
  by_cases h : p.addr < 16 <;> simp [h]; omega
theorem bals_app (l m : List Ac) : bals (l ++ m) = bals l ++ bals m := by simp [bals]

/-- A state may be. -/
structure Rt (l : List Ac) : Prop where
  rise : RiseA l
  each : ∀ p ∈ l, 0 < p.addr ∧ p.rightB = true ∧ p.emptyB = false
  free : freeN l ≤ 24
  fits : (bals l).sum < M256
theorem chL_iff : ∀ (l : List Ac) (f t : Nat), f ≤ 24 → ((l.foldl chS (some (f, t))).isSome = true ↔ RiseA l ∧ (∀ p ∈ l, t < p.addr ∧ p.rightB = true ∧ p.emptyB = false) ∧ f + freeN l ≤ 24)
  | [], f, t, hf => by simp [RiseA, freeN]; omega
  | q :: l, f, t, hf => by
    rw [List.foldl_cons, freeN_cons]
    have hR : RiseA (q :: l) ↔ (∀ p ∈ l, q.addr < p.addr) ∧ RiseA l := List.pairwise_cons
    rw [hR]
    by_cases h1 : q.addr ≤ t
    · rw [show chS (some (f, t)) q = none by simp [chS, h1], chS_none]
      constructor
      · intro h; cases h
      · rintro ⟨_, h, _⟩
        have := (h q List.mem_cons_self).1
        omega
    by_cases h2 : q.emptyB = true
    · rw [show chS (some (f, t)) q = none by simp [chS, h1, h2], chS_none]
      constructor
      · intro h; cases h
      · rintro ⟨_, h, _⟩
        have := (h q List.mem_cons_self).2.2
        rw [h2] at this; cases this
    by_cases h3 : q.rightB = false
    · rw [show chS (some (f, t)) q = none by simp [chS, h1, h2, h3], chS_none]
      constructor
      · intro h; cases h
      · rintro ⟨_, h, _⟩
        have := (h q List.mem_cons_self).2.1
        rw [h3] at this; cases this
    have h2' : q.emptyB = false := by simpa using h2
    have h3' : q.rightB = true := by simpa using h3
    have key : ∀ (f' : Nat), f' ≤ 24 → (RiseA l ∧ (∀ p ∈ l, q.addr < p.addr ∧ p.rightB = true ∧ p.emptyB = false) ∧ f' + freeN l ≤ 24 ↔ ((∀ p ∈ l, q.addr < p.addr) ∧ RiseA l) ∧ (∀ p ∈ q :: l, t < p.addr ∧ p.rightB = true ∧ p.emptyB = false) ∧ f' + freeN l ≤ 24) := by
      intro f' _
      constructor
      · rintro ⟨a1, a2, a3⟩
        refine ⟨⟨fun p hp => (a2 p hp).1, a1⟩, fun p hp => ?_, a3⟩
        rcases List.mem_cons.1 hp with rfl | hp
        · exact ⟨by omega, h3', h2'⟩
        · exact ⟨by have := (a2 p hp).1; omega, (a2 p hp).2⟩
      · rintro ⟨⟨a0, a1⟩, a2, a3⟩
        exact ⟨a1, fun p hp => ⟨a0 p hp, (a2 p (List.mem_cons_of_mem _ hp)).2⟩, a3⟩
    by_cases h4 : q.addr < 16
    · rw [show chS (some (f, t)) q = some (f, q.addr) by simp [chS, h1, h2', h3', h4], chL_iff l f q.addr hf, key f hf, if_pos h4, Nat.zero_add]
    by_cases h5 : f = 24
    · rw [show chS (some (f, t)) q = none by simp [chS, h1, h2', h3', h4, h5], chS_none, if_neg h4]
      constructor
      · intro h; cases h
      · rintro ⟨_, _, h⟩; omega
    · rw [show chS (some (f, t)) q = some (f + 1, q.addr) by simp [chS, h1, h2', h3', h4, h5], chL_iff l (f + 1) q.addr (by omega), key (f + 1) (by omega), if_neg h4]
      have e : f + 1 + freeN l = f + (1 + freeN l) := by omega
      rw [e]
theorem rt_iff {l : List Ac} (hok : ∀ p ∈ l, p.ok) : rightL l = true ↔ Rt l := by
  unfold rightL chL
  rw [Bool.and_eq_true, chL_iff l 0 0 (by omega), sumW_eq (bals l) (fun x hx => by obtain ⟨p, hp, rfl⟩ := List.mem_map.1 hx; exact (hok p hp).2.1)]
  simp only [Bool.not_eq_true', decide_eq_false_iff_not, Nat.not_le, Nat.zero_add]
  exact ⟨fun ⟨⟨a, b, c⟩, d⟩ => ⟨a, b, c, d⟩, fun h => ⟨⟨h.rise, h.each, h.free⟩, h.fits⟩⟩

theorem accF_addr (l : List Ac) (a : Nat) : (accF l a).1.addr = a := by
  rcases accF_else (l := l) (a := a) with ⟨p, _, h, e⟩ | e
  · rw [e]; exact h
  · rw [e]
theorem accF_mem2 {l : List Ac} {a : Nat} (h : (accF l a).2 = true) : (accF l a).1 ∈ l := by
  rcases accF_else (l := l) (a := a) with ⟨p, hp, _, e⟩ | e
  · rw [e]; exact hp
  · rw [e] at h; cases h
theorem accF_no {l : List Ac} {a : Nat} (h : (accF l a).2 = false) : (accF l a).1 = ⟨a, 0, 0, [], []⟩ := by
  rcases accF_else (l := l) (a := a) with ⟨p, hp, _, e⟩ | e
  · rw [e] at h; cases h
  · rw [e]
theorem accF_has {l : List Ac} (hl : RiseA l) {p : Ac} (hp : p ∈ l) {a : Nat} (ha : p.addr = a) : accF l a = (p, true) := by rw [← ha]; exact accF_mem hl hp
theorem accF_not {l : List Ac} {a : Nat} (h : ∀ p ∈ l, p.addr ≠ a) : accF l a = (⟨a, 0, 0, [], []⟩, false) := accF_none h

/-- A rising row is what is below an address, what is there, what is above it. -/
theorem rise_split {l : List Ac} (h : RiseA l) (x : Ac) : l = (ltL x l ++ if (accF l x.addr).2 then [(accF l x.addr).1] else []) ++ gtL x l := by
  refine RiseA.ext h ?_ (fun p hp => ?_) (fun p hp => ?_)
  · unfold RiseA
    rw [List.pairwise_append, List.pairwise_append]
    refine ⟨⟨List.Pairwise.filter _ h, by split <;> simp, ?_⟩, List.Pairwise.filter _ h, ?_⟩
    · intro p hp q hq
      split at hq
      · rw [List.mem_singleton.1 hq, accF_addr]
        simpa [ltL] using (List.mem_filter.1 hp).2
      · cases hq
    · intro p hp q hq
      have hq2 : x.addr < q.addr := by simpa [gtL] using (List.mem_filter.1 hq).2
      rcases List.mem_append.1 hp with hp | hp
      · have hp2 : p.addr < x.addr := by simpa [ltL] using (List.mem_filter.1 hp).2
        omega
      · split at hp
        · rw [List.mem_singleton.1 hp, accF_addr]; exact hq2
        · cases hp
  · rcases Nat.lt_trichotomy p.addr x.addr with h1 | h1 | h1
    · exact List.mem_append_left _ (List.mem_append_left _ (List.mem_filter.2 ⟨hp, by simpa using h1⟩))
    · rw [accF_has h hp h1]
      exact List.mem_append_left _ (List.mem_append_right _ (by simp))
    · exact List.mem_append_right _ (List.mem_filter.2 ⟨hp, by simpa using h1⟩)
  · rcases List.mem_append.1 hp with hp | hp
    · rcases List.mem_append.1 hp with hp | hp
      · exact (List.mem_filter.1 hp).1
      · split at hp
        · rename_i hc
          rw [List.mem_singleton.1 hp]
          exact accF_mem2 hc
        · cases hp
    · exact (List.mem_filter.1 hp).1
theorem mem_plL {l : List Ac} {x p : Ac} : p ∈ plL l x ↔ (p ∈ l ∧ p.addr ≠ x.addr) ∨ (x.emptyB = false ∧ p = x) := by
  unfold plL ltL gtL
  rw [List.mem_append, List.mem_append, List.mem_filter, List.mem_filter]
  constructor
  · rintro ((⟨h1, h2⟩ | h1) | ⟨h1, h2⟩)
    · exact .inl ⟨h1, by simp only [decide_eq_true_eq] at h2; omega⟩
    · cases hx : x.emptyB with
      | false => rw [hx] at h1; exact .inr ⟨rfl, by simpa using h1⟩
      | true => rw [hx] at h1; simp at h1
    · exact .inl ⟨h1, by simp only [decide_eq_true_eq] at h2; omega⟩
  · rintro (⟨h1, h2⟩ | ⟨h1, rfl⟩)
    · rcases Nat.lt_or_gt_of_ne h2 with h | h
      · exact .inl (.inl ⟨h1, by simpa using h⟩)
      · exact .inr ⟨h1, by simpa using h⟩
    · exact .inl (.inr (by rw [h1]; simp))
theorem plL_rise {l : List Ac} (h : RiseA l) (x : Ac) : RiseA (plL l x) := by
  unfold RiseA plL
  rw [List.pairwise_append, List.pairwise_append]
  refine ⟨⟨List.Pairwise.filter _ h, by split <;> simp, ?_⟩, List.Pairwise.filter _ h, ?_⟩
  · intro p hp q hq
    split at hq
    · cases hq
    · rw [List.mem_singleton.1 hq]
      simpa [ltL] using (List.mem_filter.1 hp).2
  · intro p hp q hq
    have hq2 : x.addr < q.addr := by simpa [gtL] using (List.mem_filter.1 hq).2
    rcases List.mem_append.1 hp with hp | hp
    · have hp2 : p.addr < x.addr := by simpa [ltL] using (List.mem_filter.1 hp).2
      omega
    · split at hp
      · cases hp
      · rw [List.mem_singleton.1 hp]; exact hq2
theorem accF_pl {l : List Ac} (h : RiseA l) (x : Ac) (b : Nat) : accF (plL l x) b = if b = x.addr then (x, !x.emptyB) else accF l b := by
  by_cases hb : b = x.addr
  · rw [if_pos hb]
    cases hx : x.emptyB with
    | false => exact accF_has (plL_rise h x) (mem_plL.2 (.inr ⟨hx, rfl⟩)) hb.symm
    | true =>
      rw [accF_not (fun p hp => by
        rcases mem_plL.1 hp with ⟨_, h2⟩ | ⟨h1, _⟩
        · rw [hb]; exact h2
        · rw [hx] at h1; cases h1), emptyB_eq hx, hb]
      rfl
  · rw [if_neg hb]
    cases hf : (accF l b).2 with
    | true =>
      have hm := accF_mem2 hf
      have ha := accF_addr l b
      rw [accF_has (plL_rise h x) (mem_plL.2 (.inl ⟨hm, by rw [ha]; exact hb⟩)) ha, ← hf]
    | false =>
      rw [accF_not (fun p hp => by
        rcases mem_plL.1 hp with ⟨h1, _⟩ | ⟨_, rfl⟩
        · intro e
          rw [accF_has h h1 e] at hf; cases hf
        · exact fun e => hb e.symm)]
      exact Prod.ext (accF_no hf).symm hf.symm
def frN (b : Bool) (a : Nat) : Nat := if b = true ∧ 16 ≤ a then 1 else 0
theorem freeN_one (b : Bool) (p : Ac) : freeN (if b then [p] else []) = frN b p.addr := by
  unfold frN
  cases b with
  | false => rfl
  | true =>
    rw [if_pos rfl, freeN_cons]
    by_cases h : p.addr < 16
    · rw [if_pos h, if_neg (by omega)]; rfl
    · rw [if_neg h, if_pos ⟨rfl, by omega⟩]; rfl
theorem freeN_pl {l : List Ac} (h : RiseA l) (x : Ac) : freeN (plL l x) + frN (accF l x.addr).2 x.addr = freeN l + frN (!x.emptyB) x.addr := by
  have e : freeN l = freeN (ltL x l) + frN (accF l x.addr).2 x.addr + freeN (gtL x l) := by
    conv => lhs; rw [rise_split h x]
    rw [freeN_app, freeN_app, freeN_one, accF_addr]
  have e2 : freeN (plL l x) = freeN (ltL x l) + frN (!x.emptyB) x.addr + freeN (gtL x l) := by
    unfold plL
    rw [freeN_app, freeN_app, ← freeN_one]
    cases x.emptyB <;> rfl
  omega
theorem sum_pl {l : List Ac} (h : RiseA l) (x : Ac) : (bals (plL l x)).sum + (accF l x.addr).1.bal = (bals l).sum + x.bal := by
  have e : (bals l).sum = (bals (ltL x l)).sum + (accF l x.addr).1.bal + (bals (gtL x l)).sum := by
    conv => lhs; rw [rise_split h x]
    rw [bals_app, bals_app, List.sum_append, List.sum_append]
    cases hf : (accF l x.addr).2 with
    | true => simp [bals]
    | false => rw [accF_no hf]; simp [bals]
  have e2 : (bals (plL l x)).sum = (bals (ltL x l)).sum + x.bal + (bals (gtL x l)).sum := by
    unfold plL
    rw [bals_app, bals_app, List.sum_append, List.sum_append]
    cases hx : x.emptyB with
    | false => simp [bals]
    | true => rw [emptyB_eq hx]; simp [bals]
  omega
theorem le_sum_mem : ∀ (l : List Nat) (x : Nat), x ∈ l → x ≤ l.sum
  | y :: l, x, h => by
    rw [List.sum_cons]
    rcases List.mem_cons.1 h with rfl | h
    · omega
    · have := le_sum_mem l x h; omega
theorem Rt.bal_le {l : List Ac} (_h : Rt l) (a : Nat) : (accF l a).1.bal ≤ (bals l).sum := by
  cases hf : (accF l a).2 with
  | true => exact le_sum_mem _ _ (List.mem_map.2 ⟨_, accF_mem2 hf, rfl⟩)
  | false => rw [accF_no hf]; exact Nat.zero_le _
theorem Rt.had {l : List Ac} (h : Rt l) (a : Nat) : (accF l a).1.emptyB = !(accF l a).2 := by
  cases hf : (accF l a).2 with
  | true => exact (h.each _ (accF_mem2 hf)).2.2
  | false => rw [accF_no hf]; exact emptyB_em a
theorem rightB_em {a : Nat} (h : a ≠ 0) : (⟨a, 0, 0, [], []⟩ : Ac).rightB = true := by simp [Ac.rightB, h]
theorem Rt.right {l : List Ac} (h : Rt l) {a : Nat} (ha : a ≠ 0) : (accF l a).1.rightB = true := by
  cases hf : (accF l a).2 with
  | true => exact (h.each _ (accF_mem2 hf)).2.1
  | false => rw [accF_no hf]; exact rightB_em ha
theorem plL_ok {l : List Ac} (hl : ∀ p ∈ l, p.ok) {x : Ac} (hx : x.ok) : ∀ p ∈ plL l x, p.ok := fun p hp => by
  rcases mem_plL.1 hp with ⟨h, _⟩ | ⟨_, rfl⟩
  · exact hl p h
  · exact hx
/-- x in the place of what its address had: what comes may be. -/
theorem Rt.pl {l : List Ac} (h : Rt l) {x : Ac} (ha : x.addr ≠ 0) (hr : x.rightB = true) (hroom : x.emptyB = false → roomB l x.addr = true) (hs : (bals l).sum + x.bal < M256 + (accF l x.addr).1.bal) : Rt (plL l x) := by
  refine ⟨plL_rise h.rise x, fun p hp => ?_, ?_, ?_⟩
  · rcases mem_plL.1 hp with ⟨hp, _⟩ | ⟨he, rfl⟩
    · exact h.each p hp
    · exact ⟨by omega, hr, he⟩
  · have e := freeN_pl h.rise x
    have hf := h.free
    unfold frN at e
    by_cases hc : (!x.emptyB) = true ∧ 16 ≤ x.addr
    · rw [if_pos hc] at e
      have hro := hroom (by simpa using hc.1)
      unfold roomB at hro
      rw [show decide (x.addr < 16) = false from decide_eq_false (by omega), Bool.or_false] at hro
      cases hf2 : (accF l x.addr).2 with
      | true => rw [hf2, if_pos ⟨rfl, hc.2⟩] at e; omega
      | false =>
        rw [hf2, if_neg (by simp)] at hro
        rw [hf2, if_neg (by simp)] at e
        have := of_decide_eq_true hro
        omega
    · rw [if_neg hc] at e; omega
  · have := sum_pl h.rise x
    omega
end Go.Proofs.Yteidmoilldheeaa
