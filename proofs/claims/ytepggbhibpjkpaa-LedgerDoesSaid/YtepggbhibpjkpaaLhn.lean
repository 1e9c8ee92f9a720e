/- Package ledger: what deeds come to (plain mathematics). -/
import Derived.Test.YtepggbhibpjkpaaLhm
namespace Go.Proofs.Ytepggbhibpjkpaa
open Go.ChangeShapes Go.WideShapes Go.ChangeAt Go.RowKit Go.Shelf

theorem hasB_iff (h : Hd) : h.hasB = true ↔ (h.dep ≠ 0 ∨ h.stk ≠ 0 ∨ h.dly ≠ 0 ∨ h.fre ≠ 0) := by
  unfold Hd.hasB Hd.eqB
  simp only [Bool.not_eq_true', beq_self_eq_true, Bool.true_and, Bool.and_eq_false_iff, beq_eq_false_iff_ne, ne_eq]
theorem rowB_iff (h : Hd) : h.rowB = true ↔ (h.stk = 0 ∧ h.dep ≠ 0 ∧ h.dly = 0 ∧ h.fre = 0) ∨ (h.stk ≠ 0 ∧ 0 < h.dly ∧ h.dly ≤ 1073741824 ∧ h.fre ≤ 1100585369600) := by
  unfold Hd.rowB
  by_cases hs : h.stk = 0
  · rw [if_pos hs]
    simp only [Bool.and_eq_true, decide_eq_true_eq]
    constructor
    · rintro ⟨h1, h2, h3⟩; exact .inl ⟨hs, h1, h2, h3⟩
    · rintro (⟨_, h1, h2, h3⟩ | ⟨h0, _⟩)
      · exact ⟨h1, h2, h3⟩
      · exact absurd hs h0
  · rw [if_neg hs]
    simp only [Bool.and_eq_true, decide_eq_true_eq]
    constructor
    · rintro ⟨h1, h2, h3⟩; exact .inr ⟨hs, h1, h2, h3⟩
    · rintro (⟨h0, _⟩ | ⟨_, h1, h2, h3⟩)
      · exact absurd h0 hs
      · exact ⟨h1, h2, h3⟩
/-- What is known of the row of an address. -/
def RowF (r : Hd) : Prop := (r.dep = 0 ∧ r.stk = 0 ∧ r.dly = 0 ∧ r.fre = 0) ∨ (r.stk = 0 ∧ r.dep ≠ 0 ∧ r.dly = 0 ∧ r.fre = 0) ∨ (r.stk ≠ 0 ∧ 0 < r.dly ∧ r.dly ≤ 1073741824 ∧ r.fre ≤ 1100585369600)
theorem Rg.rowF {l : List Hd} (h : Rg l) (a : Nat) : RowF (rowG l a) := by
  cases hb : (rowG l a).hasB with
  | true =>
    have := (rowB_iff _).1 (h.row a hb)
    unfold RowF
    omega
  | false =>
    rw [hasB_no hb]
    exact .inl ⟨rfl, rfl, rfl, rfl⟩
theorem row_tot (l : List Hd) (a : Nat) : (rowG l a).dep + (rowG l a).stk ≤ totG l := by
  have e := splitG l a
  cases hh : hasG l a with
  | false => rw [rowG_not hh]; exact Nat.zero_le _
  | true =>
    rw [hh, if_pos rfl] at e
    have := congrArg totG e
    rw [totG_app, totG_app, totG_one] at this
    omega
theorem tkE_iff {l : List Hd} (hok : ∀ p ∈ l, p.ok) (h : Hd) {n : Nat} (hn : n < M256) : tkE l h n = 0 ↔ n + totG l < M256 ∧ (n = 0 ∨ h.hasB = true ∨ l.length ≠ 24) := by
  unfold tkE
  have hs : (sumW ([n] ++ flatH l)).2 = decide (M256 ≤ n + totG l) := by
    rw [sumW_eq ([n] ++ flatH l) (fun x hx => by
      rcases List.mem_append.1 hx with hx | hx
      · rw [List.mem_singleton.1 hx]; exact hn
      · exact flatH_lt hok x hx)]
    show decide (M256 ≤ ([n] ++ flatH l).sum) = _
    rw [List.sum_append, List.sum_cons, List.sum_nil]
    rfl
  rw [hs]
  by_cases h1 : M256 ≤ n + totG l
  · rw [decide_eq_true h1, if_pos rfl]
    constructor
    · intro h; cases h
    · rintro ⟨h, _⟩; omega
  · rw [decide_eq_false h1, if_neg (by simp)]
    by_cases h2 : n ≠ 0 ∧ h.hasB = false ∧ l.length = 24
    · rw [if_pos h2]
      constructor
      · intro h; cases h
      · rintro ⟨_, h3⟩
        rcases h3 with h3 | h3 | h3
        · exact absurd h3 h2.1
        · rw [h2.2.1] at h3; cases h3
        · exact absurd h2.2.2 h3
    · rw [if_neg h2]
      refine ⟨fun _ => ⟨by omega, ?_⟩, fun _ => rfl⟩
      by_cases h3 : n = 0
      · exact .inl h3
      · cases hb : h.hasB with
        | true => exact .inr (.inl rfl)
        | false => exact .inr (.inr (fun e => h2 ⟨h3, hb, e⟩))
theorem teE_eq {l : List Hd} (hr : rightG l = true) (a : Nat) : teE l a = if a = 0 then 2 else 0 := by unfold teE; rw [if_pos hr]
theorem stkB_iff (h : Hd) : h.stkB = true ↔ h.stk ≠ 0 := by unfold Hd.stkB; simp
theorem stkB_no (h : Hd) : h.stkB = false ↔ h.stk = 0 := by unfold Hd.stkB; simp
theorem lckB_iff (h : Hd) : h.lckB = true ↔ h.stk ≠ 0 ∧ h.fre = 0 := by unfold Hd.lckB; rw [Bool.and_eq_true, stkB_iff, beq_iff_eq]
theorem lckB_no (h : Hd) : h.lckB = false ↔ h.stk = 0 ∨ h.fre ≠ 0 := by unfold Hd.lckB; rw [Bool.and_eq_false_iff, stkB_no, beq_eq_false_iff_ne]
/-- What a deed comes to, of the row r, all that is held, and how many rows there are. -/
def Cn (r : Hd) (tot len : Nat) (d : Dd) (h : Hd) (wd : Nat) : Prop :=
  (kdD d = 0 ∧ (d.n + tot < M256 ∧ (d.n = 0 ∨ r.hasB = true ∨ len ≠ 24)) ∧ h = { r with dep := r.dep + d.n } ∧ wd = 0) ∨
  (kdD d = 1 ∧ d.n ≤ r.dep ∧ h = { r with dep := r.dep - d.n } ∧ wd = 0) ∨
  (kdD d = 2 ∧ (d.dly ≠ 0 ∧ d.dly ≤ 1073741824 ∧ r.dly ≤ d.dly) ∧ ¬ (r.stk = 0 ∧ d.n = 0) ∧ (d.n + tot < M256 ∧ (d.n = 0 ∨ r.hasB = true ∨ len ≠ 24)) ∧ h = { r with stk := r.stk + d.n, dly := d.dly, fre := 0 } ∧ wd = 0) ∨
  (kdD d = 3 ∧ d.now ≤ 1099511627776 ∧ (r.stk ≠ 0 ∧ r.fre = 0) ∧ h = { r with fre := d.now + r.dly } ∧ wd = 0) ∨
  (kdD d = 4 ∧ d.now ≤ 1099511627776 ∧ r.stk ≠ 0 ∧ r.fre ≠ 0 ∧ r.fre ≤ d.now ∧ h = { r with stk := 0, dly := 0, fre := 0 } ∧ wd = r.stk)
section
variable {l : List Hd} (hok : ∀ p ∈ l, p.ok) (hl : Rg l)
include hok hl
theorem depS_iff {a n : Nat} (hn : n < M256) {m : List Hd} : depS l a n = (m, 0) ↔ a ≠ 0 ∧ (n + totG l < M256 ∧ (n = 0 ∨ (rowG l a).hasB = true ∨ l.length ≠ 24)) ∧ m = plG l { rowG l a with dep := (rowG l a).dep + n } := by
  unfold depS
  rw [teE_eq ((rg_iff hok).2 hl) a]
  by_cases ha : a = 0
  · rw [if_pos ha, if_pos (by decide)]
    exact ⟨fun h => (nomatch h), fun h => absurd ha h.1⟩
  · rw [if_neg ha, if_neg (by decide)]
    by_cases ht : tkE l (rowG l a) n = 0
    · have hc := (tkE_iff hok (rowG l a) hn).1 ht
      have := row_tot l a
      rw [if_neg (by rw [ht]; simp), Nat.mod_eq_of_lt (by omega)]
      exact ⟨fun h => ⟨ha, hc, by injection h with h _; exact h.symm⟩, fun h => by rw [h.2.2]⟩
    · rw [if_pos ht]
      exact ⟨fun h => absurd (by injection h) ht, fun h => absurd ((tkE_iff hok (rowG l a) hn).2 h.2.1) ht⟩
theorem wdrS_iff {a n : Nat} {m : List Hd} : wdrS l a n = (m, 0) ↔ a ≠ 0 ∧ n ≤ (rowG l a).dep ∧ m = plG l { rowG l a with dep := (rowG l a).dep - n } := by
  unfold wdrS
  rw [teE_eq ((rg_iff hok).2 hl) a]
  by_cases ha : a = 0
  · rw [if_pos ha, if_pos (by decide)]
    exact ⟨fun h => (nomatch h), fun h => absurd ha h.1⟩
  · rw [if_neg ha, if_neg (by decide)]
    by_cases ht : (rowG l a).dep < n
    · rw [if_pos ht]
      exact ⟨fun h => (nomatch h), fun h => by omega⟩
    · rw [if_neg ht]
      exact ⟨fun h => ⟨ha, by omega, by injection h with h _; exact h.symm⟩, fun h => by rw [h.2.2]⟩
theorem bndS_iff {a n d : Nat} (hn : n < M256) {m : List Hd} : bndS l a n d = (m, 0) ↔ a ≠ 0 ∧ (d ≠ 0 ∧ d ≤ 1073741824 ∧ (rowG l a).dly ≤ d) ∧ ¬ ((rowG l a).stk = 0 ∧ n = 0) ∧ (n + totG l < M256 ∧ (n = 0 ∨ (rowG l a).hasB = true ∨ l.length ≠ 24)) ∧ m = plG l { rowG l a with stk := (rowG l a).stk + n, dly := d, fre := 0 } := by
  unfold bndS
  rw [teE_eq ((rg_iff hok).2 hl) a]
  by_cases ha : a = 0
  · rw [if_pos ha, if_pos (by decide)]
    exact ⟨fun h => (nomatch h), fun h => absurd ha h.1⟩
  · rw [if_neg ha, if_neg (by decide)]
    by_cases hd : d = 0 ∨ 1073741824 < d ∨ d < (rowG l a).dly
    · rw [if_pos hd]
      exact ⟨fun h => (nomatch h), fun h => by omega⟩
    · rw [if_neg hd]
      by_cases hs : (rowG l a).stkB = false ∧ n = 0
      · rw [if_pos hs]
        exact ⟨fun h => (nomatch h), fun h => absurd ⟨(stkB_no _).1 hs.1, hs.2⟩ h.2.2.1⟩
      · rw [if_neg hs]
        have hs2 : ¬ ((rowG l a).stk = 0 ∧ n = 0) := fun h => hs ⟨(stkB_no _).2 h.1, h.2⟩
        by_cases ht : tkE l (rowG l a) n = 0
        · have hc := (tkE_iff hok (rowG l a) hn).1 ht
          have := row_tot l a
          rw [if_neg (by rw [ht]; simp), Nat.mod_eq_of_lt (by omega)]
          exact ⟨fun h => ⟨ha, by omega, hs2, hc, by injection h with h _; exact h.symm⟩, fun h => by rw [h.2.2.2.2]⟩
        · rw [if_pos ht]
          exact ⟨fun h => absurd (by injection h) ht, fun h => absurd ((tkE_iff hok (rowG l a) hn).2 h.2.2.2.1) ht⟩
theorem taE_eq (a n : Nat) : taE l a n = 0 ↔ a ≠ 0 ∧ n ≤ 1099511627776 := by
  unfold taE
  rw [teE_eq ((rg_iff hok).2 hl) a]
  by_cases ha : a = 0
  · rw [if_pos ha, if_neg (by simp)]
    exact ⟨fun h => (nomatch h), fun h => absurd ha h.1⟩
  · rw [if_neg ha]
    by_cases hn : 1099511627776 < n
    · rw [if_pos ⟨rfl, hn⟩]
      exact ⟨fun h => (nomatch h), fun h => by omega⟩
    · rw [if_neg (fun h => hn h.2)]
      exact ⟨fun _ => ⟨ha, by omega⟩, fun _ => rfl⟩
theorem ulkS_iff {a n : Nat} {m : List Hd} : ulkS l a n = (m, 0) ↔ a ≠ 0 ∧ n ≤ 1099511627776 ∧ ((rowG l a).stk ≠ 0 ∧ (rowG l a).fre = 0) ∧ m = plG l { rowG l a with fre := n + (rowG l a).dly } := by
  unfold ulkS
  have ht := taE_eq hok hl a n
  by_cases h0 : taE l a n = 0
  · rw [if_neg (by rw [h0]; simp)]
    have h1 := ht.1 h0
    cases hk : (rowG l a).lckB with
    | false =>
      rw [if_pos rfl]
      have := (lckB_no _).1 hk
      exact ⟨fun h => (nomatch h), fun h => by omega⟩
    | true =>
      rw [if_neg (by simp)]
      exact ⟨fun h => ⟨h1.1, h1.2, (lckB_iff _).1 hk, by injection h with h _; exact h.symm⟩, fun h => by rw [h.2.2.2]⟩
  · rw [if_pos h0]
    exact ⟨fun h => absurd (by injection h) h0, fun h => absurd (ht.2 ⟨h.1, h.2.1⟩) h0⟩
theorem relS_iff {a n wd : Nat} {m : List Hd} : relS l a n = (m, wd, 0) ↔ a ≠ 0 ∧ n ≤ 1099511627776 ∧ (rowG l a).stk ≠ 0 ∧ (rowG l a).fre ≠ 0 ∧ (rowG l a).fre ≤ n ∧ m = plG l { rowG l a with stk := 0, dly := 0, fre := 0 } ∧ wd = (rowG l a).stk := by
  unfold relS
  have ht := taE_eq hok hl a n
  by_cases h0 : taE l a n = 0
  · rw [if_neg (by rw [h0]; simp)]
    have h1 := ht.1 h0
    cases hk : (rowG l a).stkB with
    | false =>
      rw [if_pos rfl]
      have := (stkB_no _).1 hk
      exact ⟨fun h => (nomatch h), fun h => absurd this h.2.2.1⟩
    | true =>
      rw [if_neg (by simp)]
      have hs := (stkB_iff _).1 hk
      by_cases hx : (rowG l a).lckB = true ∨ n < (rowG l a).fre
      · rw [if_pos hx]
        refine ⟨fun h => (nomatch h), fun h => ?_⟩
        rcases hx with hx | hx
        · exact absurd ((lckB_iff _).1 hx).2 h.2.2.2.1
        · omega
      · rw [if_neg hx]
        have hf : (rowG l a).fre ≠ 0 := fun e => hx (.inl ((lckB_iff _).2 ⟨hs, e⟩))
        have hle : (rowG l a).fre ≤ n := by
          rcases Nat.lt_or_ge n (rowG l a).fre with h | h
          · exact absurd (.inr h) hx
          · exact h
        exact ⟨fun h => ⟨h1.1, h1.2, hs, hf, hle, by injection h with h _; exact h.symm, by injection h with _ h; injection h with h _; exact h.symm⟩, fun h => by rw [h.2.2.2.2.2.1, h.2.2.2.2.2.2]⟩
  · rw [if_pos h0]
    exact ⟨fun h => absurd (by injection h with _ h; injection h) h0, fun h => absurd (ht.2 ⟨h.1, h.2.1⟩) h0⟩
theorem doS_iff {d : Dd} (hd : d.ok) {m : List Hd} {wd : Nat} : doS l d = (m, wd, 0) ↔ d.addr ≠ 0 ∧ ∃ h, Cn (rowG l d.addr) (totG l) l.length d h wd ∧ m = plG l h := by
  have pr : ∀ {r : List Hd × Int}, ((r.1, 0, r.2) : List Hd × Nat × Int) = (m, wd, 0) ↔ r = (m, 0) ∧ wd = 0 := by
    intro r
    obtain ⟨x, y⟩ := r
    constructor
    · intro h; injection h with h1 h2; injection h2 with h2 h3; exact ⟨by rw [show x = m from h1, show y = 0 from h3], h2.symm⟩
    · rintro ⟨h, rfl⟩; injection h with h1 h2; rw [h1, h2]
  unfold doS Cn
  rcases kdD_cases d with hk | hk | hk | hk | hk
  · rw [if_pos hk, pr, depS_iff hok hl hd.2.2.1]
    constructor
    · rintro ⟨⟨h1, h2, h3⟩, h4⟩; exact ⟨h1, _, .inl ⟨hk, h2, rfl, h4⟩, h3⟩
    · rintro ⟨h1, h, hc, h3⟩
      rcases hc with ⟨_, h2, rfl, h4⟩ | ⟨k, _⟩ | ⟨k, _⟩ | ⟨k, _⟩ | ⟨k, _⟩
      · exact ⟨⟨h1, h2, h3⟩, h4⟩
      all_goals (rw [hk] at k; exact absurd k (by decide))
  · rw [if_neg (by rw [hk]; decide), if_pos hk, pr, wdrS_iff hok hl]
    constructor
    · rintro ⟨⟨h1, h2, h3⟩, h4⟩; exact ⟨h1, _, .inr (.inl ⟨hk, h2, rfl, h4⟩), h3⟩
    · rintro ⟨h1, h, hc, h3⟩
      rcases hc with ⟨k, _⟩ | ⟨_, h2, rfl, h4⟩ | ⟨k, _⟩ | ⟨k, _⟩ | ⟨k, _⟩
      · rw [hk] at k; exact absurd k (by decide)
      · exact ⟨⟨h1, h2, h3⟩, h4⟩
      all_goals (rw [hk] at k; exact absurd k (by decide))
  · rw [if_neg (by rw [hk]; decide), if_neg (by rw [hk]; decide), if_pos hk, pr, bndS_iff hok hl hd.2.2.1]
    constructor
    · rintro ⟨⟨h1, h2, h2', h2'', h3⟩, h4⟩; exact ⟨h1, _, .inr (.inr (.inl ⟨hk, h2, h2', h2'', rfl, h4⟩)), h3⟩
    · rintro ⟨h1, h, hc, h3⟩
      rcases hc with ⟨k, _⟩ | ⟨k, _⟩ | ⟨_, h2, h2', h2'', rfl, h4⟩ | ⟨k, _⟩ | ⟨k, _⟩
      · rw [hk] at k; exact absurd k (by decide)
      · rw [hk] at k; exact absurd k (by decide)
      · exact ⟨⟨h1, h2, h2', h2'', h3⟩, h4⟩
      all_goals (rw [hk] at k; exact absurd k (by decide))
  · rw [if_neg (by rw [hk]; decide), if_neg (by rw [hk]; decide), if_neg (by rw [hk]; decide), if_pos hk, pr, ulkS_iff hok hl]
    constructor
    · rintro ⟨⟨h1, h2, h2', h3⟩, h4⟩; exact ⟨h1, _, .inr (.inr (.inr (.inl ⟨hk, h2, h2', rfl, h4⟩))), h3⟩
    · rintro ⟨h1, h, hc, h3⟩
      rcases hc with ⟨k, _⟩ | ⟨k, _⟩ | ⟨k, _⟩ | ⟨_, h2, h2', rfl, h4⟩ | ⟨k, _⟩
      · rw [hk] at k; exact absurd k (by decide)
      · rw [hk] at k; exact absurd k (by decide)
      · rw [hk] at k; exact absurd k (by decide)
      · exact ⟨⟨h1, h2, h2', h3⟩, h4⟩
      · rw [hk] at k; exact absurd k (by decide)
  · rw [if_neg (by rw [hk]; decide), if_neg (by rw [hk]; decide), if_neg (by rw [hk]; decide), if_neg (by rw [hk]; decide), relS_iff hok hl]
    constructor
    · rintro ⟨h1, h2, h3, h4, h5, h6, h7⟩; exact ⟨h1, _, .inr (.inr (.inr (.inr ⟨hk, h2, h3, h4, h5, rfl, h7⟩))), h6⟩
    · rintro ⟨h1, h, hc, h6⟩
      rcases hc with ⟨k, _⟩ | ⟨k, _⟩ | ⟨k, _⟩ | ⟨k, _⟩ | ⟨_, h2, h3, h4, h5, rfl, h7⟩
      · rw [hk] at k; exact absurd k (by decide)
      · rw [hk] at k; exact absurd k (by decide)
      · rw [hk] at k; exact absurd k (by decide)
      · rw [hk] at k; exact absurd k (by decide)
      · exact ⟨h1, h2, h3, h4, h5, h6, h7⟩
end
theorem doS_err {l : List Hd} {d : Dd} {m : List Hd} {wd : Nat} {er : Int} (h : doS l d = (m, wd, er)) (he : er ≠ 0) : m = [] ∧ wd = 0 := by
  have p2 : ∀ {c : Prop} [Decidable c] {k : Int} {r : List Hd × Int}, ((if c then (([], k) : List Hd × Int) else r).2 ≠ 0 → (r.2 ≠ 0 → r.1 = []) → (if c then (([], k) : List Hd × Int) else r).1 = []) := by
    intro c _ k r h1 h2
    by_cases hc : c
    · rw [if_pos hc]
    · rw [if_neg hc] at h1 ⊢; exact h2 h1
  have pr : ∀ {r : List Hd × Int}, ((r.1, 0, r.2) : List Hd × Nat × Int) = (m, wd, er) → (r.2 ≠ 0 → r.1 = []) → m = [] ∧ wd = 0 := by
    intro r h1 h2
    injection h1 with h3 h4
    injection h4 with h4 h5
    exact ⟨by rw [← h3]; exact h2 (by rw [h5]; exact he), h4.symm⟩
  have q3 : ∀ {c : Prop} [Decidable c] {k : Int} {r : List Hd × Nat × Int}, (if c then (([], 0, k) : List Hd × Nat × Int) else r) = (m, wd, er) → (r = (m, wd, er) → m = [] ∧ wd = 0) → m = [] ∧ wd = 0 := by
    intro c _ k r h1 h2
    by_cases hc : c
    · rw [if_pos hc] at h1; injection h1 with h3 h4; injection h4 with h4 h5; exact ⟨h3.symm, h4.symm⟩
    · rw [if_neg hc] at h1; exact h2 h1
  unfold doS at h
  rcases kdD_cases d with hk | hk | hk | hk | hk
  · rw [if_pos hk] at h
    exact pr h (fun h => by unfold depS at h ⊢; exact p2 h fun h => p2 h fun h => absurd rfl h)
  · rw [if_neg (by rw [hk]; decide), if_pos hk] at h
    exact pr h (fun h => by unfold wdrS at h ⊢; exact p2 h fun h => p2 h fun h => absurd rfl h)
  · rw [if_neg (by rw [hk]; decide), if_neg (by rw [hk]; decide), if_pos hk] at h
    exact pr h (fun h => by unfold bndS at h ⊢; exact p2 h fun h => p2 h fun h => p2 h fun h => p2 h fun h => absurd rfl h)
  · rw [if_neg (by rw [hk]; decide), if_neg (by rw [hk]; decide), if_neg (by rw [hk]; decide), if_pos hk] at h
    exact pr h (fun h => by unfold ulkS at h ⊢; exact p2 h fun h => p2 h fun h => absurd rfl h)
  · rw [if_neg (by rw [hk]; decide), if_neg (by rw [hk]; decide), if_neg (by rw [hk]; decide), if_neg (by rw [hk]; decide)] at h
    unfold relS at h
    exact q3 h fun h => q3 h fun h => q3 h fun h => by injection h with _ h; injection h with _ h; exact absurd h.symm he
/-- What is behind a deed that is done. -/
theorem Cn.rg {l : List Hd} (hok : ∀ p ∈ l, p.ok) (hl : Rg l) {d : Dd} (hd : d.ok) (ha : d.addr ≠ 0) {h : Hd} {wd : Nat} (c : Cn (rowG l d.addr) (totG l) l.length d h wd) :
    h.addr = d.addr ∧ h.ok ∧ Rg (plG l h) ∧ wd < M256 ∧ totG (plG l h) + (if kdD d = 1 then d.n else 0) + wd = totG l + (if kdD d = 0 ∨ kdD d = 2 then d.n else 0) := by
  have hra := rowG_addr l d.addr
  have hro := rowG_ok hok hd.2.1
  have hrf := hl.rowF d.addr
  have hrt := row_tot l d.addr
  have hft := hl.fits
  have hfw := hl.few
  have hha := hl.has d.addr
  have hbi := hasB_iff (rowG l d.addr)
  obtain ⟨_, _, hdn, hdd, hdw⟩ := hd
  obtain ⟨o1, o2, o3, o4, o5⟩ := hro
  unfold Cn at c
  unfold RowF at hrf
  have hM : M256 = 115792089237316195423570985008687907853269984665640564039457584007913129639936 := rfl
  -- what is the same for all: the address, the numbers
  have fin : ∀ {h : Hd}, h.addr = d.addr → h.dep < M256 → h.stk < M256 → h.dly < 18446744073709551616 → h.fre < 18446744073709551616 → (h.hasB = true → h.rowB = true) →
      ((rowG l d.addr).hasB = true ∨ h.hasB = false ∨ l.length ≠ 24) → totG l + (h.dep + h.stk) < M256 + ((rowG l d.addr).dep + (rowG l d.addr).stk) → h.ok ∧ Rg (plG l h) := by
    intro h e1 e2 e3 e4 e5 e6 e7 e8
    have hlen := plG_length hl.rise h
    have htot := totG_plG hl.rise h
    rw [e1] at hlen htot
    rw [hha] at hlen
    refine ⟨⟨by rw [e1, ← hra]; exact o1, e2, e3, e4, e5⟩, hl.pl (by rw [e1]; exact ha) e6 ?_ (by omega)⟩
    rcases e7 with e7 | e7 | e7
    · rw [e7] at hlen
      simp only [if_true] at hlen
      split at hlen <;> omega
    · rw [e7] at hlen
      simp only [Bool.false_eq_true, if_false] at hlen
      omega
    · split at hlen <;> split at hlen <;> omega
  rcases c with ⟨k, ⟨c1, c2⟩, rfl, rfl⟩ | ⟨k, c1, rfl, rfl⟩ | ⟨k, c0, c1, ⟨c2, c3⟩, rfl, rfl⟩ | ⟨k, c1, c2, rfl, rfl⟩ | ⟨k, c1, c2, c3, c4, rfl, rfl⟩
  · have hb : ({ rowG l d.addr with dep := (rowG l d.addr).dep + d.n } : Hd).hasB = true → ({ rowG l d.addr with dep := (rowG l d.addr).dep + d.n } : Hd).rowB = true := by
      rw [hasB_iff, rowB_iff]; dsimp only; omega
    have hz := hasB_iff { rowG l d.addr with dep := (rowG l d.addr).dep + d.n }
    have h7 : (rowG l d.addr).hasB = true ∨ ({ rowG l d.addr with dep := (rowG l d.addr).dep + d.n } : Hd).hasB = false ∨ l.length ≠ 24 := by
      rcases c2 with c2 | c2 | c2
      · by_cases hq : (rowG l d.addr).hasB = true
        · exact .inl hq
        · refine .inr (.inl ?_)
          rw [c2]
          simpa using hq
      · exact .inl c2
      · exact .inr (.inr c2)
    obtain ⟨f1, f2⟩ := fin (h := { rowG l d.addr with dep := (rowG l d.addr).dep + d.n }) hra (by dsimp only; omega) o3 o4 o5 hb h7 (by dsimp only; omega)
    have ht := totG_plG hl.rise { rowG l d.addr with dep := (rowG l d.addr).dep + d.n }
    rw [show ({ rowG l d.addr with dep := (rowG l d.addr).dep + d.n } : Hd).addr = d.addr from hra] at ht
    dsimp only at ht
    refine ⟨hra, f1, f2, M256_pos, ?_⟩
    rw [if_neg (by rw [k]; decide), if_pos (.inl k)]
    omega
  · have hb : ({ rowG l d.addr with dep := (rowG l d.addr).dep - d.n } : Hd).hasB = true → ({ rowG l d.addr with dep := (rowG l d.addr).dep - d.n } : Hd).rowB = true := by
      rw [hasB_iff, rowB_iff]; dsimp only; omega
    have h7 : (rowG l d.addr).hasB = true ∨ ({ rowG l d.addr with dep := (rowG l d.addr).dep - d.n } : Hd).hasB = false ∨ l.length ≠ 24 := by
      by_cases hq : (rowG l d.addr).hasB = true
      · exact .inl hq
      · refine .inr (.inl ?_)
        have hz := hasB_no (show (rowG l d.addr).hasB = false by simpa using hq)
        rw [hz]
        have := hasB_z (rowG l d.addr).addr
        simpa using this
    obtain ⟨f1, f2⟩ := fin (h := { rowG l d.addr with dep := (rowG l d.addr).dep - d.n }) hra (by dsimp only; omega) o3 o4 o5 hb h7 (by dsimp only; omega)
    have ht := totG_plG hl.rise { rowG l d.addr with dep := (rowG l d.addr).dep - d.n }
    rw [show ({ rowG l d.addr with dep := (rowG l d.addr).dep - d.n } : Hd).addr = d.addr from hra] at ht
    dsimp only at ht
    refine ⟨hra, f1, f2, M256_pos, ?_⟩
    rw [if_pos k, if_neg (by rw [k]; decide)]
    omega
  · have hb : ({ rowG l d.addr with stk := (rowG l d.addr).stk + d.n, dly := d.dly, fre := 0 } : Hd).hasB = true → ({ rowG l d.addr with stk := (rowG l d.addr).stk + d.n, dly := d.dly, fre := 0 } : Hd).rowB = true := by
      rw [hasB_iff, rowB_iff]; dsimp only; omega
    have h7 : (rowG l d.addr).hasB = true ∨ ({ rowG l d.addr with stk := (rowG l d.addr).stk + d.n, dly := d.dly, fre := 0 } : Hd).hasB = false ∨ l.length ≠ 24 := by
      rcases c3 with c3 | c3 | c3
      · exact .inl (hbi.2 (.inr (.inl (by omega))))
      · exact .inl c3
      · exact .inr (.inr c3)
    obtain ⟨f1, f2⟩ := fin (h := { rowG l d.addr with stk := (rowG l d.addr).stk + d.n, dly := d.dly, fre := 0 }) hra o2 (by dsimp only; omega) (by dsimp only; omega) (by dsimp only; omega) hb h7 (by dsimp only; omega)
    have ht := totG_plG hl.rise { rowG l d.addr with stk := (rowG l d.addr).stk + d.n, dly := d.dly, fre := 0 }
    rw [show ({ rowG l d.addr with stk := (rowG l d.addr).stk + d.n, dly := d.dly, fre := 0 } : Hd).addr = d.addr from hra] at ht
    dsimp only at ht
    refine ⟨hra, f1, f2, M256_pos, ?_⟩
    rw [if_neg (by rw [k]; decide), if_pos (.inr k)]
    omega
  · have hb : ({ rowG l d.addr with fre := d.now + (rowG l d.addr).dly } : Hd).hasB = true → ({ rowG l d.addr with fre := d.now + (rowG l d.addr).dly } : Hd).rowB = true := by
      rw [hasB_iff, rowB_iff]; dsimp only; omega
    obtain ⟨f1, f2⟩ := fin (h := { rowG l d.addr with fre := d.now + (rowG l d.addr).dly }) hra o2 o3 o4 (by dsimp only; omega) hb (.inl (hbi.2 (.inr (.inl c2.1)))) (by dsimp only; omega)
    have ht := totG_plG hl.rise { rowG l d.addr with fre := d.now + (rowG l d.addr).dly }
    rw [show ({ rowG l d.addr with fre := d.now + (rowG l d.addr).dly } : Hd).addr = d.addr from hra] at ht
    dsimp only at ht
    refine ⟨hra, f1, f2, M256_pos, ?_⟩
    rw [if_neg (by rw [k]; decide), if_neg (by rw [k]; decide)]
    omega
  · have hb : ({ rowG l d.addr with stk := 0, dly := 0, fre := 0 } : Hd).hasB = true → ({ rowG l d.addr with stk := 0, dly := 0, fre := 0 } : Hd).rowB = true := by
      rw [hasB_iff, rowB_iff]; dsimp only; omega
    obtain ⟨f1, f2⟩ := fin (h := { rowG l d.addr with stk := 0, dly := 0, fre := 0 }) hra o2 M256_pos (Nat.zero_lt_succ _) (Nat.zero_lt_succ _) hb (.inl (hbi.2 (.inr (.inl c2)))) (by dsimp only; omega)
    have ht := totG_plG hl.rise { rowG l d.addr with stk := 0, dly := 0, fre := 0 }
    rw [show ({ rowG l d.addr with stk := 0, dly := 0, fre := 0 } : Hd).addr = d.addr from hra] at ht
    dsimp only at ht
    refine ⟨hra, f1, f2, o3, ?_⟩
    rw [if_neg (by rw [k]; decide), if_neg (by rw [k]; decide)]
    omega
end Go.Proofs.Ytepggbhibpjkpaa
