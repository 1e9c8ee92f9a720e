/- Layer 7: the document's five deeds are the program's, of ledgers that may be. -/
import Derived.Test.YtepggbhibpjkpaaLrh
namespace Go.Proofs.Ytepggbhibpjkpaa
open Go.ChangeShapes Go.WideShapes Go.ChangeAt Go.RowKit Go.Shelf

theorem addN_fits {a b : Nat} (h : a + b < M256) : addN a b = a + b := Nat.mod_eq_of_lt h
theorem subN_le {a b : Nat} (ha : a < M256) (h : b ≤ a) : subN a b = a - b := by
  unfold subN
  rw [show a + M256 - b = a - b + M256 by omega, Nat.add_mod_right, Nat.mod_eq_of_lt (by omega)]
section
variable {l : List Hd} (hok : ∀ p ∈ l, p.ok) (hl : Rg l) {a : Nat} (ha : a ≠ 0) (hab : a < 18446744073709551616)
include hok hl ha hab
theorem dep_eq {n : Nat} (hn : n < M256) : rdepS l (rowG l a) n = depS l a n := by
  have hro := rowG_ok hok hab
  have hrf := hl.rowF a
  have hrt := row_tot l a
  have hra := rowG_addr l a
  unfold rdepS depS
  rw [teE_eq ((rg_iff hok).2 hl) a, if_neg ha, if_neg (show ¬ ((0 : Int) ≠ 0) by decide)]
  generalize hr : rowG l a = r at *
  by_cases ho : M256 ≤ r.dep + n
  · rw [show ovr r.dep n = true from decide_eq_true ho, if_pos rfl, tkE_val hok r hn, if_pos (show M256 ≤ n + totG l by omega), if_pos (by decide)]
  · rw [show ovr r.dep n = false from decide_eq_false ho, if_neg (by decide)]
    have he : addN r.dep n = r.dep + n := addN_fits (by omega)
    have he2 : (r.dep + n) % M256 = r.dep + n := Nat.mod_eq_of_lt (by omega)
    rw [he, he2]
    refine put_more hok hl hr hra ⟨hro.1, show r.dep + n < M256 by omega, hro.2.2⟩ ?_ (show r.dep + n + r.stk = _ by omega) ?_ hn
    · intro hs
      have hs : r.stk = 0 := hs
      unfold RowF at hrf
      exact ⟨show r.dly = 0 by omega, show r.fre = 0 by omega⟩
    · rw [hasB_iff, hasB_iff]
      show (r.dep + n ≠ 0 ∨ r.stk ≠ 0 ∨ r.dly ≠ 0 ∨ r.fre ≠ 0) ↔ _
      omega
theorem wdr_eq {n : Nat} : rwdrS l (rowG l a) n = wdrS l a n := by
  have hro := rowG_ok hok hab
  have hrf := hl.rowF a
  have hra := rowG_addr l a
  unfold rwdrS wdrS
  rw [teE_eq ((rg_iff hok).2 hl) a, if_neg ha, if_neg (show ¬ ((0 : Int) ≠ 0) by decide)]
  generalize hr : rowG l a = r at *
  by_cases hlt : r.dep < n
  · rw [if_pos hlt, if_pos hlt]
  · rw [if_neg hlt, if_neg hlt, subN_le hro.2.1 (by omega)]
    refine put_less hok hl hr hra ⟨hro.1, show r.dep - n < M256 by have := hro.2.1; omega, hro.2.2⟩ ?_ (show r.dep - n + r.stk ≤ _ by omega) ?_
    · intro hs
      have hs : r.stk = 0 := hs
      unfold RowF at hrf
      exact ⟨show r.dly = 0 by omega, show r.fre = 0 by omega⟩
    · rw [hasB_iff, hasB_iff]
      show (r.dep - n ≠ 0 ∨ r.stk ≠ 0 ∨ r.dly ≠ 0 ∨ r.fre ≠ 0) → _
      omega
theorem bnd_eq {n d : Nat} (hn : n < M256) (hd : d < 18446744073709551616) : rbndS l (rowG l a) n d = bndS l a n d := by
  have hro := rowG_ok hok hab
  have hrt := row_tot l a
  have hra := rowG_addr l a
  unfold rbndS bndS
  rw [teE_eq ((rg_iff hok).2 hl) a, if_neg ha, if_neg (show ¬ ((0 : Int) ≠ 0) by decide)]
  generalize hr : rowG l a = r at *
  by_cases h1 : d < 1 ∨ 1073741824 < d ∨ d < r.dly
  · rw [if_pos h1, if_pos (by omega)]
  · rw [if_neg h1, if_neg (show ¬ (d = 0 ∨ 1073741824 < d ∨ d < r.dly) by omega)]
    by_cases h2 : r.stk = 0 ∧ n = 0
    · rw [if_pos h2, if_pos ⟨(stkB_no r).2 h2.1, h2.2⟩]
    · rw [if_neg h2, if_neg (show ¬ (r.stkB = false ∧ n = 0) from fun e => h2 ⟨(stkB_no r).1 e.1, e.2⟩)]
      by_cases ho : M256 ≤ r.stk + n
      · rw [show ovr r.stk n = true from decide_eq_true ho, if_pos rfl, tkE_val hok r hn, if_pos (show M256 ≤ n + totG l by omega), if_pos (by decide)]
      · rw [show ovr r.stk n = false from decide_eq_false ho, if_neg (by decide)]
        have he : addN r.stk n = r.stk + n := addN_fits (by omega)
        have he2 : (r.stk + n) % M256 = r.stk + n := Nat.mod_eq_of_lt (by omega)
        rw [he, he2]
        refine put_more hok hl hr hra ⟨hro.1, hro.2.1, show r.stk + n < M256 by omega, hd, show (0 : Nat) < 18446744073709551616 by decide⟩ ?_ (show r.dep + (r.stk + n) = _ by omega) ?_ hn
        · intro hs
          have hs : r.stk + n = 0 := hs
          omega
        · rw [hasB_iff, hasB_iff]
          show (r.dep ≠ 0 ∨ r.stk + n ≠ 0 ∨ d ≠ 0 ∨ (0 : Nat) ≠ 0) ↔ _
          omega
theorem ulk_eq {n : Nat} : rulkS l (rowG l a) n = ulkS l a n := by
  have hro := rowG_ok hok hab
  have hrf := hl.rowF a
  have hra := rowG_addr l a
  have ht1 : 1099511627776 < n → taE l a n = 2 := fun h1 => by unfold taE; rw [teE_eq ((rg_iff hok).2 hl) a, if_neg ha, if_pos ⟨rfl, h1⟩]
  have ht0 : ¬ 1099511627776 < n → taE l a n = 0 := fun h1 => (taE_eq hok hl a n).2 ⟨ha, by omega⟩
  unfold rulkS ulkS
  generalize hr : rowG l a = r at *
  by_cases h1 : 1099511627776 < n
  · rw [if_pos h1, ht1 h1, if_pos (by decide)]
  · rw [if_neg h1, ht0 h1, if_neg (show ¬ ((0 : Int) ≠ 0) by decide)]
    by_cases h2 : r.stk = 0 ∨ 0 < r.fre
    · rw [if_pos h2, if_pos ((lckB_no r).2 (by omega))]
    · rw [if_neg h2, if_neg (show ¬ (r.lckB = false) from fun e => h2 (by have := (lckB_no r).1 e; omega))]
      unfold RowF at hrf
      refine put_less hok hl hr hra ⟨hro.1, hro.2.1, hro.2.2.1, hro.2.2.2.1, show n + r.dly < 18446744073709551616 by omega⟩ ?_ (Nat.le_refl _) ?_
      · intro hs
        have hs : r.stk = 0 := hs
        omega
      · rw [hasB_iff, hasB_iff]
        show (r.dep ≠ 0 ∨ r.stk ≠ 0 ∨ r.dly ≠ 0 ∨ n + r.dly ≠ 0) → _
        omega
theorem rel_eq {n : Nat} : rrelS l (rowG l a) a n = relS l a n := by
  have hro := rowG_ok hok hab
  have hra := rowG_addr l a
  have ht1 : 1099511627776 < n → taE l a n = 2 := fun h1 => by unfold taE; rw [teE_eq ((rg_iff hok).2 hl) a, if_neg ha, if_pos ⟨rfl, h1⟩]
  have ht0 : ¬ 1099511627776 < n → taE l a n = 0 := fun h1 => (taE_eq hok hl a n).2 ⟨ha, by omega⟩
  unfold rrelS relS
  generalize hr : rowG l a = r at *
  by_cases h1 : 1099511627776 < n
  · rw [if_pos h1, ht1 h1, if_pos (by decide)]
  · rw [if_neg h1, ht0 h1, if_neg (show ¬ ((0 : Int) ≠ 0) by decide)]
    by_cases h2 : r.stk = 0
    · rw [if_pos h2, if_pos ((stkB_no r).2 h2)]
    · rw [if_neg h2, if_neg (show ¬ (r.stkB = false) from fun e => h2 ((stkB_no r).1 e))]
      by_cases h3 : r.fre = 0 ∨ n < r.fre
      · rw [if_pos h3, if_pos (h3.elim (fun e => .inl ((lckB_iff r).2 ⟨h2, e⟩)) .inr)]
      · rw [if_neg h3, if_neg (show ¬ (r.lckB = true ∨ n < r.fre) from fun e => h3 (e.elim (fun e => .inl ((lckB_iff r).1 e).2) .inr))]
        have e0 : (⟨a, r.dep, 0, 0, 0⟩ : Hd) = { r with stk := 0, dly := 0, fre := 0 } := by rw [← hra]
        rw [e0]
        rw [put_less hok hl hr (h := { r with stk := 0, dly := 0, fre := 0 }) hra ⟨hro.1, hro.2.1, M256_pos, show (0 : Nat) < 18446744073709551616 by decide, show (0 : Nat) < 18446744073709551616 by decide⟩ (fun _ => ⟨rfl, rfl⟩) (show r.dep + 0 ≤ _ by omega) (by
          rw [hasB_iff, hasB_iff]
          show (r.dep ≠ 0 ∨ (0 : Nat) ≠ 0 ∨ (0 : Nat) ≠ 0 ∨ (0 : Nat) ≠ 0) → _
          omega)]
end
end Go.Proofs.Ytepggbhibpjkpaa
