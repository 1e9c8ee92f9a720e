/- Layer 7: the document's deeds are the program's, of ledgers that may be. -/
import Derived.Test.YtepggbhibpjkpaaLrg
import Derived.Test.YtepggbhibpjkpaaLho
namespace Go.Proofs.Ytepggbhibpjkpaa
open Go.ChangeShapes Go.WideShapes Go.ChangeAt Go.RowKit Go.Shelf

section
variable {l : List Hd} (hok : ∀ p ∈ l, p.ok) (hl : Rg l)
theorem plR_plG {h : Hd} (hz : h.stk = 0 → h.dly = 0 ∧ h.fre = 0) : plR l h = plG l h := by
  unfold plR plG
  have hb : h.hasB = !emB h := by
    unfold emB
    by_cases hs : h.stk = 0
    · by_cases hd : h.dep = 0
      · have h3 := hz hs
        have : h.hasB = false := by
          cases hx : h.hasB with
          | false => rfl
          | true => rcases (hasB_iff h).1 hx with e | e | e | e <;> omega
        rw [this, hs, hd]
        rfl
      · rw [(hasB_iff h).2 (.inl hd), decide_eq_false hd]
        rfl
    · rw [(hasB_iff h).2 (.inr (.inl hs)), decide_eq_false hs, Bool.and_false]
      rfl
  rw [hb]
  cases emB h <;> rfl
include hok
theorem putR_eq {h : Hd} (hh : h.ok) (hz : h.stk = 0 → h.dly = 0 ∧ h.fre = 0) : putR l h = if M256 ≤ totG (plG l h) then ([], 171) else if 24 < (plG l h).length then ([], 6) else (plG l h, 0) := by
  unfold putR
  rw [plR_plG hz, sumW_eq (flatH (plG l h)) (flatH_lt (plG_ok hok hh))]
  show (if decide (M256 ≤ totG (plG l h)) = true then _ else _) = _
  by_cases hm : M256 ≤ totG (plG l h)
  · rw [decide_eq_true hm, if_pos rfl, if_pos hm]
  · rw [decide_eq_false hm, if_neg (by decide), if_neg hm]
theorem tkE_val (h : Hd) {n : Nat} (hn : n < M256) : tkE l h n = if M256 ≤ n + totG l then 171 else if n ≠ 0 ∧ h.hasB = false ∧ l.length = 24 then 6 else 0 := by
  unfold tkE
  have hs : (sumW ([n] ++ flatH l)).2 = decide (M256 ≤ n + totG l) := by
    rw [sumW_eq ([n] ++ flatH l) (fun x hx => by
      rcases List.mem_append.1 hx with hx | hx
      · rw [List.mem_singleton.1 hx]; exact hn
      · exact flatH_lt hok x hx)]
    show decide (M256 ≤ ([n] ++ flatH l).sum) = _
    rw [List.sum_append, List.sum_cons, List.sum_nil]
    rfl
  rw [hs]
  by_cases hm : M256 ≤ n + totG l
  · rw [decide_eq_true hm, if_pos rfl, if_pos hm]
  · rw [decide_eq_false hm, if_neg (by decide), if_neg hm]
include hl
/-- A row that grows by n. -/
theorem put_more {r : Hd} {a n : Nat} {h : Hd} (hr : rowG l a = r) (ha : h.addr = a) (hh : h.ok) (hz : h.stk = 0 → h.dly = 0 ∧ h.fre = 0) (hsum : h.dep + h.stk = r.dep + r.stk + n) (hb : h.hasB = true ↔ (n ≠ 0 ∨ r.hasB = true)) (hn : n < M256) : putR l h = if tkE l r n ≠ 0 then ([], tkE l r n) else (plG l h, 0) := by
  rw [putR_eq hok hh hz, tkE_val hok r hn]
  have ht := totG_plG hl.rise h
  have hlen := plG_length hl.rise h
  rw [ha, hr] at ht
  rw [ha, hl.has a, hr] at hlen
  have h24 := hl.few
  by_cases hm : M256 ≤ n + totG l
  · rw [if_pos (show M256 ≤ totG (plG l h) by omega), if_pos hm, if_pos (by decide)]
  · rw [if_neg (show ¬ M256 ≤ totG (plG l h) by omega), if_neg hm]
    by_cases hc : n ≠ 0 ∧ r.hasB = false ∧ l.length = 24
    · have h1 := hb.2 (.inl hc.1)
      simp only [h1, hc.2.1] at hlen
      have hx : 24 < (plG l h).length := by
        have := hc.2.2
        simp at hlen
        omega
      rw [if_pos hc, if_pos hx]
      rfl
    · have hx : ¬ 24 < (plG l h).length := by
        cases hrb : r.hasB with
        | true =>
          rw [hrb] at hlen
          cases hhb : h.hasB <;> rw [hhb] at hlen <;> simp at hlen <;> omega
        | false =>
          rw [hrb] at hlen
          cases hhb : h.hasB with
          | false => rw [hhb] at hlen; simp at hlen; omega
          | true =>
            rw [hhb] at hlen
            have hn0 : n ≠ 0 := by
              rcases hb.1 hhb with e | e
              · exact e
              · rw [hrb] at e; cases e
            have : l.length ≠ 24 := fun e => hc ⟨hn0, hrb, e⟩
            simp at hlen
            omega
      rw [if_neg hc, if_neg hx]
      rfl
/-- A row that does not grow. -/
theorem put_less {r : Hd} {a : Nat} {h : Hd} (hr : rowG l a = r) (ha : h.addr = a) (hh : h.ok) (hz : h.stk = 0 → h.dly = 0 ∧ h.fre = 0) (hsum : h.dep + h.stk ≤ r.dep + r.stk) (hb : h.hasB = true → r.hasB = true) : putR l h = (plG l h, 0) := by
  rw [putR_eq hok hh hz]
  have ht := totG_plG hl.rise h
  have hlen := plG_length hl.rise h
  rw [ha, hr] at ht
  rw [ha, hl.has a, hr] at hlen
  have h24 := hl.few
  have hf := hl.fits
  have hx : ¬ 24 < (plG l h).length := by
    cases hhb : h.hasB with
    | true =>
      rw [hhb, hb hhb] at hlen
      simp at hlen
      omega
    | false =>
      rw [hhb] at hlen
      simp at hlen
      omega
  rw [if_neg (show ¬ M256 ≤ totG (plG l h) by omega), if_neg hx]
end
end Go.Proofs.Ytepggbhibpjkpaa
