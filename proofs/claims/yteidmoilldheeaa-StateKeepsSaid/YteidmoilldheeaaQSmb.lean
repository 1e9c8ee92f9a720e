/- What comes of states by what is done (plain mathematics). -/
import Derived.Test.YteidmoilldheeaaQSma
namespace Go.Proofs.Yteidmoilldheeaa
open Go.ChangeShapes Go.WideShapes Go.ChangeAt Go.RowKit Go.Shelf

/-- An account with another balance. -/
def setB (p : Ac) (n : Nat) : Ac := ⟨p.addr, n, p.nonce, p.code, p.store⟩
@[simp] theorem setB_bal (p : Ac) (n : Nat) : (setB p n).bal = n := rfl
theorem setB_set (p : Ac) (m n : Nat) : setB (setB p m) n = setB p n := rfl
theorem setB_self (p : Ac) : setB p p.bal = p := rfl
def OkL (l : List Ac) : Prop := ∀ p ∈ l, p.ok
theorem OkL.acc {l : List Ac} (h : OkL l) {a : Nat} (ha : a < 18446744073709551616) : (accF l a).1.ok := by
  cases hf : (accF l a).2 with
  | true => exact h _ (accF_mem2 hf)
  | false => rw [accF_no hf]; exact ⟨ha, show 0 < M256 by decide, show 0 < 18446744073709551616 by decide⟩
theorem putS_eq {l : List Ac} (hl : OkL l) {a : Nat} {x : Ac} (hx : x.ok) : putS l a x = if x.emptyB = false ∧ (24 < x.store.length ∨ roomB l a = false) then ([], 6) else if M256 ≤ (bals (plL l x)).sum then ([], 2) else (plL l x, 0) := by
  unfold putS
  rw [sumW_eq (bals (plL l x)) (fun y hy => by obtain ⟨p, hp, rfl⟩ := List.mem_map.1 hy; exact (plL_ok hl hx p hp).2.1)]
  simp only [decide_eq_true_eq]
theorem room_had {l : List Ac} {a : Nat} (h : (accF l a).2 = true) (ha : a ≠ 0) : roomB l a = true := by simp [roomB, h, ha]
theorem store24 {p : Ac} (h : p.rightB = true) : p.store.length ≤ 24 := by
  simp only [Ac.rightB, Bool.and_eq_true, decide_eq_true_eq] at h
  exact h.2.2.1
theorem emptyB_bal {p : Ac} {n : Nat} (h : (setB p n).emptyB = false) : p.emptyB = false ∨ n ≠ 0 := by
  cases hp : p.emptyB with
  | false => exact .inl rfl
  | true =>
    refine .inr (fun hn => ?_)
    rw [emptyB_eq hp, hn] at h
    rw [show setB (⟨p.addr, 0, 0, [], []⟩ : Ac) 0 = ⟨p.addr, 0, 0, [], []⟩ from rfl, emptyB_em] at h
    cases h
/-- What an address gains or loses: put never fails. -/
theorem putS_bal {l : List Ac} (h : Rt l) (hl : OkL l) {a m : Nat} (ha : a ≠ 0) (ha64 : a < 18446744073709551616) (hm : m < M256)
    (hr : (accF l a).2 = false → m ≠ 0 → roomB l a = true) (hs : (bals l).sum + m < M256 + (accF l a).1.bal) :
    putS l a (setB (accF l a).1 (m)) = (plL l (setB (accF l a).1 (m)), 0) ∧ Rt (plL l (setB (accF l a).1 (m))) ∧ OkL (plL l (setB (accF l a).1 (m))) := by
  have hA : (setB (accF l a).1 (m)).addr = a := accF_addr l a
  have hok : (setB (accF l a).1 (m)).ok := ⟨(hl.acc ha64).1, hm, (hl.acc ha64).2.2⟩
  have hR : (setB (accF l a).1 (m)).rightB = true := h.right ha
  have hroom : (setB (accF l a).1 (m)).emptyB = false → roomB l a = true := fun he => by
    cases hf : (accF l a).2 with
    | true => exact room_had hf ha
    | false =>
      refine hr hf ?_
      rcases emptyB_bal he with h1 | h1
      · rw [h.had, hf] at h1; cases h1
      · exact h1
  have hpl : Rt (plL l (setB (accF l a).1 (m))) := by
    refine h.pl (by rw [hA]; exact ha) hR (by rw [hA]; exact hroom) ?_
    rw [hA]; exact hs
  refine ⟨?_, hpl, plL_ok hl hok⟩
  rw [putS_eq hl hok, if_neg ?_, if_neg (Nat.not_le.2 hpl.fits)]
  rintro ⟨he, h1 | h1⟩
  · have := store24 hR; omega
  · rw [hroom he] at h1; cases h1
theorem gainA_eq {l : List Ac} {a n : Nat} (h : (accF l a).1.bal + n < M256) : gainA l a n = (setB (accF l a).1 ((accF l a).1.bal + n)) := by show setB _ (((accF l a).1.bal + n) % M256) = _; rw [Nat.mod_eq_of_lt h]
theorem spendA_eq {l : List Ac} {a n : Nat} (h : n ≤ (accF l a).1.bal) (hb : (accF l a).1.bal < M256) : spendA l a n = (setB (accF l a).1 ((accF l a).1.bal - n)) := by
  show setB _ (((accF l a).1.bal + M256 - n) % M256) = _
  rw [show (accF l a).1.bal + M256 - n = (accF l a).1.bal - n + M256 by omega, Nat.add_mod_right, Nat.mod_eq_of_lt (by omega)]
theorem Rt.bal_lt {l : List Ac} (h : Rt l) (a : Nat) : (accF l a).1.bal < M256 := Nat.lt_of_le_of_lt (h.bal_le a) h.fits
/-- What an address spends. -/
theorem spend_ok {l : List Ac} (h : Rt l) (hl : OkL l) {a n : Nat} (ha : a ≠ 0) (ha64 : a < 18446744073709551616) (hn : n ≤ (accF l a).1.bal) :
    ∃ m, putS l a (spendA l a n) = (m, 0) ∧ Rt m ∧ OkL m ∧ (∀ b, (accF m b).1 = if b = a then (setB (accF l a).1 ((accF l a).1.bal - n)) else (accF l b).1) ∧ (bals m).sum + n = (bals l).sum ∧ freeN m ≤ freeN l ∧ (∀ b, b ≠ a → (accF m b).2 = (accF l b).2) ∧
      freeN m + frN (accF l a).2 a = freeN l + frN (accF m a).2 a := by
  have hb := h.bal_lt a
  have hle := h.bal_le a
  rw [spendA_eq hn hb]
  have hA : (setB (accF l a).1 ((accF l a).1.bal - n)).addr = a := accF_addr l a
  obtain ⟨h1, h2, h3⟩ := putS_bal h hl ha ha64 (m := (accF l a).1.bal - n) (by omega) (fun hf hne => by rw [accF_no hf] at hne; simp at hne) (by have := h.fits; omega)
  have hs := sum_pl h.rise (setB (accF l a).1 ((accF l a).1.bal - n))
  have hv := accF_pl h.rise (setB (accF l a).1 ((accF l a).1.bal - n))
  have hfr := freeN_pl h.rise (setB (accF l a).1 ((accF l a).1.bal - n))
  rw [hA] at hs hfr
  simp only [hA] at hv
  have hva := hv a
  rw [if_pos rfl] at hva
  refine ⟨_, h1, h2, h3, fun b => ?_, ?_, ?_, fun b hb => ?_, ?_⟩
  · rw [hv b]; split <;> rfl
  · have : (setB (accF l a).1 ((accF l a).1.bal - n)).bal = (accF l a).1.bal - n := rfl
    rw [this] at hs
    omega
  · unfold frN at hfr
    by_cases hc : (!(setB (accF l a).1 ((accF l a).1.bal - n)).emptyB) = true ∧ 16 ≤ a
    · have hd : (accF l a).2 = true := by
        rcases emptyB_bal (p := (accF l a).1) (n := (accF l a).1.bal - n) (by simpa using hc.1) with e | e
        · rw [h.had] at e; simpa using e
        · cases hf : (accF l a).2 with
          | true => rfl
          | false => rw [accF_no hf] at e; simp at e
      rw [if_pos hc, if_pos ⟨hd, hc.2⟩] at hfr
      omega
    · rw [if_neg hc] at hfr; omega
  · rw [hv b, if_neg hb]
  · rw [hva]; exact hfr
/-- What an address gains. -/
theorem gain_ok {l : List Ac} (h : Rt l) (hl : OkL l) {a n : Nat} (ha : a ≠ 0) (ha64 : a < 18446744073709551616) (hr : (accF l a).2 = false → n ≠ 0 → roomB l a = true) (hs : (bals l).sum + n < M256) :
    ∃ m, putS l a (gainA l a n) = (m, 0) ∧ Rt m ∧ OkL m ∧ (∀ b, (accF m b).1 = if b = a then (setB (accF l a).1 ((accF l a).1.bal + n)) else (accF l b).1) ∧ (bals m).sum = (bals l).sum + n := by
  have hle := h.bal_le a
  rw [gainA_eq (by omega)]
  have hA : (setB (accF l a).1 ((accF l a).1.bal + n)).addr = a := accF_addr l a
  obtain ⟨h1, h2, h3⟩ := putS_bal h hl ha ha64 (m := (accF l a).1.bal + n) (by omega) (fun hf hne => hr hf (by rw [accF_no hf] at hne; simpa using hne)) (by omega)
  have hsum := sum_pl h.rise (setB (accF l a).1 ((accF l a).1.bal + n))
  have hv := accF_pl h.rise (setB (accF l a).1 ((accF l a).1.bal + n))
  rw [hA] at hsum
  simp only [hA] at hv
  refine ⟨_, h1, h2, h3, fun b => ?_, ?_⟩
  · rw [hv b]; split <;> rfl
  · have : (setB (accF l a).1 ((accF l a).1.bal + n)).bal = (accF l a).1.bal + n := rfl
    rw [this] at hsum
    omega
/-- What a Move does. -/
theorem move_ok {l : List Ac} (h : Rt l) (hl : OkL l) {f a n : Nat} (hf : f ≠ 0) (ha : a ≠ 0) (hf64 : f < 18446744073709551616) (ha64 : a < 18446744073709551616) (hn : n ≤ (accF l f).1.bal) (hr : n ≠ 0 → roomB l a = true) :
    ∃ m, moveS l f a n = (m, 0) ∧ Rt m ∧ OkL m ∧ (bals m).sum = (bals l).sum ∧ (∀ b, (accF m b).1 = if f = a then (accF l b).1 else if b = f then (setB (accF l f).1 ((accF l f).1.bal - n)) else if b = a then (setB (accF l a).1 ((accF l a).1.bal + n)) else (accF l b).1) := by
  obtain ⟨k, e1, k1, k2, k3, k4, k5, k6, k7⟩ := spend_ok h hl hf hf64 hn
  have hroom : (accF k a).2 = false → n ≠ 0 → roomB k a = true := fun hka hn0 => by
    have hrl := hr hn0
    unfold roomB at hrl ⊢
    by_cases h16 : a < 16
    · simp [h16, ha]
    rw [show decide (a < 16) = false from decide_eq_false h16, Bool.or_false] at hrl ⊢
    rw [hka, if_neg (by simp)]
    have hfree := h.free
    by_cases haf : a = f
    · subst haf
      have hd : (accF l a).2 = true := by
        cases hf : (accF l a).2 with
        | true => rfl
        | false => rw [accF_no hf] at hn; simp at hn; omega
      rw [hd, hka] at k7
      unfold frN at k7
      rw [if_pos ⟨rfl, by omega⟩, if_neg (by simp)] at k7
      exact decide_eq_true (by omega)
    · rw [← k6 a haf, hka, if_neg (by simp)] at hrl
      have := of_decide_eq_true hrl
      exact decide_eq_true (by omega)
  obtain ⟨m, e2, m1, m2, m3, m4⟩ := gain_ok k1 k2 ha ha64 (n := n) hroom (by have := h.fits; omega)
  refine ⟨m, ?_, m1, m2, by omega, fun b => ?_⟩
  · unfold moveS
    rw [if_neg (by rw [(rt_iff hl).2 h]; simp), if_neg (by rintro (e | e) <;> contradiction), if_pos hn, if_neg (by rintro ⟨a1, a2⟩; rw [hr a1] at a2; cases a2), e1]
    exact e2
  · rw [m3 b, k3 a, k3 b]
    by_cases hfa : f = a
    · subst hfa
      by_cases hb : b = f
      · subst hb
        simp only [↓reduceIte]
        rw [setB_set, setB_bal, show (accF l b).1.bal - n + n = (accF l b).1.bal by omega, setB_self]
      · simp only [↓reduceIte, if_neg hb]
    · have haf : ¬ a = f := fun e => hfa e.symm
      by_cases hbf : b = f
      · subst hbf
        simp only [↓reduceIte, if_neg hfa]
      · by_cases hba : b = a
        · subst hba
          simp only [↓reduceIte, if_neg hfa, if_neg hbf]
        · simp only [if_neg hfa, if_neg hbf, if_neg hba]
/-- When a Move is refused. -/
theorem move_no {l : List Ac} (_hl : OkL l) {f a n : Nat} (_hf64 : f < 18446744073709551616) (_ha64 : a < 18446744073709551616) :
    (rightL l = false ∧ moveS l f a n = ([], 160)) ∨ (rightL l = true ∧ (f = 0 ∨ a = 0) ∧ moveS l f a n = ([], 2)) ∨ (rightL l = true ∧ f ≠ 0 ∧ a ≠ 0 ∧ (accF l f).1.bal < n ∧ moveS l f a n = ([], 162)) ∨
      (rightL l = true ∧ f ≠ 0 ∧ a ≠ 0 ∧ n ≤ (accF l f).1.bal ∧ n ≠ 0 ∧ roomB l a = false ∧ moveS l f a n = ([], 6)) ∨ (rightL l = true ∧ f ≠ 0 ∧ a ≠ 0 ∧ n ≤ (accF l f).1.bal ∧ (n ≠ 0 → roomB l a = true)) := by
  cases hr : rightL l with
  | false => exact .inl ⟨rfl, by unfold moveS; rw [if_pos hr]⟩
  | true =>
    refine .inr ?_
    by_cases h0 : f = 0 ∨ a = 0
    · exact .inl ⟨rfl, h0, by unfold moveS; rw [if_neg (by rw [hr]; simp), if_pos h0]⟩
    have hf : f ≠ 0 := fun e => h0 (.inl e)
    have ha : a ≠ 0 := fun e => h0 (.inr e)
    by_cases hn : n ≤ (accF l f).1.bal
    · by_cases hb : n ≠ 0 ∧ roomB l a = false
      · exact .inr (.inr (.inl ⟨rfl, hf, ha, hn, hb.1, hb.2, by unfold moveS; rw [if_neg (by rw [hr]; simp), if_neg h0, if_pos hn, if_pos hb]⟩))
      · refine .inr (.inr (.inr ⟨rfl, hf, ha, hn, fun h => ?_⟩))
        cases hq : roomB l a with
        | true => rfl
        | false => exact absurd ⟨h, hq⟩ hb
    · exact .inr (.inl ⟨rfl, hf, ha, by omega, by unfold moveS; rw [if_neg (by rw [hr]; simp), if_neg h0, if_neg hn]⟩)
end Go.Proofs.Yteidmoilldheeaa
