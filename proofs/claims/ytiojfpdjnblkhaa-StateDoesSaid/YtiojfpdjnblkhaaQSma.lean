/- States as tables: what all addresses have (plain mathematics). What comes of states by what is done (plain mathematics). -/
import Derived.Test.YtiojfpdjnblkhaaQStx
namespace Go.Proofs.Ytiojfpdjnblkhaa
open Go.ChangeShapes Go.WideShapes Go.ChangeAt Go.RowKit Go.Shelf

theorem emptyB_eq {x : Ac} (h : x.emptyB = true) : x = ⟨x.addr, 0, 0, [], []⟩ := by
 obtain ⟨a, b, c, d, e⟩ := x
 simp only [Ac.emptyB, Bool.and_eq_true, decide_eq_true_eq, List.length_eq_zero_iff] at h
 obtain ⟨h1, h2, h3, h4⟩ := h
 subst h1 h2 h3 h4
 rfl
theorem emptyB_em (a : Nat) : (⟨a, 0, 0, [], []⟩ : Ac).emptyB = true := by simp [Ac.emptyB]
theorem freeN_app (l m : List Ac) : freeN (l ++ m) = freeN l + freeN m := by simp [freeN]
theorem freeN_cons (p : Ac) (l : List Ac) : freeN (p :: l) = (if p.addr < 16 then 0 else 1) + freeN l := by
 unfold freeN
 by_cases h : p.addr < 16 <;> simp [h]; omega
theorem bals_app (l m : List Ac) : bals (l ++ m) = bals l ++ bals m := by simp [bals]

structure Rt (l : List Ac) : Prop where
 rise : RiseA l
 each : ∀ p ∈ l, 0 < p.addr ∧ p.rightB = true ∧ p.emptyB = false
 free : freeN l ≤ 24
 fits : (bals l).sum < M256
theorem chL_iff : ∀ (l : List Ac) (f t : Nat), f ≤ 24 → ((l.foldl chS (some (f, t))).isSome = true ↔ RiseA l ∧ (∀ p ∈ l, t < p.addr ∧ p.rightB = true ∧ p.emptyB = false) ∧ f + freeN l ≤ 24)
 | [], f, t, hf => by simp [RiseA, freeN]; omega
 | q :: l, f, t, hf => by
  rw [List.foldl_cons, freeN_cons]
  have hR : RiseA (q :: l) ↔ (∀ p ∈ l, q.addr < p.addr) ∧ RiseA l := List.pairwise_cons
  rw [hR]
  by_cases h1 : q.addr ≤ t
  ·rw [show chS (some (f, t)) q = none by simp [chS, h1], chS_none]
   constructor
   ·intro h; cases h
   ·rintro ⟨_, h, _⟩
    have := (h q List.mem_cons_self).1
    omega
  by_cases h2 : q.emptyB = true
  ·rw [show chS (some (f, t)) q = none by simp [chS, h1, h2], chS_none]
   constructor
   ·intro h; cases h
   ·rintro ⟨_, h, _⟩
    have := (h q List.mem_cons_self).2.2
    rw [h2] at this; cases this
  by_cases h3 : q.rightB = false
  ·rw [show chS (some (f, t)) q = none by simp [chS, h1, h2, h3], chS_none]
   constructor
   ·intro h; cases h
   ·rintro ⟨_, h, _⟩
    have := (h q List.mem_cons_self).2.1
    rw [h3] at this; cases this
  have h2' : q.emptyB = false := by simpa using h2
  have h3' : q.rightB = true := by simpa using h3
  have key : ∀ (f' : Nat), f' ≤ 24 → (RiseA l ∧ (∀ p ∈ l, q.addr < p.addr ∧ p.rightB = true ∧ p.emptyB = false) ∧ f' + freeN l ≤ 24 ↔ ((∀ p ∈ l, q.addr < p.addr) ∧ RiseA l) ∧ (∀ p ∈ q :: l, t < p.addr ∧ p.rightB = true ∧ p.emptyB = false) ∧ f' + freeN l ≤ 24) := by
   intro f' _
   constructor
   ·rintro ⟨a1, a2, a3⟩
    refine ⟨⟨fun p hp => (a2 p hp).1, a1⟩, fun p hp => ?_, a3⟩
    rcases List.mem_cons.1 hp with rfl | hp
    ·exact ⟨by omega, h3', h2'⟩
    ·exact ⟨by have := (a2 p hp).1; omega, (a2 p hp).2⟩
   ·rintro ⟨⟨a0, a1⟩, a2, a3⟩
    exact ⟨a1, fun p hp => ⟨a0 p hp, (a2 p (List.mem_cons_of_mem _ hp)).2⟩, a3⟩
  by_cases h4 : q.addr < 16
  ·rw [show chS (some (f, t)) q = some (f, q.addr) by simp [chS, h1, h2', h3', h4], chL_iff l f q.addr hf, key f hf, if_pos h4, Nat.zero_add]
  by_cases h5 : f = 24
  ·rw [show chS (some (f, t)) q = none by simp [chS, h1, h2', h3', h4, h5], chS_none, if_neg h4]
   constructor
   ·intro h; cases h
   ·rintro ⟨_, _, h⟩; omega
  ·rw [show chS (some (f, t)) q = some (f + 1, q.addr) by simp [chS, h1, h2', h3', h4, h5], chL_iff l (f + 1) q.addr (by omega), key (f + 1) (by omega), if_neg h4]
   have e : f + 1 + freeN l = f + (1 + freeN l) := by omega
   rw [e]
theorem rt_iff {l : List Ac} (hok : ∀ p ∈ l, p.ok) : rightL l = true ↔ Rt l := by
 unfold rightL chL
 rw [Bool.and_eq_true, chL_iff l 0 0 (by omega), sumW_eq (bals l) (fun x hx => by obtain ⟨p, hp, rfl⟩ := List.mem_map.1 hx; exact (hok p hp).2.1)]
 simp only [Bool.not_eq_true', decide_eq_false_iff_not, Nat.not_le, Nat.zero_add]
 exact ⟨fun ⟨⟨a, b, c⟩, d⟩ => ⟨a, b, c, d⟩, fun h => ⟨⟨h.rise, h.each, h.free⟩, h.fits⟩⟩

theorem accF_addr (l : List Ac) (a : Nat) : (accF l a).1.addr = a := by
 rcases accF_else (l := l) (a := a) with ⟨p, _, h, e⟩ | e
 ·rw [e]; exact h
 ·rw [e]
theorem accF_mem2 {l : List Ac} {a : Nat} (h : (accF l a).2 = true) : (accF l a).1 ∈ l := by
 rcases accF_else (l := l) (a := a) with ⟨p, hp, _, e⟩ | e
 ·rw [e]; exact hp
 ·rw [e] at h; cases h
theorem accF_no {l : List Ac} {a : Nat} (h : (accF l a).2 = false) : (accF l a).1 = ⟨a, 0, 0, [], []⟩ := by
 rcases accF_else (l := l) (a := a) with ⟨p, hp, _, e⟩ | e
 ·rw [e] at h; cases h
 ·rw [e]
theorem accF_has {l : List Ac} (hl : RiseA l) {p : Ac} (hp : p ∈ l) {a : Nat} (ha : p.addr = a) : accF l a = (p, true) := by rw [← ha]; exact accF_mem hl hp
theorem accF_not {l : List Ac} {a : Nat} (h : ∀ p ∈ l, p.addr ≠ a) : accF l a = (⟨a, 0, 0, [], []⟩, false) := accF_none h

theorem rise_split {l : List Ac} (h : RiseA l) (x : Ac) : l = (ltL x l ++ if (accF l x.addr).2 then [(accF l x.addr).1] else []) ++ gtL x l := by
 refine RiseA.ext h ?_ (fun p hp => ?_) (fun p hp => ?_)
 ·unfold RiseA
  rw [List.pairwise_append, List.pairwise_append]
  refine ⟨⟨List.Pairwise.filter _ h, by split <;> simp, ?_⟩, List.Pairwise.filter _ h, ?_⟩
  ·intro p hp q hq
   split at hq
   ·rw [List.mem_singleton.1 hq, accF_addr]
    simpa [ltL] using (List.mem_filter.1 hp).2
   ·cases hq
  ·intro p hp q hq
   have hq2 : x.addr < q.addr := by simpa [gtL] using (List.mem_filter.1 hq).2
   rcases List.mem_append.1 hp with hp | hp
   ·have hp2 : p.addr < x.addr := by simpa [ltL] using (List.mem_filter.1 hp).2
    omega
   ·split at hp
    ·rw [List.mem_singleton.1 hp, accF_addr]; exact hq2
    ·cases hp
 ·rcases Nat.lt_trichotomy p.addr x.addr with h1 | h1 | h1
  ·exact List.mem_append_left _ (List.mem_append_left _ (List.mem_filter.2 ⟨hp, by simpa using h1⟩))
  ·rw [accF_has h hp h1]
   exact List.mem_append_left _ (List.mem_append_right _ (by simp))
  ·exact List.mem_append_right _ (List.mem_filter.2 ⟨hp, by simpa using h1⟩)
 ·rcases List.mem_append.1 hp with hp | hp
  ·rcases List.mem_append.1 hp with hp | hp
   ·exact (List.mem_filter.1 hp).1
   ·split at hp
    ·rename_i hc
     rw [List.mem_singleton.1 hp]
     exact accF_mem2 hc
    ·cases hp
  ·exact (List.mem_filter.1 hp).1
theorem mem_plL {l : List Ac} {x p : Ac} : p ∈ plL l x ↔ (p ∈ l ∧ p.addr ≠ x.addr) ∨ (x.emptyB = false ∧ p = x) := by
 unfold plL ltL gtL
 rw [List.mem_append, List.mem_append, List.mem_filter, List.mem_filter]
 constructor
 ·rintro ((⟨h1, h2⟩ | h1) | ⟨h1, h2⟩)
  ·exact .inl ⟨h1, by simp only [decide_eq_true_eq] at h2; omega⟩
  ·cases hx : x.emptyB with
   | false => rw [hx] at h1; exact .inr ⟨rfl, by simpa using h1⟩
   | true => rw [hx] at h1; simp at h1
  ·exact .inl ⟨h1, by simp only [decide_eq_true_eq] at h2; omega⟩
 ·rintro (⟨h1, h2⟩ | ⟨h1, rfl⟩)
  ·rcases Nat.lt_or_gt_of_ne h2 with h | h
   ·exact .inl (.inl ⟨h1, by simpa using h⟩)
   ·exact .inr ⟨h1, by simpa using h⟩
  ·exact .inl (.inr (by rw [h1]; simp))
theorem plL_rise {l : List Ac} (h : RiseA l) (x : Ac) : RiseA (plL l x) := by
 unfold RiseA plL
 rw [List.pairwise_append, List.pairwise_append]
 refine ⟨⟨List.Pairwise.filter _ h, by split <;> simp, ?_⟩, List.Pairwise.filter _ h, ?_⟩
 ·intro p hp q hq
  split at hq
  ·cases hq
  ·rw [List.mem_singleton.1 hq]
   simpa [ltL] using (List.mem_filter.1 hp).2
 ·intro p hp q hq
  have hq2 : x.addr < q.addr := by simpa [gtL] using (List.mem_filter.1 hq).2
  rcases List.mem_append.1 hp with hp | hp
  ·have hp2 : p.addr < x.addr := by simpa [ltL] using (List.mem_filter.1 hp).2
   omega
  ·split at hp
   ·cases hp
   ·rw [List.mem_singleton.1 hp]; exact hq2
theorem accF_pl {l : List Ac} (h : RiseA l) (x : Ac) (b : Nat) : accF (plL l x) b = if b = x.addr then (x, !x.emptyB) else accF l b := by
 by_cases hb : b = x.addr
 ·rw [if_pos hb]
  cases hx : x.emptyB with
  | false => exact accF_has (plL_rise h x) (mem_plL.2 (.inr ⟨hx, rfl⟩)) hb.symm
  | true =>
   rw [accF_not (fun p hp => by
    rcases mem_plL.1 hp with ⟨_, h2⟩ | ⟨h1, _⟩
    ·rw [hb]; exact h2
    ·rw [hx] at h1; cases h1), emptyB_eq hx, hb]
   rfl
 ·rw [if_neg hb]
  cases hf : (accF l b).2 with
  | true =>
   have hm := accF_mem2 hf
   have ha := accF_addr l b
   rw [accF_has (plL_rise h x) (mem_plL.2 (.inl ⟨hm, by rw [ha]; exact hb⟩)) ha, ← hf]
  | false =>
   rw [accF_not (fun p hp => by
    rcases mem_plL.1 hp with ⟨h1, _⟩ | ⟨_, rfl⟩
    ·intro e
     rw [accF_has h h1 e] at hf; cases hf
    ·exact fun e => hb e.symm)]
   exact Prod.ext (accF_no hf).symm hf.symm
def frN (b : Bool) (a : Nat) : Nat := if b = true ∧ 16 ≤ a then 1 else 0
theorem freeN_one (b : Bool) (p : Ac) : freeN (if b then [p] else []) = frN b p.addr := by
 unfold frN
 cases b with
 | false => rfl
 | true =>
  rw [if_pos rfl, freeN_cons]
  by_cases h : p.addr < 16
  ·rw [if_pos h, if_neg (by omega)]; rfl
  ·rw [if_neg h, if_pos ⟨rfl, by omega⟩]; rfl
theorem freeN_pl {l : List Ac} (h : RiseA l) (x : Ac) : freeN (plL l x) + frN (accF l x.addr).2 x.addr = freeN l + frN (!x.emptyB) x.addr := by
 have e : freeN l = freeN (ltL x l) + frN (accF l x.addr).2 x.addr + freeN (gtL x l) := by
  conv => lhs; rw [rise_split h x]
  rw [freeN_app, freeN_app, freeN_one, accF_addr]
 have e2 : freeN (plL l x) = freeN (ltL x l) + frN (!x.emptyB) x.addr + freeN (gtL x l) := by
  unfold plL
  rw [freeN_app, freeN_app, ← freeN_one]
  cases x.emptyB <;> rfl
 omega
theorem sum_pl {l : List Ac} (h : RiseA l) (x : Ac) : (bals (plL l x)).sum + (accF l x.addr).1.bal = (bals l).sum + x.bal := by
 have e : (bals l).sum = (bals (ltL x l)).sum + (accF l x.addr).1.bal + (bals (gtL x l)).sum := by
  conv => lhs; rw [rise_split h x]
  rw [bals_app, bals_app, List.sum_append, List.sum_append]
  cases hf : (accF l x.addr).2 with
  | true => simp [bals]
  | false => rw [accF_no hf]; simp [bals]
 have e2 : (bals (plL l x)).sum = (bals (ltL x l)).sum + x.bal + (bals (gtL x l)).sum := by
  unfold plL
  rw [bals_app, bals_app, List.sum_append, List.sum_append]
  cases hx : x.emptyB with
  | false => simp [bals]
  | true => rw [emptyB_eq hx]; simp [bals]
 omega
theorem Rt.view {l m : List Ac} (hl : Rt l) (hm : Rt m) (h : ∀ a, (accF l a).1 = (accF m a).1) : l = m := by
 have key : ∀ {l m : List Ac}, Rt l → Rt m → (∀ a, (accF l a).1 = (accF m a).1) → ∀ p ∈ l, p ∈ m := by
  intro l m hl hm h p hp
  have h1 := h p.addr
  rw [accF_has hl.rise hp rfl] at h1
  cases hf : (accF m p.addr).2 with
  | true => have := accF_mem2 hf; rw [← h1] at this; exact this
  | false =>
   rw [accF_no hf] at h1
   have := (hl.each p hp).2.2
   rw [show p = ⟨p.addr, 0, 0, [], []⟩ from h1, emptyB_em] at this
   cases this
 exact RiseA.ext hl.rise hm.rise (key hl hm h) (key hm hl (fun a => (h a).symm))
theorem le_sum_mem : ∀ (l : List Nat) (x : Nat), x ∈ l → x ≤ l.sum
 | y :: l, x, h => by
  rw [List.sum_cons]
  rcases List.mem_cons.1 h with rfl | h
  ·omega
  ·have := le_sum_mem l x h; omega
theorem Rt.bal_le {l : List Ac} (_h : Rt l) (a : Nat) : (accF l a).1.bal ≤ (bals l).sum := by
 cases hf : (accF l a).2 with
 | true => exact le_sum_mem _ _ (List.mem_map.2 ⟨_, accF_mem2 hf, rfl⟩)
 | false => rw [accF_no hf]; exact Nat.zero_le _
theorem Rt.had {l : List Ac} (h : Rt l) (a : Nat) : (accF l a).1.emptyB = !(accF l a).2 := by
 cases hf : (accF l a).2 with
 | true => exact (h.each _ (accF_mem2 hf)).2.2
 | false => rw [accF_no hf]; exact emptyB_em a
theorem rightB_em {a : Nat} (h : a ≠ 0) : (⟨a, 0, 0, [], []⟩ : Ac).rightB = true := by simp [Ac.rightB, h]
theorem Rt.right {l : List Ac} (h : Rt l) {a : Nat} (ha : a ≠ 0) : (accF l a).1.rightB = true := by
 cases hf : (accF l a).2 with
 | true => exact (h.each _ (accF_mem2 hf)).2.1
 | false => rw [accF_no hf]; exact rightB_em ha
theorem plL_ok {l : List Ac} (hl : ∀ p ∈ l, p.ok) {x : Ac} (hx : x.ok) : ∀ p ∈ plL l x, p.ok := fun p hp => by
 rcases mem_plL.1 hp with ⟨h, _⟩ | ⟨_, rfl⟩
 ·exact hl p h
 ·exact hx
theorem Rt.pl {l : List Ac} (h : Rt l) {x : Ac} (ha : x.addr ≠ 0) (hr : x.rightB = true) (hroom : x.emptyB = false → roomB l x.addr = true) (hs : (bals l).sum + x.bal < M256 + (accF l x.addr).1.bal) : Rt (plL l x) := by
 refine ⟨plL_rise h.rise x, fun p hp => ?_, ?_, ?_⟩
 ·rcases mem_plL.1 hp with ⟨hp, _⟩ | ⟨he, rfl⟩
  ·exact h.each p hp
  ·exact ⟨by omega, hr, he⟩
 ·have e := freeN_pl h.rise x
  have hf := h.free
  unfold frN at e
  by_cases hc : (!x.emptyB) = true ∧ 16 ≤ x.addr
  ·rw [if_pos hc] at e
   have hro := hroom (by simpa using hc.1)
   unfold roomB at hro
   rw [show decide (x.addr < 16) = false from decide_eq_false (by omega), Bool.or_false] at hro
   cases hf2 : (accF l x.addr).2 with
   | true => rw [hf2, if_pos ⟨rfl, hc.2⟩] at e; omega
   | false =>
    rw [hf2, if_neg (by simp)] at hro
    rw [hf2, if_neg (by simp)] at e
    have := of_decide_eq_true hro
    omega
  ·rw [if_neg hc] at e; omega
 ·have := sum_pl h.rise x
  omega
end Go.Proofs.Ytiojfpdjnblkhaa
namespace Go.Proofs.Ytiojfpdjnblkhaa
open Go.ChangeShapes Go.WideShapes Go.ChangeAt Go.RowKit Go.Shelf

def setB (p : Ac) (n : Nat) : Ac := ⟨p.addr, n, p.nonce, p.code, p.store⟩
@[simp] theorem setB_bal (p : Ac) (n : Nat) : (setB p n).bal = n := rfl
theorem setB_set (p : Ac) (m n : Nat) : setB (setB p m) n = setB p n := rfl
theorem setB_self (p : Ac) : setB p p.bal = p := rfl
def OkL (l : List Ac) : Prop := ∀ p ∈ l, p.ok
theorem OkL.acc {l : List Ac} (h : OkL l) {a : Nat} (ha : a < 18446744073709551616) : (accF l a).1.ok := by
 cases hf : (accF l a).2 with
 | true => exact h _ (accF_mem2 hf)
 | false => rw [accF_no hf]; exact ⟨ha, show 0 < M256 by decide, show 0 < 18446744073709551616 by decide⟩
theorem putS_eq {l : List Ac} (hl : OkL l) {a : Nat} {x : Ac} (hx : x.ok) : putS l a x = if x.emptyB = false ∧ (24 < x.store.length ∨ roomB l a = false) then ([], 6) else if M256 ≤ (bals (plL l x)).sum then ([], 2) else (plL l x, 0) := by
 unfold putS
 rw [sumW_eq (bals (plL l x)) (fun y hy => by obtain ⟨p, hp, rfl⟩ := List.mem_map.1 hy; exact (plL_ok hl hx p hp).2.1)]
 simp only [decide_eq_true_eq]
theorem room_had {l : List Ac} {a : Nat} (h : (accF l a).2 = true) (ha : a ≠ 0) : roomB l a = true := by simp [roomB, h, ha]
theorem store24 {p : Ac} (h : p.rightB = true) : p.store.length ≤ 24 := by
 simp only [Ac.rightB, Bool.and_eq_true, decide_eq_true_eq] at h
 exact h.2.2.1
theorem emptyB_bal {p : Ac} {n : Nat} (h : (setB p n).emptyB = false) : p.emptyB = false ∨ n ≠ 0 := by
 cases hp : p.emptyB with
 | false => exact .inl rfl
 | true =>
  refine .inr (fun hn => ?_)
  rw [emptyB_eq hp, hn] at h
  rw [show setB (⟨p.addr, 0, 0, [], []⟩ : Ac) 0 = ⟨p.addr, 0, 0, [], []⟩ from rfl, emptyB_em] at h
  cases h
theorem putS_bal {l : List Ac} (h : Rt l) (hl : OkL l) {a m : Nat} (ha : a ≠ 0) (ha64 : a < 18446744073709551616) (hm : m < M256)
  (hr : (accF l a).2 = false → m ≠ 0 → roomB l a = true) (hs : (bals l).sum + m < M256 + (accF l a).1.bal) :
  putS l a (setB (accF l a).1 (m)) = (plL l (setB (accF l a).1 (m)), 0) ∧ Rt (plL l (setB (accF l a).1 (m))) ∧ OkL (plL l (setB (accF l a).1 (m))) := by
 have hA : (setB (accF l a).1 (m)).addr = a := accF_addr l a
 have hok : (setB (accF l a).1 (m)).ok := ⟨(hl.acc ha64).1, hm, (hl.acc ha64).2.2⟩
 have hR : (setB (accF l a).1 (m)).rightB = true := h.right ha
 have hroom : (setB (accF l a).1 (m)).emptyB = false → roomB l a = true := fun he => by
  cases hf : (accF l a).2 with
  | true => exact room_had hf ha
  | false =>
   refine hr hf ?_
   rcases emptyB_bal he with h1 | h1
   ·rw [h.had, hf] at h1; cases h1
   ·exact h1
 have hpl : Rt (plL l (setB (accF l a).1 (m))) := by
  refine h.pl (by rw [hA]; exact ha) hR (by rw [hA]; exact hroom) ?_
  rw [hA]; exact hs
 refine ⟨?_, hpl, plL_ok hl hok⟩
 rw [putS_eq hl hok, if_neg ?_, if_neg (Nat.not_le.2 hpl.fits)]
 rintro ⟨he, h1 | h1⟩
 ·have := store24 hR; omega
 ·rw [hroom he] at h1; cases h1
theorem gainA_eq {l : List Ac} {a n : Nat} (h : (accF l a).1.bal + n < M256) : gainA l a n = (setB (accF l a).1 ((accF l a).1.bal + n)) := by show setB _ (((accF l a).1.bal + n) % M256) = _; rw [Nat.mod_eq_of_lt h]
theorem spendA_eq {l : List Ac} {a n : Nat} (h : n ≤ (accF l a).1.bal) (hb : (accF l a).1.bal < M256) : spendA l a n = (setB (accF l a).1 ((accF l a).1.bal - n)) := by
 show setB _ (((accF l a).1.bal + M256 - n) % M256) = _
 rw [show (accF l a).1.bal + M256 - n = (accF l a).1.bal - n + M256 by omega, Nat.add_mod_right, Nat.mod_eq_of_lt (by omega)]
theorem Rt.bal_lt {l : List Ac} (h : Rt l) (a : Nat) : (accF l a).1.bal < M256 := Nat.lt_of_le_of_lt (h.bal_le a) h.fits
theorem spend_ok {l : List Ac} (h : Rt l) (hl : OkL l) {a n : Nat} (ha : a ≠ 0) (ha64 : a < 18446744073709551616) (hn : n ≤ (accF l a).1.bal) :
  ∃ m, putS l a (spendA l a n) = (m, 0) ∧ Rt m ∧ OkL m ∧ (∀ b, (accF m b).1 = if b = a then (setB (accF l a).1 ((accF l a).1.bal - n)) else (accF l b).1) ∧ (bals m).sum + n = (bals l).sum ∧ freeN m ≤ freeN l ∧ (∀ b, b ≠ a → (accF m b).2 = (accF l b).2) ∧
   freeN m + frN (accF l a).2 a = freeN l + frN (accF m a).2 a := by
 have hb := h.bal_lt a
 have hle := h.bal_le a
 rw [spendA_eq hn hb]
 have hA : (setB (accF l a).1 ((accF l a).1.bal - n)).addr = a := accF_addr l a
 obtain ⟨h1, h2, h3⟩ := putS_bal h hl ha ha64 (m := (accF l a).1.bal - n) (by omega) (fun hf hne => by rw [accF_no hf] at hne; simp at hne) (by have := h.fits; omega)
 have hs := sum_pl h.rise (setB (accF l a).1 ((accF l a).1.bal - n))
 have hv := accF_pl h.rise (setB (accF l a).1 ((accF l a).1.bal - n))
 have hfr := freeN_pl h.rise (setB (accF l a).1 ((accF l a).1.bal - n))
 rw [hA] at hs hfr
 simp only [hA] at hv
 have hva := hv a
 rw [if_pos rfl] at hva
 refine ⟨_, h1, h2, h3, fun b => ?_, ?_, ?_, fun b hb => ?_, ?_⟩
 ·rw [hv b]; split <;> rfl
 ·have : (setB (accF l a).1 ((accF l a).1.bal - n)).bal = (accF l a).1.bal - n := rfl
  rw [this] at hs
  omega
 ·unfold frN at hfr
  by_cases hc : (!(setB (accF l a).1 ((accF l a).1.bal - n)).emptyB) = true ∧ 16 ≤ a
  ·have hd : (accF l a).2 = true := by
    rcases emptyB_bal (p := (accF l a).1) (n := (accF l a).1.bal - n) (by simpa using hc.1) with e | e
    ·rw [h.had] at e; simpa using e
    ·cases hf : (accF l a).2 with
     | true => rfl
     | false => rw [accF_no hf] at e; simp at e
   rw [if_pos hc, if_pos ⟨hd, hc.2⟩] at hfr
   omega
  ·rw [if_neg hc] at hfr; omega
 ·rw [hv b, if_neg hb]
 ·rw [hva]; exact hfr
theorem gain_ok {l : List Ac} (h : Rt l) (hl : OkL l) {a n : Nat} (ha : a ≠ 0) (ha64 : a < 18446744073709551616) (hr : (accF l a).2 = false → n ≠ 0 → roomB l a = true) (hs : (bals l).sum + n < M256) :
  ∃ m, putS l a (gainA l a n) = (m, 0) ∧ Rt m ∧ OkL m ∧ (∀ b, (accF m b).1 = if b = a then (setB (accF l a).1 ((accF l a).1.bal + n)) else (accF l b).1) ∧ (bals m).sum = (bals l).sum + n := by
 have hle := h.bal_le a
 rw [gainA_eq (by omega)]
 have hA : (setB (accF l a).1 ((accF l a).1.bal + n)).addr = a := accF_addr l a
 obtain ⟨h1, h2, h3⟩ := putS_bal h hl ha ha64 (m := (accF l a).1.bal + n) (by omega) (fun hf hne => hr hf (by rw [accF_no hf] at hne; simpa using hne)) (by omega)
 have hsum := sum_pl h.rise (setB (accF l a).1 ((accF l a).1.bal + n))
 have hv := accF_pl h.rise (setB (accF l a).1 ((accF l a).1.bal + n))
 rw [hA] at hsum
 simp only [hA] at hv
 refine ⟨_, h1, h2, h3, fun b => ?_, ?_⟩
 ·rw [hv b]; split <;> rfl
 ·have : (setB (accF l a).1 ((accF l a).1.bal + n)).bal = (accF l a).1.bal + n := rfl
  rw [this] at hsum
  omega
theorem move_ok {l : List Ac} (h : Rt l) (hl : OkL l) {f a n : Nat} (hf : f ≠ 0) (ha : a ≠ 0) (hf64 : f < 18446744073709551616) (ha64 : a < 18446744073709551616) (hn : n ≤ (accF l f).1.bal) (hr : n ≠ 0 → roomB l a = true) :
  ∃ m, moveS l f a n = (m, 0) ∧ Rt m ∧ OkL m ∧ (bals m).sum = (bals l).sum ∧ (∀ b, (accF m b).1 = if f = a then (accF l b).1 else if b = f then (setB (accF l f).1 ((accF l f).1.bal - n)) else if b = a then (setB (accF l a).1 ((accF l a).1.bal + n)) else (accF l b).1) := by
 obtain ⟨k, e1, k1, k2, k3, k4, k5, k6, k7⟩ := spend_ok h hl hf hf64 hn
 have hroom : (accF k a).2 = false → n ≠ 0 → roomB k a = true := fun hka hn0 => by
  have hrl := hr hn0
  unfold roomB at hrl ⊢
  by_cases h16 : a < 16
  ·simp [h16, ha]
  rw [show decide (a < 16) = false from decide_eq_false h16, Bool.or_false] at hrl ⊢
  rw [hka, if_neg (by simp)]
  have hfree := h.free
  by_cases haf : a = f
  ·subst haf
   have hd : (accF l a).2 = true := by
    cases hf : (accF l a).2 with
    | true => rfl
    | false => rw [accF_no hf] at hn; simp at hn; omega
   rw [hd, hka] at k7
   unfold frN at k7
   rw [if_pos ⟨rfl, by omega⟩, if_neg (by simp)] at k7
   exact decide_eq_true (by omega)
  ·rw [← k6 a haf, hka, if_neg (by simp)] at hrl
   have := of_decide_eq_true hrl
   exact decide_eq_true (by omega)
 obtain ⟨m, e2, m1, m2, m3, m4⟩ := gain_ok k1 k2 ha ha64 (n := n) hroom (by have := h.fits; omega)
 refine ⟨m, ?_, m1, m2, by omega, fun b => ?_⟩
 ·unfold moveS
  rw [if_neg (by rw [(rt_iff hl).2 h]; simp), if_neg (by rintro (e | e) <;> contradiction), if_pos hn, if_neg (by rintro ⟨a1, a2⟩; rw [hr a1] at a2; cases a2), e1]
  exact e2
 ·rw [m3 b, k3 a, k3 b]
  by_cases hfa : f = a
  ·subst hfa
   by_cases hb : b = f
   ·subst hb
    simp only [↓reduceIte]
    rw [setB_set, setB_bal, show (accF l b).1.bal - n + n = (accF l b).1.bal by omega, setB_self]
   ·simp only [↓reduceIte, if_neg hb]
  ·have haf : ¬ a = f := fun e => hfa e.symm
   by_cases hbf : b = f
   ·subst hbf
    simp only [↓reduceIte, if_neg hfa]
   ·by_cases hba : b = a
    ·subst hba
     simp only [↓reduceIte, if_neg hfa, if_neg hbf]
    ·simp only [if_neg hfa, if_neg hbf, if_neg hba]
theorem move_no {l : List Ac} (_hl : OkL l) {f a n : Nat} (_hf64 : f < 18446744073709551616) (_ha64 : a < 18446744073709551616) :
  (rightL l = false ∧ moveS l f a n = ([], 160)) ∨ (rightL l = true ∧ (f = 0 ∨ a = 0) ∧ moveS l f a n = ([], 2)) ∨ (rightL l = true ∧ f ≠ 0 ∧ a ≠ 0 ∧ (accF l f).1.bal < n ∧ moveS l f a n = ([], 162)) ∨
   (rightL l = true ∧ f ≠ 0 ∧ a ≠ 0 ∧ n ≤ (accF l f).1.bal ∧ n ≠ 0 ∧ roomB l a = false ∧ moveS l f a n = ([], 6)) ∨ (rightL l = true ∧ f ≠ 0 ∧ a ≠ 0 ∧ n ≤ (accF l f).1.bal ∧ (n ≠ 0 → roomB l a = true)) := by
 cases hr : rightL l with
 | false => exact .inl ⟨rfl, by unfold moveS; rw [if_pos hr]⟩
 | true =>
  refine .inr ?_
  by_cases h0 : f = 0 ∨ a = 0
  ·exact .inl ⟨rfl, h0, by unfold moveS; rw [if_neg (by rw [hr]; simp), if_pos h0]⟩
  have hf : f ≠ 0 := fun e => h0 (.inl e)
  have ha : a ≠ 0 := fun e => h0 (.inr e)
  by_cases hn : n ≤ (accF l f).1.bal
  ·by_cases hb : n ≠ 0 ∧ roomB l a = false
   ·exact .inr (.inr (.inl ⟨rfl, hf, ha, hn, hb.1, hb.2, by unfold moveS; rw [if_neg (by rw [hr]; simp), if_neg h0, if_pos hn, if_pos hb]⟩))
   ·refine .inr (.inr (.inr ⟨rfl, hf, ha, hn, fun h => ?_⟩))
    cases hq : roomB l a with
    | true => rfl
    | false => exact absurd ⟨h, hq⟩ hb
  ·exact .inr (.inl ⟨rfl, hf, ha, by omega, by unfold moveS; rw [if_neg (by rw [hr]; simp), if_neg h0, if_neg hn]⟩)
end Go.Proofs.Ytiojfpdjnblkhaa
