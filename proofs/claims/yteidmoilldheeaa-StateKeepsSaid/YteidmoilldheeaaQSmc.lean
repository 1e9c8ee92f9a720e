/- What is done to one address is not seen of another one; what all have together (plain mathematics). -/
import Derived.Test.YteidmoilldheeaaQRuo
import Derived.Test.YteidmoilldheeaaQSue
namespace Go.Proofs.Yteidmoilldheeaa
open Go.ChangeShapes Go.WideShapes Go.ChangeAt Go.RowKit Go.Shelf

theorem riseK_iff (l : List (Nat × Nat)) : RiseK l ↔ l.Pairwise (fun p q => p.1 < q.1) := by
  unfold RiseK
  rw [List.pairwise_iff_getElem]
  constructor
  · intro h i j hi hj hij
    have := h i j hij hj
    rw [List.getD_eq_getElem?_getD, List.getD_eq_getElem?_getD, List.getElem?_eq_getElem hi, List.getElem?_eq_getElem hj] at this
    exact this
  · intro h i j hij hj
    have := h i j (by omega) hj hij
    rw [List.getD_eq_getElem?_getD, List.getD_eq_getElem?_getD, List.getElem?_eq_getElem (show i < l.length by omega), List.getElem?_eq_getElem hj]
    exact this
theorem mem_savL {l : List (Nat × Nat)} {p q : Nat × Nat} : q ∈ savL l p ↔ (q ∈ l ∧ q.1 ≠ p.1) ∨ (p.2 ≠ 0 ∧ q = p) := by
  unfold savL
  rw [List.mem_append, List.mem_append, List.mem_filter, List.mem_filter]
  by_cases hz : p.2 = 0
  · rw [if_pos hz]
    simp only [List.not_mem_nil, or_false, decide_eq_true_eq]
    constructor
    · rintro (⟨h1, h2⟩ | ⟨h1, h2⟩) <;> exact .inl ⟨h1, by omega⟩
    · rintro (⟨h1, h2⟩ | ⟨h1, _⟩)
      · rcases Nat.lt_or_gt_of_ne h2 with h | h
        · exact .inl ⟨h1, h⟩
        · exact .inr ⟨h1, h⟩
      · exact absurd hz h1
  · rw [if_neg hz]
    simp only [List.mem_singleton, decide_eq_true_eq]
    constructor
    · rintro ((⟨h1, h2⟩ | rfl) | ⟨h1, h2⟩)
      · exact .inl ⟨h1, by omega⟩
      · exact .inr ⟨hz, rfl⟩
      · exact .inl ⟨h1, by omega⟩
    · rintro (⟨h1, h2⟩ | ⟨_, rfl⟩)
      · rcases Nat.lt_or_gt_of_ne h2 with h | h
        · exact .inl (.inl ⟨h1, h⟩)
        · exact .inr ⟨h1, h⟩
      · exact .inl (.inr rfl)
theorem savL_rise {l : List (Nat × Nat)} (h : RiseK l) (p : Nat × Nat) : RiseK (savL l p) := by
  rw [riseK_iff] at h ⊢
  unfold savL
  rw [List.pairwise_append, List.pairwise_append]
  refine ⟨⟨List.Pairwise.filter _ h, by split <;> simp, ?_⟩, List.Pairwise.filter _ h, ?_⟩
  · intro a ha b hb
    split at hb
    · cases hb
    · rw [List.mem_singleton.1 hb]
      simpa using (List.mem_filter.1 ha).2
  · intro a ha b hb
    have hb2 : p.1 < b.1 := by simpa using (List.mem_filter.1 hb).2
    rcases List.mem_append.1 ha with ha | ha
    · have : a.1 < p.1 := by simpa using (List.mem_filter.1 ha).2
      omega
    · split at ha
      · cases ha
      · rw [List.mem_singleton.1 ha]; exact hb2
/-- What was saved is loaded. -/
theorem savL_load {l : List (Nat × Nat)} (h : RiseK l) (p : Nat × Nat) : ldF (savL l p) p.1 = p.2 := by
  by_cases hz : p.2 = 0
  · rw [hz]
    refine ldF_none (fun q hq => ?_)
    rcases mem_savL.1 hq with ⟨_, h2⟩ | ⟨h1, _⟩
    · exact h2
    · exact absurd hz h1
  · have hr := (riseK_iff _).1 (savL_rise h p)
    unfold ldF
    cases hf : (savL l p).find? (fun q => q.1 == p.1) with
    | none =>
      have := List.find?_eq_none.1 hf p (mem_savL.2 (.inr ⟨hz, rfl⟩))
      simp at this
    | some q =>
      have hm := List.mem_of_find?_eq_some hf
      have hk : q.1 = p.1 := by simpa using List.find?_some hf
      rcases mem_savL.1 hm with ⟨_, h2⟩ | ⟨_, rfl⟩
      · exact absurd hk h2
      · rfl
theorem slB_of {l : List (Nat × Nat)} (h : RiseK l) (hv : ∀ q ∈ l, q.2 ≠ 0) (i : Nat) (hi : i < l.length) : slB l i = true := by
  unfold slB
  have h1 : (l.getD i (0, 0)).2 ≠ 0 := hv _ (by rw [List.getD_eq_getElem?_getD, List.getElem?_eq_getElem hi]; exact List.getElem_mem hi)
  rw [decide_eq_true h1, Bool.true_and]
  by_cases h0 : i = 0
  · simp [h0]
  · have := h (i - 1) i (by omega) hi
    rw [decide_eq_false h0, Bool.false_or]
    exact decide_eq_true this
/-- A put that is done. -/
theorem putS_done {l : List Ac} (h : Rt l) (hl : OkL l) {x : Ac} {m : List Ac} (hx : x.ok) (ha : x.addr ≠ 0) (hr : x.emptyB = false → x.store.length ≤ 24 → x.rightB = true) (e : putS l x.addr x = (m, 0)) :
    m = plL l x ∧ Rt m ∧ OkL m ∧ (∀ b, (accF m b).1 = if b = x.addr then x else (accF l b).1) ∧ (bals m).sum + (accF l x.addr).1.bal = (bals l).sum + x.bal := by
  rw [putS_eq hl hx] at e
  by_cases h1 : x.emptyB = false ∧ (24 < x.store.length ∨ roomB l x.addr = false)
  · rw [if_pos h1] at e
    injection e with _ e
    cases e
  rw [if_neg h1] at e
  by_cases h2 : M256 ≤ (bals (plL l x)).sum
  · rw [if_pos h2] at e
    injection e with _ e
    cases e
  rw [if_neg h2] at e
  injection e with e _
  subst e
  have hs := sum_pl h.rise x
  have hRt : Rt (plL l x) := by
    cases he : x.emptyB with
    | false =>
      exact h.pl ha (hr he (by
        rcases Nat.lt_or_ge 24 x.store.length with hlt | hge
        · exact absurd ⟨he, .inl hlt⟩ h1
        · exact hge)) (fun _ => by
        cases hq : roomB l x.addr with
        | true => rfl
        | false => exact absurd ⟨he, .inr hq⟩ h1) (by omega)
    | true =>
      refine h.pl ha ?_ (fun h => by rw [he] at h; cases h) (by omega)
      rw [emptyB_eq he]
      exact rightB_em ha
  refine ⟨rfl, hRt, plL_ok hl hx, fun b => ?_, hs⟩
  rw [accF_pl h.rise x b]
  split <;> rfl
/-- Is the address one of those to which something is done? -/
def tchB (o : Opn) (b : Nat) : Bool := if kdI o = 0 then decide (b = o.ac.addr) else if kdI o = 2 then decide (b = o.a) || decide (b = o.b) else decide (b = o.a)
structure Kp (l m : List Ac) (o : Opn) : Prop where
  rl : Rt l
  rm : Rt m
  okm : OkL m
  others : ∀ b, tchB o b = false → (accF m b).1 = (accF l b).1
  put : kdI o = 0 → (accF m o.ac.addr).1 = oneA o.ac
  save : kdI o = 1 → ldF (accF m o.a).1.store o.pr.1 = o.pr.2 ∧ (accF m o.a).1.bal = (accF l o.a).1.bal ∧ (bals m).sum = (bals l).sum
  move : kdI o = 2 → (bals m).sum = (bals l).sum
  mint : kdI o = 3 → (bals m).sum = (bals l).sum + o.n
  burn : kdI o = 4 → (bals m).sum + o.n = (bals l).sum
theorem bal_right {p : Ac} (n : Nat) (h : p.rightB = true) : (setB p n).rightB = true := h
theorem run_keeps {l : List Ac} (hl : OkL l) {o : Opn} (hok : o.ok) {m : List Ac} (e : runS l o = (m, 0)) : Kp l m o := by
  have hR : rightL l = true := by
    cases hr : rightL l with
    | true => rfl
    | false =>
      unfold runS putA saveS moveS mintS burnS at e
      rw [hr] at e
      simp only [if_true] at e
      split at e
      · cases e
      · split at e
        · cases e
        · split at e
          · cases e
          · split at e <;> cases e
  have h := (rt_iff hl).1 hR
  unfold runS at e
  rcases kdI_cases o with hk | hk | hk | hk | hk
  · rw [if_pos hk] at e
    unfold putA at e
    rw [if_neg (by rw [hR]; simp)] at e
    cases hx : (oneA o.ac).rightB with
    | false => rw [if_pos hx] at e; cases e
    | true =>
      rw [if_neg (by rw [hx]; simp)] at e
      have ha : (oneA o.ac).addr ≠ 0 := by
        simp only [Ac.rightB, Bool.and_eq_true, decide_eq_true_eq] at hx
        exact hx.1
      obtain ⟨_, h1, h2, h3, _⟩ := putS_done h hl (show (oneA o.ac).ok from hok.2.2.2.2.2.2) ha (fun _ _ => hx) e
      exact ⟨h, h1, h2, fun b hb => by
        unfold tchB at hb
        rw [if_pos hk] at hb
        exact (h3 b).trans (if_neg (of_decide_eq_false hb)), fun _ => by rw [show o.ac.addr = (oneA o.ac).addr from rfl, h3]; exact if_pos rfl, fun hx => absurd (hk.symm.trans hx) (by decide), fun hx => absurd (hk.symm.trans hx) (by decide), fun hx => absurd (hk.symm.trans hx) (by decide), fun hx => absurd (hk.symm.trans hx) (by decide)⟩
  · have k0 : ¬ kdI o = 0 := by rw [hk]; decide
    have k2 : ¬ kdI o = 2 := by rw [hk]; decide
    rw [if_neg k0, if_pos hk] at e
    unfold saveS at e
    rw [if_neg (by rw [hR]; simp)] at e
    by_cases ha : o.a = 0
    · rw [if_pos ha] at e; cases e
    rw [if_neg ha] at e
    have hA : (saveA l o.a o.pr).addr = o.a := accF_addr l o.a
    have hrr := h.right ha
    obtain ⟨r1, r2, r3, r4⟩ := right_rise hrr
    have hv : ∀ q ∈ savL (accF l o.a).1.store o.pr, q.2 ≠ 0 := fun q hq => by
      rcases mem_savL.1 hq with ⟨h1, _⟩ | ⟨h1, rfl⟩
      · obtain ⟨i, hi, e⟩ := List.getElem_of_mem h1
        have := r4 i hi
        rwa [List.getD_eq_getElem?_getD, List.getElem?_eq_getElem hi, Option.getD_some, e] at this
      · exact h1
    obtain ⟨_, h1, h2, h3, h4⟩ := putS_done (x := saveA l o.a o.pr) h hl ⟨(hl.acc hok.2.1).1, (hl.acc hok.2.1).2.1, (hl.acc hok.2.1).2.2⟩ (by rw [hA]; exact ha) (fun _ h24 => right_all _ (by rw [hA]; exact ha) r3 h24 (fun i hi => slB_of (savL_rise r1 o.pr) hv i hi)) (by rw [hA]; exact e)
    rw [hA] at h4
    simp only [hA] at h3
    exact ⟨h, h1, h2, fun b hb => by
      unfold tchB at hb
      rw [if_neg k0, if_neg k2] at hb
      rw [h3 b, if_neg (of_decide_eq_false hb)], fun hx => absurd (hk.symm.trans hx) (by decide), fun _ => by
        rw [h3 o.a, if_pos rfl]
        exact ⟨savL_load r1 o.pr, rfl, by have : (saveA l o.a o.pr).bal = (accF l o.a).1.bal := rfl; omega⟩, fun hx => absurd (hk.symm.trans hx) (by decide), fun hx => absurd (hk.symm.trans hx) (by decide), fun hx => absurd (hk.symm.trans hx) (by decide)⟩
  · have k0 : ¬ kdI o = 0 := by rw [hk]; decide
    have k1 : ¬ kdI o = 1 := by rw [hk]; decide
    rw [if_neg k0, if_neg k1, if_pos hk] at e
    rcases move_no (f := o.a) (a := o.b) (n := o.n) hl hok.2.1 hok.2.2.1 with ⟨_, hm⟩ | ⟨_, _, hm⟩ | ⟨_, _, _, _, hm⟩ | ⟨_, _, _, _, _, _, hm⟩ | ⟨_, hf, ha, hle, hroom⟩
    · rw [hm] at e; cases e
    · rw [hm] at e; cases e
    · rw [hm] at e; cases e
    · rw [hm] at e; cases e
    · obtain ⟨m', hm, h1, h2, h3, h4⟩ := move_ok h hl hf ha hok.2.1 hok.2.2.1 hle hroom
      rw [hm] at e
      injection e with e _
      subst e
      exact ⟨h, h1, h2, fun b hb => by
        unfold tchB at hb
        rw [if_neg k0, if_pos hk, Bool.or_eq_false_iff] at hb
        rw [h4 b, if_neg (of_decide_eq_false hb.1), if_neg (of_decide_eq_false hb.2)]
        split <;> rfl, fun hx => absurd (hk.symm.trans hx) (by decide), fun hx => absurd (hk.symm.trans hx) (by decide), fun _ => h3, fun hx => absurd (hk.symm.trans hx) (by decide), fun hx => absurd (hk.symm.trans hx) (by decide)⟩
  · have k0 : ¬ kdI o = 0 := by rw [hk]; decide
    have k1 : ¬ kdI o = 1 := by rw [hk]; decide
    have k2 : ¬ kdI o = 2 := by rw [hk]; decide
    rw [if_neg k0, if_neg k1, if_neg k2, if_pos hk] at e
    unfold mintS at e
    rw [if_neg (by rw [hR]; simp)] at e
    by_cases hb : (sumW ([o.n] ++ bals l)).2 = true ∨ o.a = 0
    · rw [if_pos hb] at e; cases e
    rw [if_neg hb] at e
    have ha : o.a ≠ 0 := fun e => hb (.inr e)
    have hsum : o.n + (bals l).sum < M256 := by
      have h1 : ¬ (sumW ([o.n] ++ bals l)).2 = true := fun e => hb (.inl e)
      rw [sumW_eq ([o.n] ++ bals l) (fun x hx => by
        rcases List.mem_append.1 hx with hx | hx
        · rw [List.mem_singleton.1 hx]; exact hok.2.2.2.1
        · obtain ⟨p, hp, rfl⟩ := List.mem_map.1 hx; exact (hl p hp).2.1)] at h1
      have h2 : ¬ M256 ≤ o.n + (bals l).sum := by
        intro hc
        apply h1
        have h3 : M256 ≤ ([o.n] ++ bals l).sum := by rw [List.sum_append, List.sum_cons, List.sum_nil]; omega
        exact decide_eq_true h3
      omega
    have hle := h.bal_le o.a
    rw [gainA_eq (by omega)] at e
    have hA : (setB (accF l o.a).1 ((accF l o.a).1.bal + o.n)).addr = o.a := accF_addr l o.a
    obtain ⟨_, h1, h2, h3, h4⟩ := putS_done (x := setB (accF l o.a).1 ((accF l o.a).1.bal + o.n)) h hl ⟨(hl.acc hok.2.1).1, by show (accF l o.a).1.bal + o.n < M256; omega, (hl.acc hok.2.1).2.2⟩ (by rw [hA]; exact ha) (fun _ _ => bal_right _ (h.right ha)) (by rw [hA]; exact e)
    rw [hA, setB_bal] at h4
    simp only [hA] at h3
    exact ⟨h, h1, h2, fun b hb => by
      unfold tchB at hb
      rw [if_neg k0, if_neg k2] at hb
      rw [h3 b, if_neg (of_decide_eq_false hb)], fun hx => absurd (hk.symm.trans hx) (by decide), fun hx => absurd (hk.symm.trans hx) (by decide), fun hx => absurd (hk.symm.trans hx) (by decide), fun _ => by omega, fun hx => absurd (hk.symm.trans hx) (by decide)⟩
  · have k0 : ¬ kdI o = 0 := by rw [hk]; decide
    have k1 : ¬ kdI o = 1 := by rw [hk]; decide
    have k2 : ¬ kdI o = 2 := by rw [hk]; decide
    have k3 : ¬ kdI o = 3 := by rw [hk]; decide
    rw [if_neg k0, if_neg k1, if_neg k2, if_neg k3] at e
    unfold burnS at e
    rw [if_neg (by rw [hR]; simp)] at e
    by_cases ha : o.a = 0
    · rw [if_pos ha] at e; cases e
    rw [if_neg ha] at e
    by_cases hn : o.n ≤ (accF l o.a).1.bal
    · rw [if_pos hn, spendA_eq hn (h.bal_lt o.a)] at e
      have hle := h.bal_le o.a
      have hlt := h.bal_lt o.a
      have hA : (setB (accF l o.a).1 ((accF l o.a).1.bal - o.n)).addr = o.a := accF_addr l o.a
      obtain ⟨_, h1, h2, h3, h4⟩ := putS_done (x := setB (accF l o.a).1 ((accF l o.a).1.bal - o.n)) h hl ⟨(hl.acc hok.2.1).1, by show (accF l o.a).1.bal - o.n < M256; omega, (hl.acc hok.2.1).2.2⟩ (by rw [hA]; exact ha) (fun _ _ => bal_right _ (h.right ha)) (by rw [hA]; exact e)
      rw [hA, setB_bal] at h4
      simp only [hA] at h3
      exact ⟨h, h1, h2, fun b hb => by
        unfold tchB at hb
        rw [if_neg k0, if_neg k2] at hb
        rw [h3 b, if_neg (of_decide_eq_false hb)], fun hx => absurd (hk.symm.trans hx) (by decide), fun hx => absurd (hk.symm.trans hx) (by decide), fun hx => absurd (hk.symm.trans hx) (by decide), fun hx => absurd (hk.symm.trans hx) (by decide), fun _ => by omega⟩
    · rw [if_neg hn] at e; cases e
end Go.Proofs.Yteidmoilldheeaa
