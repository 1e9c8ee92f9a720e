/- Package access: what deeds come to, by mathematics. Package access: what deeds leave, by mathematics. -/
import Derived.Test.YtjampleddeidaaaAea
namespace Go.Proofs.Ytjampleddeidaaa
open Go.RowKit

/-- What is put under a number, or taken away from under it. -/
def OpM (c : Nat) (o : Option Pe) (l m : List Pe) : Prop := (∀ p, o = some p → p.cod = c) ∧ RiseX m ∧ ∀ q, q ∈ m ↔ o = some q ∨ (q ∈ l ∧ q.cod ≠ c)
theorem opM_pl {l : List Pe} (hr : RiseX l) (p : Pe) : OpM p.cod (some p) l (plX l p) :=
  ⟨fun q e => by injection e with e; rw [e], plX_rise hr p, fun q => by
    rw [mem_plX]
    exact ⟨fun h => h.elim (fun e => .inl (by rw [e])) .inr, fun h => h.elim (fun e => .inl (by injection e with e; exact e.symm)) .inr⟩⟩
theorem mem_dlX {l : List Pe} {c : Nat} {q : Pe} : q ∈ dlX l c ↔ q ∈ l ∧ q.cod ≠ c := by
  unfold dlX
  rw [List.mem_filter, decide_eq_true_eq]
theorem dlX_rise {l : List Pe} (hr : RiseX l) (c : Nat) : RiseX (dlX l c) := (riseX_iff _).2 (((riseX_iff l).1 hr).filter _)
theorem dlX_length (l : List Pe) (c : Nat) : (dlX l c).length ≤ l.length := List.length_filter_le _ _
theorem opM_dl {l : List Pe} (hr : RiseX l) (c : Nat) : OpM c none l (dlX l c) :=
  ⟨fun _ e => (by cases e), dlX_rise hr c, fun q => by
    rw [mem_dlX]
    exact ⟨.inr, fun h => h.elim (fun e => (by cases e)) id⟩⟩
theorem opM_turn {l m1 m2 y z : List Pe} {c1 c2 : Nat} {o1 o2 : Option Pe} (h1 : OpM c1 o1 l m1) (h2 : OpM c2 o2 m1 y) (h3 : OpM c2 o2 l m2) (h4 : OpM c1 o1 m2 z) (hc : c1 = c2 → o1 = o2) : y = z := by
  refine rise_same h2.2.1 h4.2.1 fun q => ?_
  rw [h2.2.2, h4.2.2, h1.2.2, h3.2.2]
  by_cases e : c1 = c2
  · have := hc e
    subst e this
    constructor
    · rintro (h | ⟨h | h, _⟩)
      · exact .inl h
      · exact .inl h
      · exact .inr ⟨.inr h, h.2⟩
    · rintro (h | ⟨h | h, _⟩)
      · exact .inl h
      · exact .inl h
      · exact .inr ⟨.inr h, h.2⟩
  · constructor
    · rintro (h | ⟨h | ⟨h, h'⟩, h''⟩)
      · exact .inr ⟨.inl h, fun e' => e (e'.symm.trans (h3.1 q h))⟩
      · exact .inl h
      · exact .inr ⟨.inr ⟨h, h''⟩, h'⟩
    · rintro (h | ⟨h | ⟨h, h'⟩, h''⟩)
      · exact .inr ⟨.inl h, fun e' => e ((h1.1 q h).symm.trans e')⟩
      · exact .inl h
      · exact .inr ⟨.inr ⟨h, h''⟩, h'⟩
theorem ptL_op {l : List Pe} (h : rsB l = true) {p : Pe} (he : ptE l p = 0) : OpM p.cod (some p) l (ptL l p) := by
  unfold ptL
  rw [if_pos he]
  exact opM_pl (rs_iff.1 h).2 p
/-- What is put into the slots. -/
def De.o (d : De) : Option Pe := if d.p.val = 0 then none else some d.p
theorem kpL_op {l : List Pe} (h : rsB l = true) {d : De} (he : kpE l d.q d.p.val = 0) : OpM d.q.cod d.o l (kpL l d.q d.p.val) := by
  unfold kpL De.o
  unfold kpE at he
  split
  · exact opM_dl (rs_iff.1 h).2 _
  · rename_i hv
    rw [if_neg hv] at he
    exact ptL_op h he
theorem chg_ok {x : Ax} {b : Bool} {er : Int} {y : Ax} (h : (chg x b er y).2.2 = 0) : rightX x = true ∧ er = 0 ∧ chg x b er y = (y, b, 0) := by
  unfold chg at h ⊢
  cases hr : rightX x with
  | false => rw [hr] at h; simp at h
  | true =>
    rw [hr] at h
    by_cases he : er = 0
    · simp [he]
    · simp [he] at h
/-- What a deed that is done comes to. -/
def Dn (x : Ax) (d : De) (y : Ax) : Prop := (kdE d = 0 ∧ ∃ m, y = { x with a := m } ∧ OpM d.ta.cod (some d.ta) x.a m) ∨ (kdE d = 1 ∧ ∃ m, y = { x with s := m } ∧ OpM d.q.cod (some d.q) x.s m) ∨ (kdE d = 2 ∧ ∃ m, y = { x with p := m } ∧ OpM d.q.cod d.o x.p m)
theorem do_done {x : Ax} {d : De} (h : (doX x d).2.2 = 0) : rightX x = true ∧ Dn x d (doX x d).1 := by
  unfold doX at h ⊢
  rcases kdE_cases d with hk | hk | hk
  · rw [if_pos hk] at h ⊢
    obtain ⟨h1, h2, h3⟩ := chg_ok h
    refine ⟨h1, .inl ⟨hk, _, by unfold touchX; rw [h3], ptL_op (rightX_facts h1).1 h2⟩⟩
  · have hn : ¬ kdE d = 0 := by rw [hk]; decide
    rw [if_neg hn, if_pos hk] at h ⊢
    obtain ⟨h1, h2, h3⟩ := chg_ok h
    refine ⟨h1, .inr (.inl ⟨hk, _, by unfold reachX; rw [h3], ptL_op (rightX_facts h1).2.1 h2⟩)⟩
  · have hn : ¬ kdE d = 0 := by rw [hk]; decide
    have hn1 : ¬ kdE d = 1 := by rw [hk]; decide
    rw [if_neg hn, if_neg hn1] at h ⊢
    obtain ⟨h1, h2, h3⟩ := chg_ok h
    refine ⟨h1, .inr (.inr ⟨hk, _, by show (keepX x d.q d.p.val).1 = _; unfold keepX; rw [h3], kpL_op (rightX_facts h1).2.2.1 h2⟩)⟩
theorem cod_ta {a b : De} (h : a.ta.cod = b.ta.cod) : a.ta = b.ta := by
  obtain ⟨h1, _⟩ := cdN_inj (by decide) (by decide) (show cdN a.p.addr 0 = cdN b.p.addr 0 from h)
  unfold De.ta
  rw [h1]
theorem cod_q {a b : De} (ha : a.ok) (hb : b.ok) (h : a.q.cod = b.q.cod) : a.q = b.q := by
  obtain ⟨h1, h2⟩ := cdN_inj ha.2.2.1 hb.2.2.1 (show cdN a.p.addr a.p.key = cdN b.p.addr b.p.key from h)
  unfold De.q
  rw [h1, h2]
theorem opM_same {l m n : List Pe} {c : Nat} {o : Option Pe} (h : OpM c o l m) (k : OpM c o l n) : m = n := rise_same h.2.1 k.2.1 fun q => by rw [h.2.2, k.2.2]
theorem done_turn {x m n y z : Ax} {a b : De} (ha : a.ok) (hb : b.ok) (h1 : Dn x a m) (h2 : Dn m b y) (h3 : Dn x b n) (h4 : Dn n a z) (hs : kdE a = 2 → kdE b = 2 → a.q ≠ b.q) : y = z := by
  rcases h1 with ⟨k1, m1, rfl, o1⟩ | ⟨k1, m1, rfl, o1⟩ | ⟨k1, m1, rfl, o1⟩ <;>
  rcases h3 with ⟨k3, m3, rfl, o3⟩ | ⟨k3, m3, rfl, o3⟩ | ⟨k3, m3, rfl, o3⟩ <;>
  rcases h2 with ⟨k2, m2, rfl, o2⟩ | ⟨k2, m2, rfl, o2⟩ | ⟨k2, m2, rfl, o2⟩ <;>
  (try (exfalso; omega)) <;>
  rcases h4 with ⟨k4, m4, rfl, o4⟩ | ⟨k4, m4, rfl, o4⟩ | ⟨k4, m4, rfl, o4⟩ <;>
  (try (exfalso; omega))
  · have e := opM_turn o1 o2 o3 o4 (fun e => by rw [cod_ta e])
    subst e
    rfl
  · have e1 := opM_same o1 o4
    have e2 := opM_same o2 o3
    subst e1 e2
    rfl
  · have e1 := opM_same o1 o4
    have e2 := opM_same o2 o3
    subst e1 e2
    rfl
  · have e1 := opM_same o1 o4
    have e2 := opM_same o2 o3
    subst e1 e2
    rfl
  · have e := opM_turn o1 o2 o3 o4 (fun e => by rw [cod_q ha hb e])
    subst e
    rfl
  · have e1 := opM_same o1 o4
    have e2 := opM_same o2 o3
    subst e1 e2
    rfl
  · have e1 := opM_same o1 o4
    have e2 := opM_same o2 o3
    subst e1 e2
    rfl
  · have e1 := opM_same o1 o4
    have e2 := opM_same o2 o3
    subst e1 e2
    rfl
  · have e := opM_turn o1 o2 o3 o4 (fun e => absurd (cod_q ha hb e) (hs k1 k3))
    subst e
    rfl
end Go.Proofs.Ytjampleddeidaaa
namespace Go.Proofs.Ytjampleddeidaaa
open Go.RowKit

theorem rise_uniq {l : List Pe} (hr : RiseX l) {p q : Pe} (hp : p ∈ l) (hq : q ∈ l) (h : p.cod = q.cod) : p = q := by
  obtain ⟨i, hi, rfl⟩ := memX_get hp
  obtain ⟨j, hj, rfl⟩ := memX_get hq
  rcases Nat.lt_trichotomy i j with hlt | rfl | hlt
  · have := hr i j hlt hj
    omega
  · rfl
  · have := hr j i hlt hi
    omega
theorem plX_self {l : List Pe} (hr : RiseX l) {p : Pe} (hp : p ∈ l) : plX l p = l := by
  refine rise_same (plX_rise hr p) hr fun q => ?_
  rw [mem_plX]
  constructor
  · rintro (rfl | h)
    · exact hp
    · exact h.1
  · intro h
    by_cases e : q.cod = p.cod
    · exact .inl (rise_uniq hr h hp e)
    · exact .inr ⟨h, e⟩
theorem load_mem {x : Ax} (hr : rightX x = true) {p q : Pe} (hp : p ∈ x.p) (h : p.cod = q.cod) : loadX x q = p.val := by
  have hri := (rs_iff.1 (rightX_facts hr).2.2.1).2
  obtain ⟨i, hi, rfl⟩ := memX_get hp
  have hh : hasX x.p q.cod = true := (hasX_iff hri).2 ⟨_, hp, h⟩
  unfold loadX
  rw [hr, hh, Bool.and_true, if_pos rfl, ← h, posX_at hri hi]
theorem load_no {x : Ax} (hr : rightX x = true) {q : Pe} (h : ∀ p ∈ x.p, p.cod ≠ q.cod) : loadX x q = 0 := by
  have hri := (rs_iff.1 (rightX_facts hr).2.2.1).2
  have hh : hasX x.p q.cod = false := by
    cases hh : hasX x.p q.cod with
    | false => rfl
    | true =>
      obtain ⟨p, hp, e⟩ := (hasX_iff hri).1 hh
      exact absurd e (h p hp)
  unfold loadX
  rw [hr, hh, Bool.and_false, if_neg Bool.false_ne_true]
theorem load_row {x y : Ax} (hx : rightX x = true) (hy : rightX y = true) (h : y.p = x.p) (q : Pe) : loadX y q = loadX x q := by
  unfold loadX
  rw [hx, hy, h]
theorem nz_iff {l : List Pe} : nzB l = true ↔ ∀ p ∈ l, p.val ≠ 0 := by
  unfold nzB
  rw [List.all_eq_true]
  exact ⟨fun h p hp => of_decide_eq_true (h p hp), fun h p hp => decide_eq_true (h p hp)⟩
theorem kpL_right {l : List Pe} {d : De} (h : rsB l = true) (hz : nzB l = true) (he : kpE l d.q d.p.val = 0) : rsB (kpL l d.q d.p.val) = true ∧ nzB (kpL l d.q d.p.val) = true := by
  have ho := kpL_op h he
  refine ⟨?_, nz_iff.2 fun p hp => ?_⟩
  · unfold kpL
    split
    · exact rs_iff.2 ⟨Nat.le_trans (dlX_length l _) (rs_iff.1 h).1, dlX_rise (rs_iff.1 h).2 _⟩
    · exact ptL_may h _
  · rcases (ho.2.2 p).1 hp with h1 | h1
    · unfold De.o at h1
      split at h1
      · cases h1
      · rename_i hv
        injection h1 with h1
        rw [← h1]
        exact hv
    · exact nz_iff.1 hz p h1.1
theorem rightX_of {x : Ax} (h1 : rsB x.a = true) (h2 : rsB x.s = true) (h3 : rsB x.p = true) (h4 : nzB x.p = true) : rightX x = true := by
  unfold rightX
  rw [h1, h2, h3, h4]
  rfl
/-- What is done may be again. -/
theorem do_right {x : Ax} {d : De} (h : (doX x d).2.2 = 0) : rightX (doX x d).1 = true := by
  unfold doX at h ⊢
  rcases kdE_cases d with hk | hk | hk
  · rw [if_pos hk] at h ⊢
    obtain ⟨h1, h2, h3⟩ := chg_ok h
    obtain ⟨f1, f2, f3, f4⟩ := rightX_facts h1
    unfold touchX
    rw [h3]
    exact rightX_of (ptL_may f1 _) f2 f3 f4
  · have hn : ¬ kdE d = 0 := by rw [hk]; decide
    rw [if_neg hn, if_pos hk] at h ⊢
    obtain ⟨h1, h2, h3⟩ := chg_ok h
    obtain ⟨f1, f2, f3, f4⟩ := rightX_facts h1
    unfold reachX
    rw [h3]
    exact rightX_of f1 (ptL_may f2 _) f3 f4
  · have hn : ¬ kdE d = 0 := by rw [hk]; decide
    have hn1 : ¬ kdE d = 1 := by rw [hk]; decide
    rw [if_neg hn, if_neg hn1] at h ⊢
    obtain ⟨h1, h2, h3⟩ := chg_ok h
    obtain ⟨f1, f2, f3, f4⟩ := rightX_facts h1
    show rightX (keepX x d.q d.p.val).1 = true
    unfold keepX
    rw [h3]
    have := kpL_right f3 f4 h2
    exact rightX_of f1 f2 this.1 this.2
theorem has_op {l m : List Pe} {c : Nat} {p : Pe} (hr : RiseX l) (ho : OpM c (some p) l m) {k : Nat} (h : hasX l k = true) : hasX m k = true := by
  obtain ⟨q, hq, e⟩ := (hasX_iff hr).1 h
  by_cases e2 : q.cod = c
  · exact (hasX_iff ho.2.1).2 ⟨p, (ho.2.2 p).2 (.inl rfl), by rw [ho.1 p rfl, ← e2, e]⟩
  · exact (hasX_iff ho.2.1).2 ⟨q, (ho.2.2 q).2 (.inr ⟨hq, e2⟩), e⟩
/-- What is warm stays warm. -/
theorem do_warm {x : Ax} {d : De} (h : (doX x d).2.2 = 0) {q : Pe} (hw : warmX x q = true) : warmX (doX x d).1 q = true := by
  have hr := do_right h
  obtain ⟨hx, hd⟩ := do_done h
  unfold warmX at hw ⊢
  rw [hr, Bool.true_and]
  rw [hx, Bool.true_and] at hw
  rcases hd with ⟨_, m, e, ho⟩ | ⟨_, m, e, ho⟩ | ⟨_, m, e, ho⟩
  · rw [e]
    exact has_op (rs_iff.1 (rightX_facts hx).1).2 ho hw
  · rw [e]
    exact hw
  · rw [e]
    exact hw
theorem do_spots {x : Ax} {d : De} (hd : d.ok) (hs : ∀ p ∈ x.s, okS p) (h : (doX x d).2.2 = 0) {y : Pe} (hy : y ∈ x.s) : y ∈ (doX x d).1.s := by
  obtain ⟨hx, hd'⟩ := do_done h
  rcases hd' with ⟨_, m, e, ho⟩ | ⟨_, m, e, ho⟩ | ⟨_, m, e, ho⟩
  · rw [e]
    exact hy
  · rw [e]
    show y ∈ m
    by_cases e2 : y.cod = d.q.cod
    · have hyo := hs y hy
      obtain ⟨h1, h2⟩ := cdN_inj hyo.2.1 hd.2.2.1 (show cdN y.addr y.key = cdN d.p.addr d.p.key from e2)
      have h3 := hyo.2.2
      have : y = d.q := by
        obtain ⟨a, k, v⟩ := y
        simp only at h1 h2 h3
        unfold De.q
        rw [h1, h2, h3]
      rw [this]
      exact (ho.2.2 _).2 (.inl rfl)
    · exact (ho.2.2 _).2 (.inr ⟨hy, e2⟩)
  · rw [e]
    exact hy
theorem pt_again {l : List Pe} {p : Pe} (hr : RiseX l) (hp : p ∈ l) : ptE l p = 0 ∧ ptB l p = false ∧ ptL l p = l := by
  have hh : hasX l p.cod = true := (hasX_iff hr).2 ⟨p, hp, rfl⟩
  have he : ptE l p = 0 := by unfold ptE; rw [if_neg (fun h => by rw [hh] at h; cases h.1)]
  refine ⟨he, ?_, ?_⟩
  · unfold ptB
    rw [if_pos he, hh]
    rfl
  · unfold ptL
    rw [if_pos he, plX_self hr hp]
/-- Touched twice it is cold but once. -/
theorem do_again {x : Ax} {d : De} (h : (doX x d).2.2 = 0) (hk : ¬ kdE d = 2) : doX (doX x d).1 d = ((doX x d).1, false, 0) := by
  have hr := do_right h
  obtain ⟨hx, hd⟩ := do_done h
  rcases hd with ⟨k, m, e, ho⟩ | ⟨k, m, e, ho⟩ | ⟨k, _⟩
  · generalize doX x d = r at *
    obtain ⟨h1, h2, h3⟩ := pt_again ho.2.1 ((ho.2.2 _).2 (.inl rfl))
    unfold doX
    rw [if_pos k]
    unfold touchX chg
    rw [if_pos hr, e]
    show (if ptE m d.ta = 0 then ((⟨ptL m d.ta, x.s, x.p⟩ : Ax), ptB m d.ta, (0 : Int)) else _) = _
    rw [if_pos h1, h2, h3]
  · generalize doX x d = r at *
    obtain ⟨h1, h2, h3⟩ := pt_again ho.2.1 ((ho.2.2 _).2 (.inl rfl))
    unfold doX
    rw [if_neg (by rw [k]; decide), if_pos k]
    unfold reachX chg
    rw [if_pos hr, e]
    show (if ptE m d.q = 0 then ((⟨x.a, ptL m d.q, x.p⟩ : Ax), ptB m d.q, (0 : Int)) else _) = _
    rw [if_pos h1, h2, h3]
  · exact absurd k hk
theorem do_load {x : Ax} {d : De} (h : (doX x d).2.2 = 0) (hk : ¬ kdE d = 2) (q : Pe) : loadX (doX x d).1 q = loadX x q := by
  have hr := do_right h
  obtain ⟨hx, hd⟩ := do_done h
  rcases hd with ⟨k, m, e, _⟩ | ⟨k, m, e, _⟩ | ⟨k, _⟩
  · exact load_row hx hr (by rw [e]) q
  · exact load_row hx hr (by rw [e]) q
  · exact absurd k hk
/-- What was kept last is held. -/
theorem do_kept {x : Ax} {d : De} (h : (doX x d).2.2 = 0) (hk : kdE d = 2) : loadX (doX x d).1 d.q = d.p.val := by
  have hr := do_right h
  obtain ⟨hx, hd⟩ := do_done h
  rcases hd with ⟨k, _⟩ | ⟨k, _⟩ | ⟨_, m, e, ho⟩
  · rw [hk] at k; exact absurd k (by decide)
  · rw [hk] at k; exact absurd k (by decide)
  · have hp : (doX x d).1.p = m := by rw [e]
    by_cases hv : d.p.val = 0
    · have hn : d.o = none := by unfold De.o; rw [if_pos hv]
      rw [load_no hr (fun p hp' => ?_), hv]
      rw [hp] at hp'
      rcases (ho.2.2 p).1 hp' with h1 | h1
      · rw [hn] at h1; cases h1
      · exact h1.2
    · have hn : d.o = some d.p := by unfold De.o; rw [if_neg hv]
      exact load_mem hr (p := d.p) (by rw [hp]; exact (ho.2.2 _).2 (.inl hn)) rfl
theorem do_others {x : Ax} {d : De} (h : (doX x d).2.2 = 0) (hk : kdE d = 2) {q : Pe} (hq : q.cod ≠ d.q.cod) : loadX (doX x d).1 q = loadX x q := by
  have hr := do_right h
  obtain ⟨hx, hd⟩ := do_done h
  rcases hd with ⟨k, _⟩ | ⟨k, _⟩ | ⟨_, m, e, ho⟩
  · rw [hk] at k; exact absurd k (by decide)
  · rw [hk] at k; exact absurd k (by decide)
  · have hp : (doX x d).1.p = m := by rw [e]
    by_cases hm : ∃ p ∈ x.p, p.cod = q.cod
    · obtain ⟨p, hpx, hc⟩ := hm
      rw [load_mem hx hpx hc]
      exact load_mem hr (p := p) (by rw [hp]; exact (ho.2.2 _).2 (.inr ⟨hpx, fun e' => hq (hc.symm.trans e')⟩)) hc
    · rw [load_no hx (fun p hpx hc => hm ⟨p, hpx, hc⟩)]
      refine load_no hr fun p hpm hc => ?_
      rw [hp] at hpm
      rcases (ho.2.2 p).1 hpm with h1 | h1
      · exact hq (hc.symm.trans (ho.1 p h1))
      · exact hm ⟨p, h1.1, hc⟩
theorem load_val {x : Ax} (hx : ∀ p ∈ x.p, okP p) (q : Pe) : loadX x q < M256 := by
  unfold loadX
  split
  · rename_i h
    rw [Bool.and_eq_true] at h
    exact (hx _ (getX_mem (hasX_lt h.2))).2.2
  · decide
end Go.Proofs.Ytjampleddeidaaa
