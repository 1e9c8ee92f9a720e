/- Package access: what deeds come to, by mathematics. -/
import Derived.Test.YtjampleddeidaaaAea
namespace Go.Proofs.Ytjampleddeidaaa
open Go.RowKit

/-- What is put under a number, or taken away from under it. -/
def OpM (c : Nat) (o : Option Pe) (l m : List Pe) : Prop := (∀ p, o = some p → p.cod = c) ∧ RiseX m ∧ ∀ q, q ∈ m ↔ o = some q ∨ (q ∈ l ∧ q.cod ≠ c)
theorem opM_pl {l : List Pe} (hr : RiseX l) (p : Pe) : OpM p.cod (some p) l (plX l p) :=
  ⟨fun q e => by injection e with e; rw [e], plX_rise hr p, fun q => by
    rw [mem_plX]
    exact ⟨fun h => h.elim (fun e => .inl (by rw [e])) .inr, fun h => h.elim (fun e => .inl (by injection e with e; exact e.symm)) .inr⟩⟩
theorem mem_dlX {l : List Pe} {c : Nat} {q : Pe} : q ∈ dlX l c ↔ q ∈ l ∧ q.cod ≠ c := by
  unfold dlX
  rw [List.mem_filter, decide_eq_true_eq]
theorem dlX_rise {l : List Pe} (hr : RiseX l) (c : Nat) : RiseX (dlX l c) := (riseX_iff _).2 (((riseX_iff l).1 hr).filter _)
theorem dlX_length (l : List Pe) (c : Nat) : (dlX l c).length ≤ l.length := List.length_filter_le _ _
theorem opM_dl {l : List Pe} (hr : RiseX l) (c : Nat) : OpM c none l (dlX l c) :=
  ⟨fun _ e => (by cases e), dlX_rise hr c, fun q => by
    rw [mem_dlX]
    exact ⟨.inr, fun h => h.elim (fun e => (by cases e)) id⟩⟩
theorem opM_turn {l m1 m2 y z : List Pe} {c1 c2 : Nat} {o1 o2 : Option Pe} (h1 : OpM c1 o1 l m1) (h2 : OpM c2 o2 m1 y) (h3 : OpM c2 o2 l m2) (h4 : OpM c1 o1 m2 z) (hc : c1 = c2 → o1 = o2) : y = z := by
  refine rise_same h2.2.1 h4.2.1 fun q => ?_
  rw [h2.2.2, h4.2.2, h1.2.2, h3.2.2]
  by_cases e : c1 = c2
  · have := hc e
    subst e this
    constructor
    · rintro (h | ⟨h | h, _⟩)
      · exact .inl h
      · exact .inl h
      · exact .inr ⟨.inr h, h.2⟩
    · rintro (h | ⟨h | h, _⟩)
      · exact .inl h
      · exact .inl h
      · exact .inr ⟨.inr h, h.2⟩
  · constructor
    · rintro (h | ⟨h | ⟨h, h'⟩, h''⟩)
      · exact .inr ⟨.inl h, fun e' => e (e'.symm.trans (h3.1 q h))⟩
      · exact .inl h
      · exact .inr ⟨.inr ⟨h, h''⟩, h'⟩
    · rintro (h | ⟨h | ⟨h, h'⟩, h''⟩)
      · exact .inr ⟨.inl h, fun e' => e ((h1.1 q h).symm.trans e')⟩
      · exact .inl h
      · exact .inr ⟨.inr ⟨h, h''⟩, h'⟩
theorem ptL_op {l : List Pe} (h : rsB l = true) {p : Pe} (he : ptE l p = 0) : OpM p.cod (some p) l (ptL l p) := by
  unfold ptL
  rw [if_pos he]
  exact opM_pl (rs_iff.1 h).2 p
/-- What is put into the slots. -/
def De.o (d : De) : Option Pe := if d.p.val = 0 then none else some d.p
theorem kpL_op {l : List Pe} (h : rsB l = true) {d : De} (he : kpE l d.q d.p.val = 0) : OpM d.q.cod d.o l (kpL l d.q d.p.val) := by
  unfold kpL De.o
  unfold kpE at he
  split
  · exact opM_dl (rs_iff.1 h).2 _
  · rename_i hv
    rw [if_neg hv] at he
    exact ptL_op h he
theorem chg_ok {x : Ax} {b : Bool} {er : Int} {y : Ax} (h : (chg x b er y).2.2 = 0) : rightX x = true ∧ er = 0 ∧ chg x b er y = (y, b, 0) := by
  unfold chg at h ⊢
  cases hr : rightX x with
  | false => rw [hr] at h; simp at h
  | true =>
    rw [hr] at h
    by_cases he : er = 0
    · simp [he]
    · simp [he] at h
/-- What a deed that is done comes to. -/
def Dn (x : Ax) (d : De) (y : Ax) : Prop := (kdE d = 0 ∧ ∃ m, y = { x with a := m } ∧ OpM d.ta.cod (some d.ta) x.a m) ∨ (kdE d = 1 ∧ ∃ m, y = { x with s := m } ∧ OpM d.q.cod (some d.q) x.s m) ∨ (kdE d = 2 ∧ ∃ m, y = { x with p := m } ∧ OpM d.q.cod d.o x.p m)
theorem do_done {x : Ax} {d : De} (h : (doX x d).2.2 = 0) : rightX x = true ∧ Dn x d (doX x d).1 := by
  unfold doX at h ⊢
  rcases kdE_cases d with hk | hk | hk
  · rw [if_pos hk] at h ⊢
    obtain ⟨h1, h2, h3⟩ := chg_ok h
    refine ⟨h1, .inl ⟨hk, _, by unfold touchX; rw [h3], ptL_op (rightX_facts h1).1 h2⟩⟩
  · have hn : ¬ kdE d = 0 := by rw [hk]; decide
    rw [if_neg hn, if_pos hk] at h ⊢
    obtain ⟨h1, h2, h3⟩ := chg_ok h
    refine ⟨h1, .inr (.inl ⟨hk, _, by unfold reachX; rw [h3], ptL_op (rightX_facts h1).2.1 h2⟩)⟩
  · have hn : ¬ kdE d = 0 := by rw [hk]; decide
    have hn1 : ¬ kdE d = 1 := by rw [hk]; decide
    rw [if_neg hn, if_neg hn1] at h ⊢
    obtain ⟨h1, h2, h3⟩ := chg_ok h
    refine ⟨h1, .inr (.inr ⟨hk, _, by show (keepX x d.q d.p.val).1 = _; unfold keepX; rw [h3], kpL_op (rightX_facts h1).2.2.1 h2⟩)⟩
theorem cod_ta {a b : De} (h : a.ta.cod = b.ta.cod) : a.ta = b.ta := by
  obtain ⟨h1, _⟩ := cdN_inj (by decide) (by decide) (show cdN a.p.addr 0 = cdN b.p.addr 0 from h)
  unfold De.ta
  rw [h1]
theorem cod_q {a b : De} (ha : a.ok) (hb : b.ok) (h : a.q.cod = b.q.cod) : a.q = b.q := by
  obtain ⟨h1, h2⟩ := cdN_inj ha.2.2.1 hb.2.2.1 (show cdN a.p.addr a.p.key = cdN b.p.addr b.p.key from h)
  unfold De.q
  rw [h1, h2]
theorem opM_same {l m n : List Pe} {c : Nat} {o : Option Pe} (h : OpM c o l m) (k : OpM c o l n) : m = n := rise_same h.2.1 k.2.1 fun q => by rw [h.2.2, k.2.2]
theorem done_turn {x m n y z : Ax} {a b : De} (ha : a.ok) (hb : b.ok) (h1 : Dn x a m) (h2 : Dn m b y) (h3 : Dn x b n) (h4 : Dn n a z) (hs : kdE a = 2 → kdE b = 2 → a.q ≠ b.q) : y = z := by
  rcases h1 with ⟨k1, m1, rfl, o1⟩ | ⟨k1, m1, rfl, o1⟩ | ⟨k1, m1, rfl, o1⟩ <;>
  rcases h3 with ⟨k3, m3, rfl, o3⟩ | ⟨k3, m3, rfl, o3⟩ | ⟨k3, m3, rfl, o3⟩ <;>
  rcases h2 with ⟨k2, m2, rfl, o2⟩ | ⟨k2, m2, rfl, o2⟩ | ⟨k2, m2, rfl, o2⟩ <;>
  (try (exfalso; omega)) <;>
  rcases h4 with ⟨k4, m4, rfl, o4⟩ | ⟨k4, m4, rfl, o4⟩ | ⟨k4, m4, rfl, o4⟩ <;>
  (try (exfalso; omega))
  · have e := opM_turn o1 o2 o3 o4 (fun e => by rw [cod_ta e])
    subst e
    rfl
  · have e1 := opM_same o1 o4
    have e2 := opM_same o2 o3
    subst e1 e2
    rfl
  · have e1 := opM_same o1 o4
    have e2 := opM_same o2 o3
    subst e1 e2
    rfl
  · have e1 := opM_same o1 o4
    have e2 := opM_same o2 o3
    subst e1 e2
    rfl
  · have e := opM_turn o1 o2 o3 o4 (fun e => by rw [cod_q ha hb e])
    subst e
    rfl
  · have e1 := opM_same o1 o4
    have e2 := opM_same o2 o3
    subst e1 e2
    rfl
  · have e1 := opM_same o1 o4
    have e2 := opM_same o2 o3
    subst e1 e2
    rfl
  · have e1 := opM_same o1 o4
    have e2 := opM_same o2 o3
    subst e1 e2
    rfl
  · have e := opM_turn o1 o2 o3 o4 (fun e => absurd (cod_q ha hb e) (hs k1 k3))
    subst e
    rfl
end Go.Proofs.Ytjampleddeidaaa
