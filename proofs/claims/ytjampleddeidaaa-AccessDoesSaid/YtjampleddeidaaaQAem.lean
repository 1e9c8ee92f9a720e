/- Package access: what deeds come to, by mathematics. Package access: what deeds leave, by mathematics. -/
import Derived.Test.YtjampleddeidaaaQAea
namespace Go.Proofs.Ytjampleddeidaaa
open Go.RowKit

def OpM (c : Nat) (o : Option Pe) (l m : List Pe) : Prop := (∀ p, o = some p → p.cod = c) ∧ RiseX m ∧ ∀ q, q ∈ m ↔ o = some q ∨ (q ∈ l ∧ q.cod ≠ c)
theorem opM_pl {l : List Pe} (hr : RiseX l) (p : Pe) : OpM p.cod (some p) l (plX l p) :=
  ⟨fun q e => by injection e with e; rw [e], plX_rise hr p, fun q => by
    rw [mem_plX]
    exact ⟨fun h => h.elim (fun e => .inl (by rw [e])) .inr, fun h => h.elim (fun e => .inl (by injection e with e; exact e.symm)) .inr⟩⟩
theorem mem_dlX {l : List Pe} {c : Nat} {q : Pe} : q ∈ dlX l c ↔ q ∈ l ∧ q.cod ≠ c := by
  unfold dlX
  rw [List.mem_filter, decide_eq_true_eq]
theorem dlX_rise {l : List Pe} (hr : RiseX l) (c : Nat) : RiseX (dlX l c) := (riseX_iff _).2 (((riseX_iff l).1 hr).filter _)
theorem dlX_length (l : List Pe) (c : Nat) : (dlX l c).length ≤ l.length := List.length_filter_le _ _
theorem opM_dl {l : List Pe} (hr : RiseX l) (c : Nat) : OpM c none l (dlX l c) :=
  ⟨fun _ e => (by cases e), dlX_rise hr c, fun q => by
    rw [mem_dlX]
    exact ⟨.inr, fun h => h.elim (fun e => (by cases e)) id⟩⟩
theorem ptL_op {l : List Pe} (h : rsB l = true) {p : Pe} (he : ptE l p = 0) : OpM p.cod (some p) l (ptL l p) := by
  unfold ptL
  rw [if_pos he]
  exact opM_pl (rs_iff.1 h).2 p
def De.o (d : De) : Option Pe := if d.p.val = 0 then none else some d.p
theorem kpL_op {l : List Pe} (h : rsB l = true) {d : De} (he : kpE l d.q d.p.val = 0) : OpM d.q.cod d.o l (kpL l d.q d.p.val) := by
  unfold kpL De.o
  unfold kpE at he
  split
  · exact opM_dl (rs_iff.1 h).2 _
  · rename_i hv
    rw [if_neg hv] at he
    exact ptL_op h he
theorem chg_ok {x : Ax} {b : Bool} {er : Int} {y : Ax} (h : (chg x b er y).2.2 = 0) : rightX x = true ∧ er = 0 ∧ chg x b er y = (y, b, 0) := by
  unfold chg at h ⊢
  cases hr : rightX x with
  | false => rw [hr] at h; simp at h
  | true =>
    rw [hr] at h
    by_cases he : er = 0
    · simp [he]
    · simp [he] at h
end Go.Proofs.Ytjampleddeidaaa
namespace Go.Proofs.Ytjampleddeidaaa
open Go.RowKit

theorem nz_iff {l : List Pe} : nzB l = true ↔ ∀ p ∈ l, p.val ≠ 0 := by
  unfold nzB
  rw [List.all_eq_true]
  exact ⟨fun h p hp => of_decide_eq_true (h p hp), fun h p hp => decide_eq_true (h p hp)⟩
theorem kpL_right {l : List Pe} {d : De} (h : rsB l = true) (hz : nzB l = true) (he : kpE l d.q d.p.val = 0) : rsB (kpL l d.q d.p.val) = true ∧ nzB (kpL l d.q d.p.val) = true := by
  have ho := kpL_op h he
  refine ⟨?_, nz_iff.2 fun p hp => ?_⟩
  · unfold kpL
    split
    · exact rs_iff.2 ⟨Nat.le_trans (dlX_length l _) (rs_iff.1 h).1, dlX_rise (rs_iff.1 h).2 _⟩
    · exact ptL_may h _
  · rcases (ho.2.2 p).1 hp with h1 | h1
    · unfold De.o at h1
      split at h1
      · cases h1
      · rename_i hv
        injection h1 with h1
        rw [← h1]
        exact hv
    · exact nz_iff.1 hz p h1.1
theorem rightX_of {x : Ax} (h1 : rsB x.a = true) (h2 : rsB x.s = true) (h3 : rsB x.p = true) (h4 : nzB x.p = true) : rightX x = true := by
  unfold rightX
  rw [h1, h2, h3, h4]
  rfl
theorem do_right {x : Ax} {d : De} (h : (doX x d).2.2 = 0) : rightX (doX x d).1 = true := by
  unfold doX at h ⊢
  rcases kdE_cases d with hk | hk | hk
  · rw [if_pos hk] at h ⊢
    obtain ⟨h1, h2, h3⟩ := chg_ok h
    obtain ⟨f1, f2, f3, f4⟩ := rightX_facts h1
    unfold touchX
    rw [h3]
    exact rightX_of (ptL_may f1 _) f2 f3 f4
  · have hn : ¬ kdE d = 0 := by rw [hk]; decide
    rw [if_neg hn, if_pos hk] at h ⊢
    obtain ⟨h1, h2, h3⟩ := chg_ok h
    obtain ⟨f1, f2, f3, f4⟩ := rightX_facts h1
    unfold reachX
    rw [h3]
    exact rightX_of f1 (ptL_may f2 _) f3 f4
  · have hn : ¬ kdE d = 0 := by rw [hk]; decide
    have hn1 : ¬ kdE d = 1 := by rw [hk]; decide
    rw [if_neg hn, if_neg hn1] at h ⊢
    obtain ⟨h1, h2, h3⟩ := chg_ok h
    obtain ⟨f1, f2, f3, f4⟩ := rightX_facts h1
    show rightX (keepX x d.q d.p.val).1 = true
    unfold keepX
    rw [h3]
    have := kpL_right f3 f4 h2
    exact rightX_of f1 f2 this.1 this.2
end Go.Proofs.Ytjampleddeidaaa
