/- AccessNews: of whatever addresses a new access is as the document says; the order of spots. -/
import Derived.Test.YtjampleddeidaaaQAec
import Derived.Test.YtjampleddeidaaaQAei
import Derived.Test.YtjampleddeidaaaQAer
import Derived.Test.YtjampleddeidaaaQAds
namespace Go.Proofs.Ytjampleddeidaaa
open Go.ChangeShapes Go.WideShapes Go.ChangeAt Go.RowKit Go.Shelf

set_option maxRecDepth 100000 in
theorem refSortedX_any (v : Value) (l : List Pe) (w : World) (hs : XA w v l) (hl : l.length ≤ 1000000) : Calls Try.prog 41 #[v] w fun e w' => ∃ v', e = .returned v' ∧ OwnA w' w.heap.size v' (srX l) ∧ Ext w w' := by
  refine (refSorted_any v (l.map adI) w hs.az (by rw [List.length_map]; exact hl)).mono ?_
  rintro e w' ⟨v', r, rfl, hr, ho, he⟩
  have hr2 := hr.unique (srX_SR hs.oks2)
  subst hr2
  refine ⟨v', rfl, ⟨?_, fun p hp => hs.oks2 p ((mem_srX hs.oks2 p).1 hp)⟩, he⟩
  have := ho
  unfold AzO at this
  rw [List.length_map, ← fA_az] at this
  exact this
set_option maxRecDepth 100000 in
theorem eqS_codS {p q : Pe} (hk : p.key < M256) (hj : q.key < M256) : p.eqS q = decide (p.cod = q.cod) := by
  by_cases h : p.cod = q.cod
  · obtain ⟨h1, h2⟩ := cdN_inj hk hj (show cdN p.addr p.key = cdN q.addr q.key from h)
    rw [decide_eq_true h]
    unfold Pe.eqS
    rw [h1, h2, beq_self_eq_true, beq_self_eq_true, Bool.and_true]
  · rw [decide_eq_false h]
    cases he : p.eqS q with
    | false => rfl
    | true =>
      unfold Pe.eqS at he
      rw [Bool.and_eq_true, beq_iff_eq, beq_iff_eq] at he
      exact absurd (show cdN p.addr p.key = cdN q.addr q.key by rw [he.1, he.2]) h
end Go.Proofs.Ytjampleddeidaaa
