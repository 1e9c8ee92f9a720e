/- Own rows of which one address is written. -/
import Derived.Test.YtepggbhibpjkpaaLri
namespace Go.Proofs.Ytepggbhibpjkpaa
open Go.ChangeShapes Go.WideShapes Go.ChangeAt Go.RowKit Go.Shelf

theorem Ext.ext {a b c : World} (h : Ext a b) (k : Ext b c) : Ext a c := h.trans k
theorem hdf_cons (p : Hd) (l : List Hd) : hdf (p :: l) = (hdc p).toList ++ hdf l := by simp [hdf]
theorem hdf_set : ∀ (l : List Hd) (j x : Nat), j < l.length → (hdf l).set (j * 11) (.int .u64 (x : Nat)) = hdf (l.set j { l.getD j hz0 with addr := x })
  | [], j, x, h => absurd h (Nat.not_lt_zero _)
  | p :: l, 0, x, _ => by
    rw [hdf_cons, List.set_cons_zero, hdf_cons]
    rfl
  | p :: l, j + 1, x, h => by
    have ih := hdf_set l j x (by simpa using h)
    rw [hdf_cons, List.set_cons_succ, hdf_cons]
    show List.set _ _ _ = (hdc p).toList ++ hdf (l.set j { l.getD j hz0 with addr := x })
    rw [← ih, show (j + 1) * 11 = (hdc p).toList.length + j * 11 by show _ = 11 + _; omega, List.set_append_right _ _ (by omega), Nat.add_sub_cancel_left]
/-- Own rows, of which one's address is written. -/
theorem OwnH.bump {W : World} {lo b n c j x : Nat} {l : List Hd} (h : OwnH W lo (.slice (some ⟨b, 0, none⟩) n c) l) (hj : j < l.length) (hx : x < 18446744073709551616) :
    OwnH (W.setCell ⟨b, j * 11, none⟩ (.int .u64 (x : Nat))) lo (.slice (some ⟨b, 0, none⟩) n c) (l.set j { l.getD j hz0 with addr := x }) := by
  obtain ⟨cur, hn, hb, hg, hs, ht⟩ := own_block2H h.1
  have hc := own_capH h.1
  have hcs : Cs (W.setCell ⟨b, j * 11, none⟩ (.int .u64 (x : Nat))) b 97 (cur.setIfInBounds (j * 11) (.int .u64 (x : Nat))) := Cs.set hg _ _
  refine ⟨⟨?_, .inr ⟨b, c, cur.setIfInBounds (j * 11) (.int .u64 (x : Nat)), ?_, hb, hcs, ?_, ?_, ?_, ?_⟩⟩, ?_⟩
  · rw [hdf_len]
  · rw [List.length_set, hn]
  · rw [List.length_set, ← hn]; exact hc.1
  · unfold maxLen; omega
  · rw [Array.size_setIfInBounds, hs]
  · rw [List.length_set, Array.toList_setIfInBounds, ← hdf_set l j x hj, ← ht, hn, List.take_set]
  · intro p hp
    rcases List.mem_or_eq_of_mem_set hp with hp | rfl
    · exact h.2 p hp
    · have := h.2 (l.getD j hz0) (by rw [List.getD_eq_getElem?_getD, List.getElem?_eq_getElem hj]; exact List.getElem_mem hj)
      exact ⟨hx, this.2⟩
end Go.Proofs.Ytepggbhibpjkpaa
