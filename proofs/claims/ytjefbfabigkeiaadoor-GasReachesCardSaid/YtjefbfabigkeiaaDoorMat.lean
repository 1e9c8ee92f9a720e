/- Plain mathematics of rows of bytes: nothing of any program. -/
namespace Go.Proofs.YtjefbfabigkeiaaDoor

theorem ext_getD {a b : List UInt8} (hl : a.length = b.length) (h : ∀ i, i < a.length → a.getD i 0 = b.getD i 0) : a = b := by
  apply List.ext_getElem hl
  intro i h1 h2
  have := h i h1
  rwa [List.getD, List.getElem?_eq_getElem h1, List.getD, List.getElem?_eq_getElem h2] at this

theorem getD_take_if (l : List UInt8) (n i : Nat) : (l.take n).getD i 0 = if i < n then l.getD i 0 else 0 := by
  simp only [List.getD, List.getElem?_take]
  split <;> rfl
theorem getD_drop (l : List UInt8) (n i : Nat) : (l.drop n).getD i 0 = l.getD (n + i) 0 := by
  simp [List.getD, List.getElem?_drop]
theorem getD_take (l : List UInt8) (n i : Nat) (h : i < n) : (l.take n).getD i 0 = l.getD i 0 := by
  rw [getD_take_if, if_pos h]
theorem getD_append_if (a b : List UInt8) (i : Nat) : (a ++ b).getD i 0 = if i < a.length then a.getD i 0 else b.getD (i - a.length) 0 := by
  simp only [List.getD, List.getElem?_append]
  split <;> rfl
theorem getD_past (l : List UInt8) (i : Nat) (h : l.length ≤ i) : l.getD i 0 = 0 := by
  simp [List.getD, List.getElem?_eq_none h]
theorem getD_zeros (n i : Nat) : (List.replicate n (0 : UInt8)).getD i 0 = 0 := by
  simp only [List.getD, List.getElem?_replicate]
  split <;> rfl
theorem getD_set_if (l : List UInt8) (k : Nat) (c : UInt8) (i : Nat) (hk : k < l.length) : (l.set k c).getD i 0 = if k = i then c else l.getD i 0 := by
  simp only [List.getD, List.getElem?_set]
  split
  · subst_vars
    simp
  · rfl

/-- The row l with x laid over it from the place a on; what has no place in it is left out. -/
def lay (l : List UInt8) (a : Nat) (x : List UInt8) : List UInt8 := l.mapIdx fun i c => if a ≤ i ∧ i < a + x.length then x.getD (i - a) 0 else c

theorem lay_length (l : List UInt8) (a : Nat) (x : List UInt8) : (lay l a x).length = l.length := by simp [lay]

theorem lay_getD (l : List UInt8) (a : Nat) (x : List UInt8) (i : Nat) (h : i < l.length) :
    (lay l a x).getD i 0 = if a ≤ i ∧ i < a + x.length then x.getD (i - a) 0 else l.getD i 0 := by
  unfold lay
  rw [List.getD, List.getElem?_mapIdx, List.getElem?_eq_getElem h]
  simp only [Option.map_some, Option.getD_some, List.getD, List.getElem?_eq_getElem h]

theorem lay_none (l : List UInt8) (a : Nat) : lay l a [] = l := by
  apply ext_getD (by simp [lay])
  intro i h1
  rw [lay_getD _ _ _ _ (by simpa [lay] using h1), if_neg (by simp)]

theorem lay_step (l : List UInt8) (a : Nat) (x : List UInt8) (k : Nat) (hk : k < x.length) (hl : a + k < l.length) :
    lay l a (x.take (k + 1)) = (lay l a (x.take k)).set (a + k) (x.getD k 0) := by
  apply ext_getD (by simp [lay])
  intro i h1
  rw [lay_length] at h1
  have e1 : (x.take (k + 1)).length = k + 1 := by simp; omega
  have e0 : (x.take k).length = k := by simp; omega
  rw [getD_set_if _ _ _ _ (by rw [lay_length]; omega), lay_getD _ _ _ _ h1, lay_getD _ _ _ _ h1, e1, e0]
  by_cases hi : a + k = i
  · subst hi
    rw [if_pos (by omega), if_pos rfl, getD_take _ _ _ (by omega), Nat.add_sub_cancel_left]
  · rw [if_neg hi]
    by_cases hc : a ≤ i ∧ i < a + k
    · rw [if_pos hc, if_pos (by omega), getD_take _ _ _ (by omega), getD_take _ _ _ (by omega)]
    · rw [if_neg hc, if_neg (by omega)]

theorem lay_past (l : List UInt8) (a : Nat) (x : List UInt8) (k : Nat) (h : l.length ≤ a + k) : lay l a (x.take k) = lay l a x := by
  apply ext_getD (by simp [lay])
  intro i h1
  rw [lay_length] at h1
  rw [lay_getD _ _ _ _ h1, lay_getD _ _ _ _ h1]
  by_cases hc : a ≤ i ∧ i < a + x.length
  · rw [if_pos hc, if_pos (by simp; omega), getD_take _ _ _ (by omega)]
  · rw [if_neg hc, if_neg (by simp; omega)]

end Go.Proofs.YtjefbfabigkeiaaDoor
