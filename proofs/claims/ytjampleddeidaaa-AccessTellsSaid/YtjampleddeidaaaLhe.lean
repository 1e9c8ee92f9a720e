/- slices.Clone, slices.Delete at rows of a ledger. -/
import Derived.Test.YtjampleddeidaaaLhd
namespace Go.Proofs.Ytjampleddeidaaa
open Go.ChangeShapes Go.WideShapes Go.ChangeAt Go.RowKit Go.Shelf
set_option maxRecDepth 100000 in
theorem flat_invL {s : Nat} (hs : 0 < s) : ∀ (css : List (List Value)), (∀ cs ∈ css, cs.length = s) → ∀ (i : Nat) (u : Value), css.flatten[i]? = some u → ∃ cs, css[i / s]? = some cs ∧ cs[i % s]? = some u
  | [], _, i, u, h => by simp at h
  | c :: css, hc, i, u, h => by
    have hl := hc c List.mem_cons_self
    rw [List.flatten_cons] at h
    by_cases hi : i < s
    · rw [List.getElem?_append_left (by omega)] at h
      rw [Nat.div_eq_of_lt hi, Nat.mod_eq_of_lt hi]
      exact ⟨c, rfl, h⟩
    · rw [List.getElem?_append_right (by omega), hl] at h
      obtain ⟨cs, h1, h2⟩ := flat_invL hs css (fun x hx => hc x (List.mem_cons_of_mem _ hx)) _ _ h
      have e1 : i / s = (i - s) / s + 1 := by
        conv => lhs; rw [show i = (i - s) + s by omega]
        exact Nat.add_div_right _ hs
      have e2 : i % s = (i - s) % s := by
        conv => lhs; rw [show i = (i - s) + s by omega]
        exact Nat.add_mod_right _ _
      rw [e1, e2]
      exact ⟨cs, h1, h2⟩
set_option maxRecDepth 100000 in
/-- A slice whose elements' cells are known reads as a row of cells. -/
theorem Sl.rsL {α : Type} {W : World} {s : Nat} (hs : 0 < s) {Rd : List Value → α → Prop} (f : α → List Value) (hf : ∀ x, (f x).length = s) (hR : ∀ cs x, Rd cs x → cs = f x) {v : Value} {l : List α} (h : Sl W s Rd v l) : Rs W s v l.length (l.map f).flatten := by
  obtain ⟨A, c, e, h1, h2, h3⟩ := h
  have hlen : (l.map f).flatten.length = l.length * s := by
    rw [flat_len (l.map f) (by intro cs hc; obtain ⟨x, _, rfl⟩ := List.mem_map.1 hc; exact hf x), List.length_map]
  refine ⟨hlen, A, c, e, h1, h2, fun hp => ?_⟩
  obtain ⟨b, o, ea, hc⟩ := h3 hp
  refine ⟨b, o, ea, fun i u hu => ?_⟩
  obtain ⟨cs, k1, k2⟩ := flat_invL hs (l.map f) (by intro cs hc; obtain ⟨x, _, rfl⟩ := List.mem_map.1 hc; exact hf x) i u hu
  rw [List.getElem?_map] at k1
  obtain ⟨x, k3, rfl⟩ := Option.map_eq_some_iff.1 k1
  obtain ⟨cs', _, k5, k6⟩ := hc _ _ k3
  obtain rfl := hR _ _ k5
  have := k6 _ _ k2
  rwa [show o + i / s * s + i % s = o + i by have := Nat.div_add_mod' i s; omega] at this

/-! ### Rows of the call's own -/
def hdf (l : List Hd) : List Value := (l.map fun p => (hdc p).toList).flatten
set_option maxRecDepth 100000 in
theorem Hds.rs {W : World} {v : Value} {l : List Hd} (h : Hds W v l) : Rs W 11 v l.length (hdf l) := Sl.rsL (by decide) (fun p => (hdc p).toList) (fun _ => rfl) (fun _ _ h => h.2) h
set_option maxRecDepth 100000 in
theorem hdf_one (l : List Hd) : ∀ u ∈ hdf l, u.oneCell' = true := by
  intro u hu
  obtain ⟨cs, hcs, hu⟩ := List.mem_flatten.1 hu
  obtain ⟨p, _, rfl⟩ := List.mem_map.1 hcs
  exact hdc_ones p u hu
set_option maxRecDepth 100000 in
theorem grown_thenL {W W1 W2 : World} {row : Option Nat} (h : Ext W W1) (k : W1.grownBy W2 row) : W.grownBy W2 row := ⟨k.os.trans h.os, k.tape.trans h.tape, k.output.trans h.output, Nat.le_trans h.size k.size, fun j hj hne => (k.block j (Nat.lt_of_lt_of_le hj h.size) hne).trans (Below.block h j hj)⟩
/-! ### slices.Clone of rows -/
set_option maxRecDepth 100000 in
theorem own_capH {W : World} {lo s n c m g : Nat} {e : TypeId} {cs : List Value} (h : W.ownsRow lo e s (.slice (some ⟨g, 0, none⟩) n c) m cs) : n ≤ c ∧ c ≤ 9223372036854775807 := by
  rcases h.2 with ⟨e, _⟩ | ⟨b, cap, cur, e, _, _, h1, h2, _⟩
  · injection e with e; cases e
  · injection e with _ e2 e3
    subst e2 e3
    exact ⟨h1, by unfold maxLen at h2; omega⟩
set_option maxRecDepth 100000 in
theorem own_block2H {W : World} {lo s n c m g : Nat} {e : TypeId} {cs : List Value} (h : W.ownsRow lo e s (.slice (some ⟨g, 0, none⟩) n c) m cs) : ∃ cur : Array Value, n = m ∧ lo ≤ g ∧ W.heap[g]? = some (.cells cur e (0, 0)) ∧ cur.size = c * s ∧ cur.toList.take (n * s) = cs := by
  rcases h.2 with ⟨e, _⟩ | ⟨b, cap, cur, e, hb, hg, _, _, hs, ht⟩
  · injection e with e; cases e
  · injection e with e1 e2 e3
    injection e1 with e1
    injection e1 with e1
    subst e1 e2 e3
    exact ⟨cur, rfl, hb, hg, hs, ht⟩
set_option maxRecDepth 100000 in
theorem grown_thenH' {W W1 W2 : World} {row : Option Nat} (k : W.grownBy W1 row) (h : Ext W1 W2) : W.grownBy W2 row := ⟨h.os.trans k.os, h.tape.trans k.tape, h.output.trans k.output, Nat.le_trans k.size h.size, fun j hj hne => (Below.block h j (Nat.lt_of_lt_of_le hj k.size)).trans (k.block j hj hne)⟩
set_option maxRecDepth 100000 in
theorem RegH.ext {w4 W W' : World} {P : Prop} (h : Ext w4 W ∧ P) (he : Ext W W') : Ext w4 W' ∧ P := ⟨h.1.trans he, h.2⟩
set_option maxRecDepth 100000 in
theorem blk_extH {w W W' : World} {g : Nat} {o : Obj} (h : W.heap[g]? = some o ∧ w.grownBy W (some g)) (he : Ext W W') : W'.heap[g]? = some o ∧ w.grownBy W' (some g) := ⟨Ext.block he h.1, grown_thenH' h.2 he⟩
/-- A row of cells over which others are laid. -/
def rowC (cur : Array Value) (i : Nat) (news : List Value) : Array Value := (cur.toList.take (i * 11) ++ news ++ cur.toList.drop (i * 11 + news.length)).toArray
set_option maxRecDepth 100000 in
theorem rowC_size (cur : Array Value) (i : Nat) (news : List Value) (h : i * 11 + news.length ≤ cur.size) : (rowC cur i news).size = cur.size := by
  unfold rowC
  simp
  omega
set_option maxRecDepth 100000 in
theorem rowC_take (cur : Array Value) (i n : Nat) (news : List Value) (h : i * 11 + news.length ≤ cur.size) (hn : n * 11 = i * 11 + news.length) : (rowC cur i news).toList.take (n * 11) = cur.toList.take (i * 11) ++ news := by
  unfold rowC
  rw [List.toList_toArray, hn, List.take_left' (by simp; omega)]
set_option maxRecDepth 100000 in
theorem rowC_keep (cur : Array Value) (i n : Nat) (news : List Value) (h : i * 11 + news.length ≤ cur.size) (hn : n ≤ i) : (rowC cur i news).toList.take (n * 11) = cur.toList.take (n * 11) := by
  unfold rowC
  rw [List.toList_toArray, List.append_assoc, List.take_append_of_le_length (by simp; omega), List.take_take, Nat.min_eq_left (by omega)]
set_option maxRecDepth 100000 in
theorem hdf_len (l : List Hd) : (hdf l).length = l.length * 11 := by
  induction l with
  | nil => rfl
  | cons p l ih =>
    have e : hdf (p :: l) = (hdc p).toList ++ hdf l := by simp [hdf]
    have h8 : (hdc p).toList.length = 11 := rfl
    rw [e, List.length_append, ih, h8, List.length_cons]
    omega
set_option maxRecDepth 100000 in
theorem hdf_app' (l m : List Hd) : hdf (l ++ m) = hdf l ++ hdf m := by simp [hdf]
set_option maxRecDepth 100000 in
theorem hdf_take (l : List Hd) (i : Nat) : (hdf l).take (i * 11) = hdf (l.take i) := by
  by_cases h : i ≤ l.length
  · conv => lhs; rw [← List.take_append_drop i l, hdf_app']
    rw [List.take_left' (by rw [hdf_len, List.length_take, Nat.min_eq_left h])]
  · rw [List.take_of_length_le (show l.length ≤ i by omega), List.take_of_length_le (by rw [hdf_len]; omega)]
end Go.Proofs.Ytjampleddeidaaa
