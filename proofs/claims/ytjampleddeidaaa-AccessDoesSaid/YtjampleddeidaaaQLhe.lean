/- slices.Clone, slices.Delete at rows of a ledger. -/
import Derived.Test.YtjampleddeidaaaQLhd
namespace Go.Proofs.Ytjampleddeidaaa
open Go.ChangeShapes Go.WideShapes Go.ChangeAt Go.RowKit Go.Shelf
set_option maxRecDepth 100000 in
theorem flat_invL {s : Nat} (hs : 0 < s) : ∀ (css : List (List Value)), (∀ cs ∈ css, cs.length = s) → ∀ (i : Nat) (u : Value), css.flatten[i]? = some u → ∃ cs, css[i / s]? = some cs ∧ cs[i % s]? = some u
  | [], _, i, u, h => by simp at h
  | c :: css, hc, i, u, h => by
    have hl := hc c List.mem_cons_self
    rw [List.flatten_cons] at h
    by_cases hi : i < s
    · rw [List.getElem?_append_left (by omega)] at h
      rw [Nat.div_eq_of_lt hi, Nat.mod_eq_of_lt hi]
      exact ⟨c, rfl, h⟩
    · rw [List.getElem?_append_right (by omega), hl] at h
      obtain ⟨cs, h1, h2⟩ := flat_invL hs css (fun x hx => hc x (List.mem_cons_of_mem _ hx)) _ _ h
      have e1 : i / s = (i - s) / s + 1 := by
        conv => lhs; rw [show i = (i - s) + s by omega]
        exact Nat.add_div_right _ hs
      have e2 : i % s = (i - s) % s := by
        conv => lhs; rw [show i = (i - s) + s by omega]
        exact Nat.add_mod_right _ _
      rw [e1, e2]
      exact ⟨cs, h1, h2⟩
set_option maxRecDepth 100000 in
theorem Sl.rsL {α : Type} {W : World} {s : Nat} (hs : 0 < s) {Rd : List Value → α → Prop} (f : α → List Value) (hf : ∀ x, (f x).length = s) (hR : ∀ cs x, Rd cs x → cs = f x) {v : Value} {l : List α} (h : Sl W s Rd v l) : Rs W s v l.length (l.map f).flatten := by
  obtain ⟨A, c, e, h1, h2, h3⟩ := h
  have hlen : (l.map f).flatten.length = l.length * s := by
    rw [flat_len (l.map f) (by intro cs hc; obtain ⟨x, _, rfl⟩ := List.mem_map.1 hc; exact hf x), List.length_map]
  refine ⟨hlen, A, c, e, h1, h2, fun hp => ?_⟩
  obtain ⟨b, o, ea, hc⟩ := h3 hp
  refine ⟨b, o, ea, fun i u hu => ?_⟩
  obtain ⟨cs, k1, k2⟩ := flat_invL hs (l.map f) (by intro cs hc; obtain ⟨x, _, rfl⟩ := List.mem_map.1 hc; exact hf x) i u hu
  rw [List.getElem?_map] at k1
  obtain ⟨x, k3, rfl⟩ := Option.map_eq_some_iff.1 k1
  obtain ⟨cs', _, k5, k6⟩ := hc _ _ k3
  obtain rfl := hR _ _ k5
  have := k6 _ _ k2
  rwa [show o + i / s * s + i % s = o + i by have := Nat.div_add_mod' i s; omega] at this

set_option maxRecDepth 100000 in
theorem grown_thenL {W W1 W2 : World} {row : Option Nat} (h : Ext W W1) (k : W1.grownBy W2 row) : W.grownBy W2 row := ⟨k.os.trans h.os, k.tape.trans h.tape, k.output.trans h.output, Nat.le_trans h.size k.size, fun j hj hne => (k.block j (Nat.lt_of_lt_of_le hj h.size) hne).trans (Below.block h j hj)⟩
set_option maxRecDepth 100000 in
theorem own_capH {W : World} {lo s n c m g : Nat} {e : TypeId} {cs : List Value} (h : W.ownsRow lo e s (.slice (some ⟨g, 0, none⟩) n c) m cs) : n ≤ c ∧ c ≤ 9223372036854775807 := by
  rcases h.2 with ⟨e, _⟩ | ⟨b, cap, cur, e, _, _, h1, h2, _⟩
  · injection e with e; cases e
  · injection e with _ e2 e3
    subst e2 e3
    exact ⟨h1, by unfold maxLen at h2; omega⟩
set_option maxRecDepth 100000 in
theorem own_block2H {W : World} {lo s n c m g : Nat} {e : TypeId} {cs : List Value} (h : W.ownsRow lo e s (.slice (some ⟨g, 0, none⟩) n c) m cs) : ∃ cur : Array Value, n = m ∧ lo ≤ g ∧ W.heap[g]? = some (.cells cur e (0, 0)) ∧ cur.size = c * s ∧ cur.toList.take (n * s) = cs := by
  rcases h.2 with ⟨e, _⟩ | ⟨b, cap, cur, e, hb, hg, _, _, hs, ht⟩
  · injection e with e; cases e
  · injection e with e1 e2 e3
    injection e1 with e1
    injection e1 with e1
    subst e1 e2 e3
    exact ⟨cur, rfl, hb, hg, hs, ht⟩
set_option maxRecDepth 100000 in
theorem grown_thenH' {W W1 W2 : World} {row : Option Nat} (k : W.grownBy W1 row) (h : Ext W1 W2) : W.grownBy W2 row := ⟨h.os.trans k.os, h.tape.trans k.tape, h.output.trans k.output, Nat.le_trans k.size h.size, fun j hj hne => (Below.block h j (Nat.lt_of_lt_of_le hj k.size)).trans (k.block j hj hne)⟩
set_option maxRecDepth 100000 in
theorem blk_extH {w W W' : World} {g : Nat} {o : Obj} (h : W.heap[g]? = some o ∧ w.grownBy W (some g)) (he : Ext W W') : W'.heap[g]? = some o ∧ w.grownBy W' (some g) := ⟨Ext.block he h.1, grown_thenH' h.2 he⟩
end Go.Proofs.Ytjampleddeidaaa
