/- A region that draws its order: one goal for each operation, in whatever order they come; no program's number is named here. What the operations of a drawn region have answered. (The same lies in Inw, for seats with words.). Drawn regions that make variables of words: what is known of a variable that is made on the way. -/
import Derived.Orders
import Derived.Tactics
import Derived.Test.YtjefbfabigkeiaaDoorWrl
import Derived.Test.YtjefbfabigkeiaaDoorCdv
namespace Go.Proofs.YtjefbfabigkeiaaDoor

section
variable {P : Program} {ops : Array Oper} {Q : Exit → Act → World → Prop} {md : Region.Mode}

end
end Go.Proofs.YtjefbfabigkeiaaDoor
namespace Go.Proofs.YtjefbfabigkeiaaDoor

end Go.Proofs.YtjefbfabigkeiaaDoor
namespace Go.Proofs.YtjefbfabigkeiaaDoor
open Go.RowKit

/-- v points to a block of its own; if c, it holds the word r. -/
def Nb (w : World) (l : List (Nat × Nat)) (W : World) (v : Value) (c : Bool) (r : Nat) : Prop :=
  ∃ (g : Nat) (cs : Array Value), v = .pointer (some ⟨g, 0, none⟩) ∧ w.heap.size ≤ g ∧ (∀ x ∈ l, x.1 ≠ g) ∧ Cs W g 36 cs ∧ cs.size = 4 ∧ (c = true → cs = wc r)
theorem Nb.ext {w : World} {l : List (Nat × Nat)} {W W' : World} {v : Value} {c : Bool} {r : Nat} (h : Nb w l W v c r) (he : Ext W W') : Nb w l W' v c r := by
  obtain ⟨g, cs, h1, h2, h3, h4, h5, h6⟩ := h
  exact ⟨g, cs, h1, h2, h3, h4.ext he, h5, h6⟩
theorem Nb.weak {w : World} {l : List (Nat × Nat)} {W : World} {v : Value} {c c' : Bool} {r : Nat} (h : Nb w l W v c r) (hc : c' = true → c = true) : Nb w l W v c' r := by
  obtain ⟨g, cs, h1, h2, h3, h4, h5, h6⟩ := h
  exact ⟨g, cs, h1, h2, h3, h4, h5, fun e => h6 (hc e)⟩
theorem Nb.new {w : World} {l : List (Nat × Nat)} {W : World} (h : Ks w l W) (c : Bool) (hc : c = false) (r : Nat) : Nb w l (W.alloc (.cells #[.int .u64 0, .int .u64 0, .int .u64 0, .int .u64 0] 36)) (.pointer (some ⟨W.heap.size, 0, none⟩)) c r :=
  ⟨_, _, rfl, h.2.size, h.fresh, Cs.new W _ _ _ rfl, rfl, fun e => by rw [hc] at e; cases e⟩
theorem Nb.fresh {w : World} {l : List (Nat × Nat)} {W : World} {v : Value} {c : Bool} {r : Nat} (h : Nb w l W v c r) : v ≠ .pointer (some ⟨W.heap.size, 0, none⟩) := by
  obtain ⟨g, cs, rfl, _, _, h4, _⟩ := h
  intro e
  injection e with e
  injection e with e
  injection e with e
  have := h4.lt
  omega
/-- What is stored into another one's block. -/
theorem Nb.other {w : World} {l : List (Nat × Nat)} {W W' : World} {v : Value} {c : Bool} {r g' : Nat} (h : Nb w l W v c r) (hg : W.grownBy W' (some g')) (hne : v ≠ .pointer (some ⟨g', 0, none⟩)) : Nb w l W' v c r := by
  obtain ⟨g, cs, rfl, h2, h3, h4, h5, h6⟩ := h
  exact ⟨g, cs, rfl, h2, h3, h4.kept hg (some_ne (fun e => hne (by rw [e]))), h5, h6⟩
/-- A word is stored into the variable. -/
theorem wpList_store_nb {P : Program} {ops : Array Oper} {rest : List Oper} {o : Oper} {a : Act} {w W : World} {l : List (Nat × Nat)} {Q : Exit → Act → World → Prop} (hgd : o.guard = none) (hd : o.dst = none) (x y : Operand) (ho : o.op = .store 36 x y)
    (hi : (P.info? 36).map (·.size) = some 4) {v : Value} {c : Bool} {r n : Nat} (hk : Ks w l W) (hv : Nb w l W v c r) (hx : a.eval x = v) (hy : a.eval y = wv n)
    (h : ∀ (W' : World) (g : Nat), v = .pointer (some ⟨g, 0, none⟩) → Ks w l W' → (∀ c', Nb w l W' v c' n) → W.grownBy W' (some g) → wpList P ops Q rest a W') : wpList P ops Q (o :: rest) a W := by
  obtain ⟨g, cs, rfl, h2, h3, h4, h5, h6⟩ := hv
  refine wpList_store_word hgd hd 36 x y ho hi g cs n hx hy h4 h5 fun W' hw hg => ?_
  exact h W' g rfl (hk.far hg h2 h3) (fun c' => ⟨g, wc n, rfl, h2, h3, hw, rfl, fun _ => rfl⟩) hg
/-- At the end: a block. -/
theorem Nb.done {w : World} {l : List (Nat × Nat)} {W : World} {v : Value} {r : Nat} (h : Nb w l W v true r) : ∃ g, v = .pointer (some ⟨g, 0, none⟩) ∧ w.heap.size ≤ g ∧ (∀ x ∈ l, x.1 ≠ g) ∧ Wd W g 36 r := by
  obtain ⟨g, cs, h1, h2, h3, h4, h5, h6⟩ := h
  rw [h6 rfl] at h4
  exact ⟨g, h1, h2, h3, h4⟩

/-! ### With a block of another kind beside -/
theorem Nb.new2 {w : World} {l : List (Nat × Nat)} {W : World} (hz : w.heap.size ≤ W.heap.size) (hf : ∀ x ∈ l, x.1 < W.heap.size) (c : Bool) (hc : c = false) (r : Nat) : Nb w l (W.alloc (.cells #[.int .u64 0, .int .u64 0, .int .u64 0, .int .u64 0] 36)) (.pointer (some ⟨W.heap.size, 0, none⟩)) c r :=
  ⟨_, _, rfl, hz, fun x hx => Nat.ne_of_lt (hf x hx), Cs.new W _ _ _ rfl, rfl, fun e => by rw [hc] at e; cases e⟩
theorem fresh_cons {w : World} {l : List (Nat × Nat)} {W : World} {g : Nat} (hg : g < W.heap.size) (h : Ks w l W) : ∀ x ∈ (g, 0) :: l, x.1 < W.heap.size := fun x hx => by
  rcases List.mem_cons.1 hx with rfl | hx
  · exact hg
  · exact (h.1 x hx).lt
theorem wpList_store_nb2 {P : Program} {ops : Array Oper} {rest : List Oper} {o : Oper} {a : Act} {w W : World} {l l' : List (Nat × Nat)} {Q : Exit → Act → World → Prop} (hgd : o.guard = none) (hd : o.dst = none) (x y : Operand) (ho : o.op = .store 36 x y)
    (hi : (P.info? 36).map (·.size) = some 4) {v : Value} {c : Bool} {r n : Nat} (hk : Ks w l W) (hs : ∀ x ∈ l, x ∈ l') (hv : Nb w l' W v c r) (hx : a.eval x = v) (hy : a.eval y = wv n)
    (h : ∀ (W' : World) (g : Nat), v = .pointer (some ⟨g, 0, none⟩) → (∀ x ∈ l', x.1 ≠ g) → Ks w l W' → (∀ c', Nb w l' W' v c' n) → W.grownBy W' (some g) → wpList P ops Q rest a W') : wpList P ops Q (o :: rest) a W := by
  obtain ⟨g, cs, rfl, h2, h3, h4, h5, h6⟩ := hv
  refine wpList_store_word hgd hd 36 x y ho hi g cs n hx hy h4 h5 fun W' hw hg => ?_
  exact h W' g rfl h3 (hk.far hg h2 (fun x hx => h3 x (hs x hx))) (fun c' => ⟨g, wc n, rfl, h2, h3, hw, rfl, fun _ => rfl⟩) hg
end Go.Proofs.YtjefbfabigkeiaaDoor
