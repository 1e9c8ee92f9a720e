/- Lanes that are made on the way, in whatever order; mathematics of SpongeRows. -/
import Derived.Test.YthjmjccggkejhaaDoorSqa
namespace Go.Proofs.YthjmjccggkejhaaDoor
open Go.ChangeShapes Go.WideShapes Go.ChangeAt Go.RowKit Go.Shelf

/-- Lanes that lie in memory, and what was there. -/
def KsL (w : World) (l : List (Nat × (Nat → Nat))) (W : World) : Prop := (∀ x ∈ l, Ln W x.1 x.2) ∧ Ext w W
set_option maxRecDepth 100000 in
theorem KsL.ext {w : World} {l : List (Nat × (Nat → Nat))} {W W' : World} (h : KsL w l W) (he : Ext W W') : KsL w l W' := ⟨fun x hx => (h.1 x hx).ext he, h.2.trans he⟩
set_option maxRecDepth 100000 in
theorem KsL.al {w : World} {l : List (Nat × (Nat → Nat))} {W : World} (h : KsL w l W) (o : Obj) : KsL w l (W.alloc o) := h.ext ((Ext.refl W).alloc o)
set_option maxRecDepth 100000 in
theorem KsL.drew {w : World} {l : List (Nat × (Nat → Nat))} {W : World} (h : KsL w l W) : KsL w l W.drew := h.ext (ext_of_grown (grown_drew (World.grownBy.refl _ _)))
set_option maxRecDepth 100000 in
theorem KsL.far {w : World} {l : List (Nat × (Nat → Nat))} {W W' : World} {g : Nat} (h : KsL w l W) (hg : W.grownBy W' (some g)) (hw : w.heap.size ≤ g) (hn : ∀ x ∈ l, x.1 ≠ g) : KsL w l W' := ⟨fun x hx => (h.1 x hx).kept hg (some_ne (hn x hx)), h.2.grown hg hw⟩
set_option maxRecDepth 100000 in
theorem KsL.at {w : World} {l : List (Nat × (Nat → Nat))} {W : World} (h : KsL w l W) (g : Nat) (n : Nat → Nat) (hx : (g, n) ∈ l) : Ln W g n := h.1 _ hx
set_option maxRecDepth 100000 in
theorem Ln.lt {W : World} {g : Nat} {f : Nat → Nat} (h : Ln W g f) : g < W.heap.size := Cs.lt h
set_option maxRecDepth 100000 in
theorem KsL.fresh {w : World} {l : List (Nat × (Nat → Nat))} {W : World} (h : KsL w l W) : ∀ x ∈ l, x.1 ≠ W.heap.size := fun x hx => Nat.ne_of_lt (h.1 x hx).lt

/-- v points to a block of its own; if c, it holds the lanes r. -/
def NbL (w : World) (l : List (Nat × (Nat → Nat))) (W : World) (v : Value) (c : Bool) (r : Nat → Nat) : Prop :=
  ∃ (g : Nat) (cs : Array Value), v = .pointer (some ⟨g, 0, none⟩) ∧ w.heap.size ≤ g ∧ (∀ x ∈ l, x.1 ≠ g) ∧ Cs W g 35 cs ∧ cs.size = 25 ∧ (c = true → cs = lc r)
set_option maxRecDepth 100000 in
theorem NbL.ext {w : World} {l : List (Nat × (Nat → Nat))} {W W' : World} {v : Value} {c : Bool} {r : Nat → Nat} (h : NbL w l W v c r) (he : Ext W W') : NbL w l W' v c r := by
  obtain ⟨g, cs, h1, h2, h3, h4, h5, h6⟩ := h
  exact ⟨g, cs, h1, h2, h3, h4.ext he, h5, h6⟩
set_option maxRecDepth 100000 in
theorem NbL.weak {w : World} {l : List (Nat × (Nat → Nat))} {W : World} {v : Value} {c c' : Bool} {r : Nat → Nat} (h : NbL w l W v c r) (hc : c' = true → c = true) : NbL w l W v c' r := by
  obtain ⟨g, cs, h1, h2, h3, h4, h5, h6⟩ := h
  exact ⟨g, cs, h1, h2, h3, h4, h5, fun e => h6 (hc e)⟩
set_option maxRecDepth 100000 in
theorem NbL.new {w : World} {l : List (Nat × (Nat → Nat))} {W : World} (h : KsL w l W) (c : Bool) (hc : c = false) (r : Nat → Nat) : NbL w l (W.alloc (.cells (lc fun _ => 0) 35)) (.pointer (some ⟨W.heap.size, 0, none⟩)) c r :=
  ⟨_, _, rfl, h.2.size, h.fresh, Cs.new W _ _ _ rfl, lc_size _, fun e => by rw [hc] at e; cases e⟩
set_option maxRecDepth 100000 in
theorem NbL.fresh {w : World} {l : List (Nat × (Nat → Nat))} {W : World} {v : Value} {c : Bool} {r : Nat → Nat} (h : NbL w l W v c r) : v ≠ .pointer (some ⟨W.heap.size, 0, none⟩) := by
  obtain ⟨g, cs, rfl, _, _, h4, _⟩ := h
  intro e
  injection e with e
  injection e with e
  injection e with e
  have := h4.lt
  omega
set_option maxRecDepth 100000 in
/-- What is stored into another one's block. -/
theorem NbL.other {w : World} {l : List (Nat × (Nat → Nat))} {W W' : World} {v : Value} {c : Bool} {r : Nat → Nat} {g' : Nat} (h : NbL w l W v c r) (hg : W.grownBy W' (some g')) (hne : v ≠ .pointer (some ⟨g', 0, none⟩)) : NbL w l W' v c r := by
  obtain ⟨g, cs, rfl, h2, h3, h4, h5, h6⟩ := h
  exact ⟨g, cs, rfl, h2, h3, h4.kept hg (some_ne (fun e => hne (by rw [e]))), h5, h6⟩
set_option maxRecDepth 100000 in
/-- Lanes are stored into the variable. -/
theorem wpList_store_nbL {ops : Array Oper} {rest : List Oper} {o : Oper} {a : Act} {w W : World} {l : List (Nat × (Nat → Nat))} {Q : Exit → Act → World → Prop} (hgd : o.guard = none) (hd : o.dst = none) (x y : Operand) (ho : o.op = .store 35 x y)
    {v : Value} {c : Bool} {r n : Nat → Nat} (hk : KsL w l W) (hv : NbL w l W v c r) (hx : a.eval x = v) (hy : a.eval y = lnv n)
    (h : ∀ (W' : World) (g : Nat), v = .pointer (some ⟨g, 0, none⟩) → KsL w l W' → (∀ c', NbL w l W' v c' n) → W.grownBy W' (some g) → wpList Tryd.prog ops Q rest a W') : wpList Tryd.prog ops Q (o :: rest) a W := by
  obtain ⟨g, cs, rfl, h2, h3, h4, h5, h6⟩ := hv
  refine wpList_store_lanes hgd hd x y ho g cs n hx hy h4 h5 fun W' hw hg => ?_
  exact h W' g rfl (hk.far hg h2 h3) (fun c' => ⟨g, lc n, rfl, h2, h3, hw, lc_size _, fun _ => rfl⟩) hg
set_option maxRecDepth 100000 in
/-- At the end: a block. -/
theorem NbL.done {w : World} {l : List (Nat × (Nat → Nat))} {W : World} {v : Value} {r : Nat → Nat} (h : NbL w l W v true r) : ∃ g, v = .pointer (some ⟨g, 0, none⟩) ∧ w.heap.size ≤ g ∧ (∀ x ∈ l, x.1 ≠ g) ∧ Ln W g r := by
  obtain ⟨g, cs, h1, h2, h3, h4, h5, h6⟩ := h
  rw [h6 rfl] at h4
  exact ⟨g, h1, h2, h3, h4⟩

/-! ### A row of another one's -/
/-- Of the row y the second one's lanes, else the first one's. -/
def rowM (f g : Nat → Nat) (y : Nat) : Nat → Nat := fun i => if i / 5 = y then g i else f i
set_option maxRecDepth 100000 in
theorem rowM_lt (f g : Nat → Nat) (y : Nat) (hf : Lok f) (hg : Lok g) : Lok (rowM f g y) := fun i hi => by
  unfold rowM
  split
  · exact hg i hi
  · exact hf i hi
set_option maxRecDepth 100000 in
theorem rowM_row (f g : Nat → Nat) (y i : Nat) (hi : i < 25) : rowF (rowM f g y) i = if i / 5 = y then rowF g i else rowF f i := by
  have h : ∀ x, nm x (i / 5 % 5) / 5 = i / 5 := fun x => by unfold nm; omega
  unfold rowF rowV rowM
  simp only [h]
  split <;> rfl
set_option maxRecDepth 100000 in
theorem rowM_cells (f g : Nat → Nat) (y : Nat) (hy : y < 5) : ((lc f).toList.take (5 * y) ++ ((((lc g).toList.drop (5 * y)).take 5) ++ (lc f).toList.drop (5 * y + 5))).toArray = lc (rowM f g y) := by
  apply Array.ext
  · simp [lc, nc]
    omega
  · intro i h1 h2
    have hi : i < 25 := by simpa [lc, nc] using h2
    apply Option.some.inj
    rw [← Array.getElem?_eq_getElem h2, ← Array.getElem?_eq_getElem h1, lc_get _ i hi, List.getElem?_toArray]
    have hl : (lc f).toList.length = 25 := by simp [lc, nc]
    have hlg : (lc g).toList.length = 25 := by simp [lc, nc]
    have hf := lc_get f i hi
    have hg := lc_get g i hi
    rw [← Array.getElem?_toList] at hf hg
    unfold rowM
    by_cases h : i < 5 * y
    · rw [List.getElem?_append_left (by rw [List.length_take, hl]; omega), List.getElem?_take_of_lt h, hf, if_neg (by omega)]
    · rw [List.getElem?_append_right (by rw [List.length_take, hl]; omega), List.length_take, hl]
      by_cases h3 : i < 5 * y + 5
      · rw [List.getElem?_append_left (by rw [List.length_take, List.length_drop, hlg]; omega), List.getElem?_take_of_lt (by omega), List.getElem?_drop, show 5 * y + (i - min (5 * y) 25) = i by omega, hg, if_pos (by omega)]
      · rw [List.getElem?_append_right (by rw [List.length_take, List.length_drop, hlg]; omega), List.length_take, List.length_drop, hlg, List.getElem?_drop, show 5 * y + 5 + (i - min (5 * y) 25 - min 5 (25 - 5 * y)) = i by omega, hf, if_neg (by omega)]
end Go.Proofs.YthjmjccggkejhaaDoor
