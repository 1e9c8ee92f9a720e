/- The document's put of layer 7: what is laid, row by row. -/
import Derived.Test.YtepggbhibpjkpaaLrc
namespace Go.Proofs.Ytepggbhibpjkpaa
open Go.ChangeShapes Go.WideShapes Go.ChangeAt Go.RowKit Go.Shelf

theorem takeG_snoc (l : List Hd) (k : Nat) (hk : k < l.length) : l.take (k + 1) = l.take k ++ [l.getD k hz0] := by
  rw [List.take_add_one, List.getD_eq_getElem?_getD, List.getElem?_eq_getElem hk]
  rfl
/-- Does a row hold nothing? -/
def emB (h : Hd) : Bool := decide (h.dep = 0) && decide (h.stk = 0)
def geP (l : List Hd) (a k : Nat) : Bool := (l.take k).any fun q => decide (a ≤ q.addr)
def laidP (l : List Hd) (h : Hd) (k : Nat) : Bool := emB h || geP l h.addr k
def outP (l : List Hd) (h : Hd) (k : Nat) : List Hd := ltG h.addr (l.take k) ++ ((if !emB h && geP l h.addr k then [h] else []) ++ gtG h.addr (l.take k))
def plR (l : List Hd) (h : Hd) : List Hd := ltG h.addr l ++ ((if emB h then [] else [h]) ++ gtG h.addr l)
theorem ltG_snoc (l : List Hd) (a k : Nat) (hk : k < l.length) : ltG a (l.take (k + 1)) = ltG a (l.take k) ++ (if (l.getD k hz0).addr < a then [l.getD k hz0] else []) := by
  unfold ltG
  rw [takeG_snoc l k hk, List.filter_append, List.filter_cons, List.filter_nil]
  simp only [decide_eq_true_eq]
theorem gtG_snoc (l : List Hd) (a k : Nat) (hk : k < l.length) : gtG a (l.take (k + 1)) = gtG a (l.take k) ++ (if a < (l.getD k hz0).addr then [l.getD k hz0] else []) := by
  unfold gtG
  rw [takeG_snoc l k hk, List.filter_append, List.filter_cons, List.filter_nil]
  simp only [decide_eq_true_eq]
theorem geP_snoc (l : List Hd) (a k : Nat) (hk : k < l.length) : geP l a (k + 1) = (geP l a k || decide (a ≤ (l.getD k hz0).addr)) := by
  unfold geP
  rw [takeG_snoc l k hk, List.any_append]
  simp
theorem gtG_geP {l : List Hd} {a k : Nat} (h : geP l a k = false) : gtG a (l.take k) = [] := by
  unfold geP at h
  rw [List.any_eq_false] at h
  unfold gtG
  rw [List.filter_eq_nil_iff]
  intro q hq
  have := h q hq
  simp at this ⊢
  omega
theorem geP_none {l : List Hd} (hr : RiseG l) {a k : Nat} (hk : k < l.length) (h : (l.getD k hz0).addr ≤ a) : geP l a k = false := by
  unfold geP
  rw [List.any_eq_false]
  intro q hq
  obtain ⟨i, hi, e⟩ := List.getElem_of_mem hq
  have hik : i < k := by rw [List.length_take] at hi; omega
  have h1 := hr i k hik hk
  have e2 : l.getD i hz0 = q := by
    rw [← e, List.getElem_take, List.getD_eq_getElem?_getD, List.getElem?_eq_getElem (by omega)]
    rfl
  rw [e2] at h1
  simp
  omega
theorem outP_lt {l : List Hd} (hr : RiseG l) {h : Hd} {k : Nat} (hk : k < l.length) (hlt : (l.getD k hz0).addr < h.addr) : outP l h (k + 1) = outP l h k ++ [l.getD k hz0] ∧ laidP l h (k + 1) = laidP l h k := by
  have h0 := geP_none hr hk (Nat.le_of_lt hlt)
  have h1 : geP l h.addr (k + 1) = false := by rw [geP_snoc l _ k hk, h0, decide_eq_false (by omega)]; rfl
  unfold outP laidP
  rw [gtG_geP h0, gtG_geP h1, h0, h1, ltG_snoc l _ k hk, if_pos hlt]
  refine ⟨?_, rfl⟩
  cases emB h <;> simp
theorem outP_eq {l : List Hd} (hr : RiseG l) {h : Hd} {k : Nat} (hk : k < l.length) (he : (l.getD k hz0).addr = h.addr) : outP l h (k + 1) = (if laidP l h k then outP l h k else outP l h k ++ [h]) ∧ laidP l h (k + 1) = true := by
  have h0 := geP_none hr hk (Nat.le_of_eq he)
  have h1 : geP l h.addr (k + 1) = true := by rw [geP_snoc l _ k hk, h0, decide_eq_true (by omega)]; rfl
  unfold outP laidP
  rw [gtG_snoc l _ k hk, gtG_geP h0, h0, h1, ltG_snoc l _ k hk, if_neg (show ¬ (l.getD k hz0).addr < h.addr by omega), if_neg (show ¬ h.addr < (l.getD k hz0).addr by omega)]
  cases emB h <;> simp
theorem outP_gt {l : List Hd} {h : Hd} {k : Nat} (hk : k < l.length) (hg : h.addr < (l.getD k hz0).addr) : outP l h (k + 1) = (if laidP l h k then outP l h k else outP l h k ++ [h]) ++ [l.getD k hz0] ∧ laidP l h (k + 1) = true := by
  have h1 : geP l h.addr (k + 1) = true := by rw [geP_snoc l _ k hk, decide_eq_true (by omega), Bool.or_true]
  unfold outP laidP
  rw [gtG_snoc l _ k hk, h1, ltG_snoc l _ k hk, if_neg (show ¬ (l.getD k hz0).addr < h.addr by omega), if_pos hg]
  cases h0 : geP l h.addr k with
  | true => cases emB h <;> simp
  | false => rw [gtG_geP h0]; cases emB h <;> simp
theorem outP_all (l : List Hd) (h : Hd) : (if laidP l h l.length then outP l h l.length else outP l h l.length ++ [h]) = plR l h := by
  unfold outP laidP plR
  have ht : l.take l.length = l := List.take_length
  cases h0 : geP l h.addr l.length with
  | true => rw [ht]; cases emB h <;> simp
  | false =>
    have := gtG_geP h0
    rw [ht] at this
    rw [ht, this]
    cases emB h <;> simp
theorem outP_len (l : List Hd) (h : Hd) (k : Nat) : (outP l h k).length ≤ l.length + 1 + l.length := by
  unfold outP
  have h1 : (ltG h.addr (l.take k)).length ≤ l.length := Nat.le_trans (List.length_filter_le _ _) (by rw [List.length_take]; omega)
  have h2 : (gtG h.addr (l.take k)).length ≤ l.length := Nat.le_trans (List.length_filter_le _ _) (by rw [List.length_take]; omega)
  rw [List.length_append, List.length_append]
  split
  · rw [List.length_singleton]; omega
  · rw [List.length_nil]; omega
theorem outP_zero (l : List Hd) (h : Hd) : outP l h 0 = [] ∧ laidP l h 0 = emB h := by
  unfold outP laidP geP ltG gtG
  simp

/-! ### The blocks of put -/
def PuM (lo g2 g3 g4 g6 : Nat) (w : World) (l0 : Value) (h : Hd) (v v' : Value) (out : List Hd) (W : World) : Prop :=
  (w.heap.size ≤ g2 ∧ g2 < g3 ∧ g3 < g4 ∧ g4 < g6 ∧ g6 < lo ∧ lo ≤ W.heap.size) ∧ OwnH W lo v' out ∧ Cs W g6 88 #[v] ∧ Cs W g2 88 #[l0] ∧ Hb W g3 h ∧ Cs W g4 88 #[.slice none 0 0] ∧ Ext w W
theorem PuM.ext {lo g2 g3 g4 g6 : Nat} {w : World} {l0 : Value} {h : Hd} {v v' : Value} {out : List Hd} {W W' : World} (k : PuM lo g2 g3 g4 g6 w l0 h v v' out W) (he : Ext W W') : PuM lo g2 g3 g4 g6 w l0 h v v' out W' :=
  ⟨⟨k.1.1, k.1.2.1, k.1.2.2.1, k.1.2.2.2.1, k.1.2.2.2.2.1, Nat.le_trans k.1.2.2.2.2.2 he.size⟩, k.2.1.ext he, Cs.ext k.2.2.1 he, Cs.ext k.2.2.2.1 he, k.2.2.2.2.1.ext he, Cs.ext k.2.2.2.2.2.1 he, k.2.2.2.2.2.2.trans he⟩
theorem OwnH.add {lo : Nat} {v' : Value} {L : List Hd} {p : Hd} {W' : World} (h2 : ∀ x ∈ L, x.ok) (hx : p.ok) (h : W'.ownsRow lo 97 11 v' (L.length + 1) (hdf L ++ (hdc p).toList)) : OwnH W' lo v' (L ++ [p]) := by
  refine ⟨?_, fun y hy => ?_⟩
  · rw [List.length_append, hdf_app2, hdf_single]
    exact h
  · rcases List.mem_append.1 hy with hy | hy
    · exact h2 y hy
    · rw [List.mem_singleton.1 hy]; exact hx
/-- A row is put behind. -/
theorem PuM.app {lo g2 g3 g4 g6 : Nat} {w : World} {l0 : Value} {h : Hd} {v v5 : Value} {out out' : List Hd} {W W' : World} (k : PuM lo g2 g3 g4 g6 w l0 h v v out W) (hg : W.grownBy W' v.ownBlock) (ho : OwnH W' lo v5 out') : PuM lo g2 g3 g4 g6 w l0 h v v5 out' W' := by
  obtain ⟨⟨a1, a2, a3, a4, a5, a6⟩, b, c, d, e, f, x⟩ := k
  have hne : ∀ g, g < lo → some g ≠ v.ownBlock := fun g hgl e => by have := (b.lt g e.symm).1; omega
  exact ⟨⟨a1, a2, a3, a4, a5, Nat.le_trans a6 (by have := hg.size; omega)⟩, ho, c.kept hg (hne g6 a5), d.kept hg (hne g2 (by omega)), Cs.kept e hg (hne g3 (by omega)), f.kept hg (hne g4 (by omega)), Ext.appendR x (own_mono b.1 (by omega)) hg⟩
theorem PuM.store {lo g2 g3 g4 g6 : Nat} {w : World} {l0 : Value} {h : Hd} {v v' : Value} {out : List Hd} {W : World} (k : PuM lo g2 g3 g4 g6 w l0 h v v' out W) : PuM lo g2 g3 g4 g6 w l0 h v' v' out (W.setCell ⟨g6, 0, none⟩ v') := by
  obtain ⟨⟨a1, a2, a3, a4, a5, a6⟩, b, c, d, e, f, x⟩ := k
  have hg := grown_set W g6 0 v'
  exact ⟨⟨a1, a2, a3, a4, a5, Nat.le_trans a6 hg.size⟩, b.keptT hg c (by decide), by simpa using c.set 0 v', d.kept hg (some_ne (by omega)), Cs.kept e hg (some_ne (by omega)), f.kept hg (some_ne (by omega)), x.grown hg (by omega)⟩
end Go.Proofs.Ytepggbhibpjkpaa
