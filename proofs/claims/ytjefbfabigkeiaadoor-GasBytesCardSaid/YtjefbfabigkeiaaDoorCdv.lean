/- A region that draws its order: one goal for each operation, in whatever order they come (the head of Inw, for seats without words). -/
import Derived.Orders
import Derived.Tactics
import Derived.Test.YtjefbfabigkeiaaDoorByt
namespace Go.Proofs.YtjefbfabigkeiaaDoor

/-- The post K at a normal end, Q at any other. -/
def NormTo (K : Act → World → Prop) (Q : Exit → Act → World → Prop) : Exit → Act → World → Prop
  | .normal, a, w => K a w
  | .outgrown, _, _ => False
  | e, a, w => Q e a w

/-- Each operation waits for earlier ones alone. -/
def fwdOps (md : Region.Mode) (ops : Array Oper) : Bool := (List.range ops.size).all fun i => ((ops[i]?).map (fun o => o.after.all fun e => !Region.binds md e || decide (e.on < i))).getD true

/-- L, and i. -/
def More (L : Nat → Bool) (i : Nat) : Nat → Bool := fun j => if j = i then true else L j

/-- The operation waits for number j. -/
def waitsB (md : Region.Mode) (o : Oper) (j : Nat) : Bool := o.after.toList.any fun e => e.on == j && Region.binds md e
/-- With each of L that for which it waits. -/
def Closed (md : Region.Mode) (ops : Array Oper) (L : Nat → Bool) : Prop := ∀ i o, ops[i]? = some o → L i = true → ∀ j, waitsB md o j = true → L j = true
theorem Closed.no {md : Region.Mode} {ops : Array Oper} {L : Nat → Bool} (h : Closed md ops L) {j : Nat} (hj : L j = false) (i : Nat) (o : Oper) (ho : ops[i]? = some o) (hw : waitsB md o j = true) : L i = false := by
  cases hi : L i with
  | false => rfl
  | true => rw [h i o ho hi j hw] at hj; exact hj
theorem more_ne {L : Nat → Bool} {i j : Nat} (h : More L i j = true) (hne : (j == i) = false) : L j = true := by
  unfold More at h
  rwa [if_neg (by simpa using hne)] at h
theorem waits_edge {md : Region.Mode} {o : Oper} {L : Nat → Bool} (h : ∀ e ∈ o.after, Region.binds md e = true → L e.on = true) (j : Nat) (hj : waitsB md o j = true) : L j = true := by
  unfold waitsB at hj
  obtain ⟨e, he, hb⟩ := List.any_eq_true.1 hj
  rw [Array.mem_toList_iff] at he
  simp only [Bool.and_eq_true, beq_iff_eq] at hb
  have := h e he hb.2
  rwa [hb.1] at this

section
variable {P : Program} {ops : Array Oper} {Q : Exit → Act → World → Prop} {md : Region.Mode}

theorem Closed.more {L : Nat → Bool} {i : Nat} {o : Oper} (h : Closed md ops L) (ho : ops[i]? = some o) (hd : ∀ e ∈ o.after, Region.binds md e = true → L e.on = true) : Closed md ops (More L i) := by
  intro k ok hk hl j hj
  unfold More at *
  split
  · rfl
  · split at hl
    · rename_i e
      subst e
      rw [ho] at hk
      injection hk with hk
      subst hk
      exact waits_edge hd j hj
    · exact h k ok hk hl j hj

theorem wpOp_of_one {i : Nat} {o : Oper} (ho : ops[i]? = some o) {K : Act → World → Prop} {a : Act} {w : World} (h : wpList P ops (NormTo K Q) [o] a w) : wpOp P ops Q i K a w := by
  unfold wpOp
  simp only [ho]
  unfold wpList at h
  split
  · rename_i hw
    rw [if_pos hw] at h
    rcases h with h | ⟨_, a', w', hl⟩
    · refine .inl ?_
      unfold Oper.wp at *
      generalize (execOp a.eval o).run P w = r at *
      cases r with
      | ok n w' =>
        cases n <;> simp only [Oper.upon] at h ⊢ <;>
          first
            | exact h
            | exact Calls.mono h (fun e w'' he => by
                cases e with
                | returned v => exact he
                | panicked c => exact he
                | outgrown => exact he.elim fun _ he => he.elim fun _ he => (he : False).elim)
      | halt x w' => cases x <;> simp only [Oper.upon] at h ⊢ <;> exact h
    · exact (hl : False).elim
  · rename_i hw
    rw [if_neg hw] at h
    exact h

theorem ready_all {listed : Array Bool} (hf : fwdOps md ops = true) (hz : listed.size = ops.size) (hr : Region.ready md ops listed = []) : ∀ n i, i < n → i < ops.size → listed.getD i true = true := by
  intro n
  induction n with
  | zero => intro i h _; exact absurd h (Nat.not_lt_zero _)
  | succ n ih =>
    intro i hi his
    cases hl : listed.getD i true with
    | true => rfl
    | false =>
      exfalso
      have hm : i ∈ Region.ready md ops listed := by
        refine mem_ready.2 ⟨hl, ops[i], Array.getElem?_eq_getElem his, fun e he hb => ?_⟩
        have h1 := List.all_eq_true.1 hf i (List.mem_range.2 his)
        rw [Array.getElem?_eq_getElem his] at h1
        simp only [Option.map_some, Option.getD_some] at h1
        have h2 : e.on < i := by
          have := Array.all_eq_true_iff_forall_mem.1 h1 e he
          simpa [hb] using this
        have h3 := ih e.on (by omega) (by omega)
        have h4 : e.on < listed.size := by omega
        simpa [Array.getD, h4] using h3
      rw [hr] at hm
      cases hm

theorem count_more {l : List Bool} {i : Nat} (h : l[i]? = some false) : (l.set i true).count false + 1 = l.count false := by
  induction l generalizing i with
  | nil => simp at h
  | cons b l ih =>
    cases i with
    | zero =>
      simp at h
      subst h
      simp
    | succ i =>
      simp at h
      have := ih h
      simp only [List.set_cons_succ, List.count_cons]
      omega

theorem wpAny_inv (hf : fwdOps md ops = true) (I : (Nat → Bool) → Act → World → Prop)
    (hs : ∀ i o L a w, ops[i]? = some o → L i = false → Closed md ops L → (∀ e ∈ o.after, Region.binds md e = true → L e.on = true) → I L a w → wpList P ops (NormTo (I (More L i)) Q) [o] a w)
    (hQ : ∀ L a w, (∀ i, i < ops.size → L i = true) → I L a w → Q .normal a w) :
    ∀ fuel (listed : Array Bool) a w, listed.size = ops.size → listed.toList.count false ≤ fuel → Closed md ops (fun j => listed.getD j true) → I (fun j => listed.getD j true) a w → wpAny P md ops Q fuel listed a w := by
  have fin : ∀ (listed : Array Bool) a w, listed.size = ops.size → I (fun j => listed.getD j true) a w → Region.ready md ops listed = [] → Q .normal a w := by
    intro listed a w hz hI hr
    exact hQ _ a w (fun i hi => ready_all hf hz hr (i + 1) i (by omega) hi) hI
  intro fuel
  induction fuel with
  | zero =>
    intro listed a w hz hc hcl hI
    have hr : Region.ready md ops listed = [] := by
      cases hr : Region.ready md ops listed with
      | nil => rfl
      | cons i l =>
        exfalso
        have hm : i ∈ Region.ready md ops listed := by rw [hr]; exact List.mem_cons_self
        obtain ⟨h0, o, ho, _⟩ := mem_ready.1 hm
        have hi : i < listed.size := by rw [hz]; exact (Array.getElem?_eq_some_iff.1 ho).1
        have hl : listed.toList[i]? = some false := by
          rw [Array.getElem?_toList, Array.getElem?_eq_getElem hi]
          simpa [Array.getD, hi] using h0
        have := count_more hl
        omega
    exact ⟨hr, fin listed a w hz hI hr⟩
  | succ fuel ih =>
    intro listed a w hz hc hcl hI
    refine ⟨fin listed a w hz hI, fun i hm => ?_⟩
    obtain ⟨h0, o, ho, hall⟩ := mem_ready.1 hm
    have hi : i < listed.size := by rw [hz]; exact (Array.getElem?_eq_some_iff.1 ho).1
    have hl : listed.toList[i]? = some false := by
      rw [Array.getElem?_toList, Array.getElem?_eq_getElem hi]
      simpa [Array.getD, hi] using h0
    have hc' := count_more hl
    have hd : ∀ e ∈ o.after, Region.binds md e = true → (fun j => listed.getD j true) e.on = true := by
      intro e he hb
      have h1 := hall e he hb
      have h2 : e.on < listed.size := by
        by_cases h : e.on < listed.size
        · exact h
        · simp [Array.getD, h] at h1
      simpa [Array.getD, h2] using h1
    refine wpOp_mono (fun a' w' h => ih (listed.setIfInBounds i true) a' w' (by simpa using hz) (by simp only [Array.toList_setIfInBounds]; omega) ?_ ?_)
      (wpOp_of_one ho (hs i o _ a w ho h0 hcl hd hI))
    all_goals
      have e : (fun j => (listed.setIfInBounds i true).getD j true) = More (fun j => listed.getD j true) i := by
        funext j
        unfold More
        by_cases hj : j = i
        · subst hj
          simp [Array.getD, hi]
        · rw [if_neg hj]
          simp only [Array.getD, Array.size_setIfInBounds]
          split
          · rename_i hlt
            simp only [Array.getInternal_eq_getElem]
            rw [Array.getElem_setIfInBounds_ne (by omega) (by omega)]
          · rfl
      rw [e]
      first | exact h | exact hcl.more ho hd

/-- One goal for each operation of the list. -/
def EachOp (P : Program) (md : Region.Mode) (ops : Array Oper) (Q : Exit → Act → World → Prop) (I : (Nat → Bool) → Act → World → Prop) : List Oper → Nat → Prop
  | [], _ => True
  | o :: l, i => (∀ L a w K, L i = false → Closed md ops L → (∀ j, waitsB md o j = true → L j = true) → I L a w → (∀ a w, I (More L i) a w → K a w) → wpList P ops (NormTo K Q) [o] a w) ∧ EachOp P md ops Q I l (i + 1)

theorem EachOp.get {I : (Nat → Bool) → Act → World → Prop} : ∀ (l : List Oper) (k i : Nat) (o : Oper), EachOp P md ops Q I l k → l[i]? = some o →
    ∀ L a w K, L (k + i) = false → Closed md ops L → (∀ j, waitsB md o j = true → L j = true) → I L a w → (∀ a w, I (More L (k + i)) a w → K a w) → wpList P ops (NormTo K Q) [o] a w
  | [], _, _, _, _, h => by simp at h
  | x :: l, k, 0, o, h, ho => by
    simp at ho
    subst ho
    exact h.1
  | x :: l, k, i + 1, o, h, ho => by
    have := EachOp.get l (k + 1) i o h.2 (by simpa using ho)
    rwa [show k + 1 + i = k + (i + 1) by omega] at this

theorem wp_region_inv {id : Nat} {l : List Oper} {a : Act} {w : World} (hm : P.follows .mixedOrders = true) (hf : fwdOps .any l.toArray = true) (I : (Nat → Bool) → Act → World → Prop)
    (h0 : I (fun j => decide (l.length ≤ j)) a w.drew) (hs : EachOp P .any l.toArray Q I l 0) (hQ : ∀ L a w, (∀ i, i < l.length → L i = true) → I L a w → Q .normal a w) :
    (Code.region id l.toArray true).wp P Q a w := by
  refine wp_region_any hm (wpAny_inv hf I (fun i o L a w ho hL hC hd hI => EachOp.get l 0 i o hs (by simpa using ho) L a w _ (by rwa [Nat.zero_add]) hC (waits_edge hd) hI (fun a w h => by rwa [Nat.zero_add] at h)) (fun L a w hL hI => hQ L a w (by simpa using hL) hI) _ _ a _ (by simp) ?_ ?_ ?_)
  · simp only [Array.toList_replicate]
    exact Nat.le_trans List.count_le_length (by simp)
  · intro i o ho hl j _
    have h1 := (Array.getElem?_eq_some_iff.1 ho).1
    simp only [Array.getD, Array.size_replicate] at hl
    rw [dif_pos (by simpa using h1)] at hl
    simp at hl
  · have e : (fun j => (Array.replicate l.toArray.size false).getD j true) = fun j => decide (l.length ≤ j) := by
      funext j
      simp only [Array.getD, Array.size_replicate, List.size_toArray]
      split
      · rename_i h
        simp; omega
      · rename_i h
        simp; omega
    rw [e]
    exact h0

/-- The frame under a name. -/
theorem wp_named {c : Code} {a : Act} {w : World} (h : ∀ a0, a0 = a → c.wp P Q a0 w) : c.wp P Q a w := h a rfl
end
end Go.Proofs.YtjefbfabigkeiaaDoor
namespace Go.Proofs.YtjefbfabigkeiaaDoor

/-- The values of the operations, and one more. -/
def upd (V : Nat → Value) (i : Nat) (x : Value) : Nat → Value := fun j => if j = i then x else V j
/-- What the operations of L have answered. -/
def Vals (val : Nat → Option Value) (L : Nat → Bool) (V : Nat → Value) : Prop := ∀ j x, val j = some x → L j = true → V j = x
theorem Vals.up {val : Nat → Option Value} {L : Nat → Bool} {V : Nat → Value} (h : Vals val L V) (i : Nat) (y : Value) (hy : ∀ x, val i = some x → y = x) : Vals val (More L i) (upd V i y) := by
  intro j x hx hj
  unfold upd
  split
  · rename_i e
    subst e
    exact hy x hx
  · rename_i e
    exact h j x hx (more_ne hj (by simpa using e))
theorem Vals.st {val : Nat → Option Value} {L : Nat → Bool} {V : Nat → Value} (h : Vals val L V) (i : Nat) (hy : val i = none) : Vals val (More L i) V := by
  intro j x hx hj
  by_cases e : j = i
  · subst e
    rw [hy] at hx
    cases hx
  · exact h j x hx (more_ne hj (by simpa using e))
theorem Vals.no (val : Nat → Option Value) (n : Nat) (V : Nat → Value) (h : ∀ j, n ≤ j → val j = none) : Vals val (fun j => decide (n ≤ j)) V := by
  intro j x hx hj
  rw [h j (by simpa using hj)] at hx
  cases hx
theorem far_none (l : List (Option Value)) (n : Nat) (hn : l.length = n) (j : Nat) (hj : n ≤ j) : l.getD j none = none := by
  rw [List.getD_eq_getElem?_getD, List.getElem?_eq_none (by omega)]
  rfl
end Go.Proofs.YtjefbfabigkeiaaDoor
namespace Go.Proofs.YtjefbfabigkeiaaDoor
open Go.RowKit
end Go.Proofs.YtjefbfabigkeiaaDoor
