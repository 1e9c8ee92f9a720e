/- A region that draws its order, inside a fence: one goal for each operation, in whatever order they come; no program's number is named here. -/
import Derived.Test.YtiojfpdjnblkhaaQInw
import Derived.OrdersIn
import Derived.TacticsIn
namespace Go.Proofs.Ytiojfpdjnblkhaa

section
variable {F : Fence} {n : Nat} {P : Program} {ops : Array Oper} {Q : Exit → Act → World → Prop} {md : Region.Mode}

theorem wpOpIn_of_one {i : Nat} {o : Oper} (ho : ops[i]? = some o) {K : Act → World → Prop} {a : Act} {w : World} (h : wpListIn F n P ops (NormTo K Q) [o] a w) : wpOpIn F n P ops Q i K a w := by
 unfold wpOpIn
 simp only [ho]
 unfold wpListIn at h
 split
 ·rename_i hw
  rw [if_pos hw] at h
  unfold Oper.wpIn at *
  refine ⟨h.1, ?_⟩
  have h := h.2
  generalize (o.semAt F.round a.eval).run P w = r at *
  cases r with
  | ok x w' =>
   cases x <;> simp only [Oper.uponIn] at h ⊢ <;>
    first
     | exact h
     | exact ⟨h.1, CallsIn.mono h.2 (fun e w'' he => by cases e <;> first | exact he | exact he.elim fun _ he => he.elim fun _ he => (he : False).elim)⟩
     | exact ⟨h.1, RowsIn.mono h.2 (fun _ _ he => he)⟩
     | exact ⟨h.1, RoundIn.mono h.2 (fun e w'' he => by cases e <;> first | exact he | exact he.elim fun _ he => he.elim fun _ he => (he : False).elim)⟩
  | halt x w' => cases x <;> simp only [Oper.uponIn] at h ⊢ <;> exact h
 ·rename_i hw
  rw [if_neg hw] at h
  exact h

theorem wpAnyIn_inv (hf : fwdOps md ops = true) (I : (Nat → Bool) → Act → World → Prop)
  (hs : ∀ i o L a w, ops[i]? = some o → L i = false → Closed md ops L → (∀ e ∈ o.after, Region.binds md e = true → L e.on = true) → I L a w → wpListIn F n P ops (NormTo (I (More L i)) Q) [o] a w)
  (hQ : ∀ L a w, (∀ i, i < ops.size → L i = true) → I L a w → Q .normal a w) :
  ∀ fuel (listed : Array Bool) a w, listed.size = ops.size → listed.toList.count false ≤ fuel → Closed md ops (fun j => listed.getD j true) → I (fun j => listed.getD j true) a w → wpAnyIn F n P md ops Q fuel listed a w := by
 have fin : ∀ (listed : Array Bool) a w, listed.size = ops.size → I (fun j => listed.getD j true) a w → Region.ready md ops listed = [] → Q .normal a w := by
  intro listed a w hz hI hr
  exact hQ _ a w (fun i hi => ready_all hf hz hr (i + 1) i (by omega) hi) hI
 intro fuel
 induction fuel with
 | zero =>
  intro listed a w hz hc hcl hI
  have hr : Region.ready md ops listed = [] := by
   cases hr : Region.ready md ops listed with
   | nil => rfl
   | cons i l =>
    exfalso
    have hm : i ∈ Region.ready md ops listed := by rw [hr]; exact List.mem_cons_self
    obtain ⟨h0, o, ho, _⟩ := mem_ready.1 hm
    have hi : i < listed.size := by rw [hz]; exact (Array.getElem?_eq_some_iff.1 ho).1
    have hl : listed.toList[i]? = some false := by
     rw [Array.getElem?_toList, Array.getElem?_eq_getElem hi]
     simpa [Array.getD, hi] using h0
    have := count_more hl
    omega
  exact ⟨hr, fin listed a w hz hI hr⟩
 | succ fuel ih =>
  intro listed a w hz hc hcl hI
  refine ⟨fin listed a w hz hI, fun i hm => ?_⟩
  obtain ⟨h0, o, ho, hall⟩ := mem_ready.1 hm
  have hi : i < listed.size := by rw [hz]; exact (Array.getElem?_eq_some_iff.1 ho).1
  have hl : listed.toList[i]? = some false := by
   rw [Array.getElem?_toList, Array.getElem?_eq_getElem hi]
   simpa [Array.getD, hi] using h0
  have hc' := count_more hl
  have hd : ∀ e ∈ o.after, Region.binds md e = true → (fun j => listed.getD j true) e.on = true := by
   intro e he hb
   have h1 := hall e he hb
   have h2 : e.on < listed.size := by
    by_cases h : e.on < listed.size
    ·exact h
    ·simp [Array.getD, h] at h1
   simpa [Array.getD, h2] using h1
  refine wpOpIn_mono (fun a' w' h => ih (listed.setIfInBounds i true) a' w' (by simpa using hz) (by simp only [Array.toList_setIfInBounds]; omega) ?_ ?_)
   (wpOpIn_of_one ho (hs i o _ a w ho h0 hcl hd hI))
  all_goals
   have e : (fun j => (listed.setIfInBounds i true).getD j true) = More (fun j => listed.getD j true) i := by
    funext j
    unfold More
    by_cases hj : j = i
    ·subst hj
     simp [Array.getD, hi]
    ·rw [if_neg hj]
     simp only [Array.getD, Array.size_setIfInBounds]
     split
     ·rename_i hlt
      simp only [Array.getInternal_eq_getElem]
      rw [Array.getElem_setIfInBounds_ne (by omega) (by omega)]
     ·rfl
   rw [e]
   first | exact h | exact hcl.more ho hd

def EachOpIn (F : Fence) (n : Nat) (P : Program) (md : Region.Mode) (ops : Array Oper) (Q : Exit → Act → World → Prop) (I : (Nat → Bool) → Act → World → Prop) : List Oper → Nat → Prop
 | [], _ => True
 | o :: l, i => (∀ L a w K, L i = false → Closed md ops L → (∀ j, waitsB md o j = true → L j = true) → I L a w → (∀ a w, I (More L i) a w → K a w) → wpListIn F n P ops (NormTo K Q) [o] a w) ∧ EachOpIn F n P md ops Q I l (i + 1)

theorem EachOpIn.get {I : (Nat → Bool) → Act → World → Prop} : ∀ (l : List Oper) (k i : Nat) (o : Oper), EachOpIn F n P md ops Q I l k → l[i]? = some o →
  ∀ L a w K, L (k + i) = false → Closed md ops L → (∀ j, waitsB md o j = true → L j = true) → I L a w → (∀ a w, I (More L (k + i)) a w → K a w) → wpListIn F n P ops (NormTo K Q) [o] a w
 | [], _, _, _, _, h => by simp at h
 | x :: l, k, 0, o, h, ho => by
  simp at ho
  subst ho
  exact h.1
 | x :: l, k, i + 1, o, h, ho => by
  have := EachOpIn.get l (k + 1) i o h.2 (by simpa using ho)
  rwa [show k + 1 + i = k + (i + 1) by omega] at this

theorem wpIn_region_inv {id : Nat} {l : List Oper} {a : Act} {w : World} (hm : P.follows .mixedOrders = true) (hf : fwdOps .any l.toArray = true) (I : (Nat → Bool) → Act → World → Prop)
  (h0 : I (fun j => decide (l.length ≤ j)) a w.drew) (hs : EachOpIn F n P .any l.toArray Q I l 0) (hQ : ∀ L a w, (∀ i, i < l.length → L i = true) → I L a w → Q .normal a w) :
  (Code.region id l.toArray true).wpIn F n P Q a w := by
 refine wpIn_region_any hm (wpAnyIn_inv hf I (fun i o L a w ho hL hC hd hI => EachOpIn.get l 0 i o hs (by simpa using ho) L a w _ (by rwa [Nat.zero_add]) hC (waits_edge hd) hI (fun a w h => by rwa [Nat.zero_add] at h)) (fun L a w hL hI => hQ L a w (by simpa using hL) hI) _ _ a _ (by simp) ?_ ?_ ?_)
 ·simp only [Array.toList_replicate]
  exact Nat.le_trans List.count_le_length (by simp)
 ·intro i o ho hl j _
  have h1 := (Array.getElem?_eq_some_iff.1 ho).1
  simp only [Array.getD, Array.size_replicate] at hl
  rw [dif_pos (by simpa using h1)] at hl
  simp at hl
 ·have e : (fun j => (Array.replicate l.toArray.size false).getD j true) = fun j => decide (l.length ≤ j) := by
   funext j
   simp only [Array.getD, Array.size_replicate, List.size_toArray]
   split
   ·rename_i h
    simp; omega
   ·rename_i h
    simp; omega
  rw [e]
  exact h0

theorem wpIn_named {c : Code} {a : Act} {w : World} (h : ∀ a0, a0 = a → c.wpIn F n P Q a0 w) : c.wpIn F n P Q a w := h a rfl
end
end Go.Proofs.Ytiojfpdjnblkhaa
