/- Mathematics for the document's Reach and Keep: rows that are laid anew, with one put in, or left out. -/
import Derived.Test.YtjampleddeidaaaQAcm
import Derived.Test.YtjampleddeidaaaQAcw
namespace Go.Proofs.Ytjampleddeidaaa
open Go.ChangeShapes Go.WideShapes Go.ChangeAt Go.RowKit Go.Shelf

def ltR (l : List Pe) (c k : Nat) : List Pe := (l.take k).filter fun q => decide (q.cod < c)
def geR (l : List Pe) (c k : Nat) : List Pe := (l.take k).filter fun q => decide (c ≤ q.cod)
def gtR (l : List Pe) (c k : Nat) : List Pe := (l.take k).filter fun q => decide (c < q.cod)
def outR (z : Bool) (l : List Pe) (p : Pe) (k : Nat) : List Pe := if z then ltR l p.cod k ++ gtR l p.cod k else ltR l p.cod k ++ (if (geR l p.cod k).isEmpty then [] else p :: gtR l p.cod k)
def laidR (z : Bool) (l : List Pe) (c k : Nat) : Bool := z || !(geR l c k).isEmpty
def coldR (l : List Pe) (c k : Nat) : Bool := !((l.take k).any fun q => decide (q.cod = c))
theorem takeX_snoc (l : List Pe) (k : Nat) (hk : k < l.length) : l.take (k + 1) = l.take k ++ [l.getD k pz0] := by
  rw [List.take_succ_eq_append_getElem hk]
  simp [List.getD, hk]
theorem filtR_snoc (l : List Pe) (f : Pe → Bool) (k : Nat) (hk : k < l.length) : (l.take (k + 1)).filter f = (l.take k).filter f ++ (if f (l.getD k pz0) = true then [l.getD k pz0] else []) := by
  rw [takeX_snoc l k hk, List.filter_append, List.filter_cons, List.filter_nil]
theorem ltR_snoc (l : List Pe) (c k : Nat) (hk : k < l.length) : ltR l c (k + 1) = ltR l c k ++ (if (l.getD k pz0).cod < c then [l.getD k pz0] else []) := by
  unfold ltR
  rw [filtR_snoc l _ k hk]
  simp only [decide_eq_true_eq]
theorem geR_snoc (l : List Pe) (c k : Nat) (hk : k < l.length) : geR l c (k + 1) = geR l c k ++ (if c ≤ (l.getD k pz0).cod then [l.getD k pz0] else []) := by
  unfold geR
  rw [filtR_snoc l _ k hk]
  simp only [decide_eq_true_eq]
theorem gtR_snoc (l : List Pe) (c k : Nat) (hk : k < l.length) : gtR l c (k + 1) = gtR l c k ++ (if c < (l.getD k pz0).cod then [l.getD k pz0] else []) := by
  unfold gtR
  rw [filtR_snoc l _ k hk]
  simp only [decide_eq_true_eq]
theorem mem_takeR {l : List Pe} {k : Nat} {q : Pe} (h : q ∈ l.take k) : ∃ i, i < k ∧ i < l.length ∧ l.getD i pz0 = q := by
  obtain ⟨i, hi, e⟩ := List.getElem_of_mem h
  have h1 : i < k ∧ i < l.length := by rw [List.length_take] at hi; omega
  refine ⟨i, h1.1, h1.2, ?_⟩
  rw [← e, List.getElem_take, List.getD_eq_getElem?_getD, List.getElem?_eq_getElem h1.2]
  rfl
theorem geR_none {l : List Pe} (hr : RiseX l) (c k : Nat) (hk : k < l.length) (h : (l.getD k pz0).cod ≤ c) : geR l c k = [] := by
  unfold geR
  rw [List.filter_eq_nil_iff]
  intro q hq
  obtain ⟨i, h1, h2, rfl⟩ := mem_takeR hq
  have := hr i k h1 hk
  rw [decide_eq_true_eq]
  omega
theorem gtR_of_ge {l : List Pe} {c k : Nat} (h : geR l c k = []) : gtR l c k = [] := by
  unfold gtR geR at *
  rw [List.filter_eq_nil_iff] at *
  intro q hq
  have := h q hq
  simp at *
  omega
theorem isEmpty_snoc (l : List Pe) (p : Pe) : (l ++ [p]).isEmpty = false := by simp
theorem outR_lt {z : Bool} {l : List Pe} (hr : RiseX l) {p : Pe} {k : Nat} (hk : k < l.length) (h : (l.getD k pz0).cod < p.cod) :
    laidR z l p.cod k = z ∧ outR z l p (k + 1) = outR z l p k ++ [l.getD k pz0] ∧ laidR z l p.cod (k + 1) = z ∧ coldR l p.cod (k + 1) = coldR l p.cod k := by
  have h0 := geR_none hr p.cod k hk (by omega)
  have h1 : geR l p.cod (k + 1) = [] := by rw [geR_snoc l _ k hk, h0, if_neg (by omega)]; rfl
  have h2 := gtR_of_ge h0
  have h3 := gtR_of_ge h1
  refine ⟨?_, ?_, ?_, ?_⟩
  · unfold laidR; rw [h0]; cases z <;> rfl
  · unfold outR
    rw [h0, h1, h2, h3, ltR_snoc l _ k hk, if_pos h]
    cases z <;> simp
  · unfold laidR; rw [h1]; cases z <;> rfl
  · unfold coldR
    rw [takeX_snoc l k hk, List.any_append, show ([l.getD k pz0].any fun q => decide (q.cod = p.cod)) = false by rw [List.any_cons, List.any_nil, decide_eq_false (by omega)]; rfl, Bool.or_false]
theorem outR_eq {z : Bool} {l : List Pe} (hr : RiseX l) {p : Pe} {k : Nat} (hk : k < l.length) (h : (l.getD k pz0).cod = p.cod) :
    laidR z l p.cod k = z ∧ outR z l p (k + 1) = (if z then outR z l p k else outR z l p k ++ [p]) ∧ laidR z l p.cod (k + 1) = true ∧ coldR l p.cod (k + 1) = false := by
  have h0 := geR_none hr p.cod k hk (by omega)
  have h1 : geR l p.cod (k + 1) = [l.getD k pz0] := by rw [geR_snoc l _ k hk, h0, if_pos (by omega)]; rfl
  have h2 := gtR_of_ge h0
  have h3 : gtR l p.cod (k + 1) = [] := by rw [gtR_snoc l _ k hk, h2, if_neg (by omega)]; rfl
  refine ⟨?_, ?_, ?_, ?_⟩
  · unfold laidR; rw [h0]; cases z <;> rfl
  · unfold outR
    rw [h0, h1, h2, h3, ltR_snoc l _ k hk, if_neg (show ¬ (l.getD k pz0).cod < p.cod by omega)]
    cases z <;> simp
  · unfold laidR; rw [h1]; cases z <;> rfl
  · unfold coldR
    rw [takeX_snoc l k hk, List.any_append, show ([l.getD k pz0].any fun q => decide (q.cod = p.cod)) = true by rw [List.any_cons, List.any_nil, decide_eq_true h]; rfl, Bool.or_true]
    rfl
theorem outR_gt {z : Bool} {l : List Pe} {p : Pe} {k : Nat} (hk : k < l.length) (h : p.cod < (l.getD k pz0).cod) :
    outR z l p (k + 1) = (if laidR z l p.cod k then outR z l p k else outR z l p k ++ [p]) ++ [l.getD k pz0] ∧ laidR z l p.cod (k + 1) = true ∧ coldR l p.cod (k + 1) = coldR l p.cod k := by
  have h1 : geR l p.cod (k + 1) = geR l p.cod k ++ [l.getD k pz0] := by rw [geR_snoc l _ k hk, if_pos (by omega)]
  have h2 : gtR l p.cod (k + 1) = gtR l p.cod k ++ [l.getD k pz0] := by rw [gtR_snoc l _ k hk, if_pos h]
  have h3 : ltR l p.cod (k + 1) = ltR l p.cod k := by rw [ltR_snoc l _ k hk, if_neg (by omega), List.append_nil]
  refine ⟨?_, ?_, ?_⟩
  · unfold outR laidR
    rw [h1, h2, h3, isEmpty_snoc]
    cases z with
    | true => simp
    | false =>
      cases hg : (geR l p.cod k).isEmpty with
      | true => have := gtR_of_ge (List.isEmpty_iff.1 hg); simp [this]
      | false => simp
  · unfold laidR; rw [h1, isEmpty_snoc]; cases z <;> rfl
  · unfold coldR
    rw [takeX_snoc l k hk, List.any_append, show ([l.getD k pz0].any fun q => decide (q.cod = p.cod)) = false by rw [List.any_cons, List.any_nil, decide_eq_false (by omega)]; rfl, Bool.or_false]
theorem coldR_not {z : Bool} {l : List Pe} {c k : Nat} (h : laidR z l c k = false) : coldR l c k = true := by
  unfold laidR at h
  rw [Bool.or_eq_false_iff, Bool.not_eq_false'] at h
  have h2 := List.isEmpty_iff.1 h.2
  unfold geR at h2
  rw [List.filter_eq_nil_iff] at h2
  unfold coldR
  rw [Bool.not_eq_true', List.any_eq_false]
  intro q hq
  have := h2 q hq
  simp at *
  omega
theorem filt_ne {l : List Pe} (hr : RiseX l) (c : Nat) : (l.filter fun q => decide (q.cod < c)) ++ (l.filter fun q => decide (c < q.cod)) = dlX l c := by
  refine rise_same ((riseX_iff _).2 ?_) ((riseX_iff _).2 (((riseX_iff l).1 hr).filter _)) fun q => ?_
  · have hp := (riseX_iff l).1 hr
    refine List.pairwise_append.2 ⟨hp.filter _, hp.filter _, fun a ha b hb => ?_⟩
    have h1 := (List.mem_filter.1 ha).2
    have h2 := (List.mem_filter.1 hb).2
    simp at h1 h2
    omega
  · unfold dlX
    rw [List.mem_append, List.mem_filter, List.mem_filter, List.mem_filter]
    simp
    by_cases hq : q ∈ l
    · simp [hq]; omega
    · simp [hq]
theorem outR_all {z : Bool} {l : List Pe} (hr : RiseX l) (p : Pe) : (if laidR z l p.cod l.length then outR z l p l.length else outR z l p l.length ++ [p]) = if z then dlX l p.cod else plX l p := by
  unfold outR laidR ltR geR gtR plX
  rw [List.take_length]
  cases z with
  | true => simpa using filt_ne hr p.cod
  | false =>
    cases hg : (l.filter fun q => decide (p.cod ≤ q.cod)).isEmpty with
    | true =>
      have h0 : (l.filter fun q => decide (p.cod < q.cod)) = [] := by
        have := List.isEmpty_iff.1 hg
        rw [List.filter_eq_nil_iff] at *
        intro q hq
        have := this q hq
        simp at *
        omega
      simp [h0]
    | false => simp
theorem coldR_all {l : List Pe} (hr : RiseX l) (c : Nat) : coldR l c l.length = !hasX l c := by
  unfold coldR
  rw [List.take_length]
  congr 1
  cases hh : hasX l c with
  | true =>
    obtain ⟨p, hp, e⟩ := (hasX_iff hr).1 hh
    exact List.any_eq_true.2 ⟨p, hp, by simp [e]⟩
  | false =>
    rw [List.any_eq_false]
    intro q hq
    simp
    intro e
    have := (hasX_iff hr).2 ⟨q, hq, e⟩
    rw [hh] at this
    cases this
theorem outR_len (z : Bool) (l : List Pe) (p : Pe) (k : Nat) : (outR z l p k).length ≤ l.length + 1 + l.length := by
  unfold outR
  have h1 : (ltR l p.cod k).length ≤ l.length := Nat.le_trans (List.length_filter_le _ _) (by rw [List.length_take]; omega)
  have h2 : (gtR l p.cod k).length ≤ l.length := Nat.le_trans (List.length_filter_le _ _) (by rw [List.length_take]; omega)
  split
  · rw [List.length_append]; omega
  · rw [List.length_append]
    split
    · simp; omega
    · rw [List.length_cons]; omega
theorem outR_zero (z : Bool) (l : List Pe) (p : Pe) : outR z l p 0 = [] ∧ laidR z l p.cod 0 = z ∧ coldR l p.cod 0 = true := by
  unfold outR laidR coldR ltR gtR geR
  cases z <;> simp
end Go.Proofs.Ytjampleddeidaaa
