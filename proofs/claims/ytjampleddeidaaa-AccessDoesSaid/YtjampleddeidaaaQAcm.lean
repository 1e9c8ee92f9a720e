/- Package access: rows that rise, by mathematics. -/
import Derived.Test.YtjampleddeidaaaQAca
namespace Go.Proofs.Ytjampleddeidaaa
open Go.ChangeShapes Go.WideShapes Go.ChangeAt Go.RowKit Go.Shelf

def RiseX (l : List Pe) : Prop := ∀ i j, i < j → j < l.length → (l.getD i pz0).cod < (l.getD j pz0).cod
def posX (l : List Pe) (k : Nat) : Nat := (l.filter fun p => decide (p.cod < k)).length
def hasX (l : List Pe) (k : Nat) : Bool := decide (posX l k < l.length) && decide ((l.getD (posX l k) pz0).cod = k)
theorem posX_le (l : List Pe) (k : Nat) : posX l k ≤ l.length := List.length_filter_le _ _
theorem posX_lt : ∀ (l : List Pe) (k : Nat), RiseX l → ∀ i, i < l.length → ((l.getD i pz0).cod < k ↔ i < posX l k)
  | [], k, _, i, hi => by simp at hi
  | p :: l, k, hr, i, hi => by
    have hr' : RiseX l := fun a b hab hb => by
      have := hr (a + 1) (b + 1) (by omega) (by simp; omega)
      simpa using this
    have ih := posX_lt l k hr'
    by_cases hp : p.cod < k
    · have e : posX (p :: l) k = posX l k + 1 := by unfold posX; simp [hp]
      rw [e]
      cases i with
      | zero => simpa using hp
      | succ i =>
        have := ih i (by simpa using hi)
        simp only [List.getD_cons_succ]
        omega
    · have e : posX (p :: l) k = posX l k := by unfold posX; simp [hp]
      have h0 : posX l k = 0 := by
        rcases Nat.eq_zero_or_pos (posX l k) with h | h
        · exact h
        · have hl : 0 < l.length := Nat.lt_of_lt_of_le h (posX_le l k)
          have h1 := (ih 0 hl).2 h
          have h2 := hr 0 1 (by omega) (by simp; omega)
          simp at h2
          simp [List.getD] at h1 h2 ⊢
          omega
      rw [e, h0]
      cases i with
      | zero => simp [hp]
      | succ i =>
        have h2 := hr 0 (i + 1) (by omega) hi
        simp only [List.getD_cons_zero, List.getD_cons_succ] at h2 ⊢
        omega
theorem hasX_lt {l : List Pe} {k : Nat} (h : hasX l k = true) : posX l k < l.length := by
  unfold hasX at h
  simp only [Bool.and_eq_true, decide_eq_true_eq] at h
  exact h.1
theorem filter_takeX : ∀ (l : List Pe) (f : Pe → Bool) (n : Nat), (∀ i, i < l.length → (f (l.getD i pz0) = true ↔ i < n)) → l.filter f = l.take n
  | [], f, n, _ => by simp
  | p :: l, f, 0, h => by
    have h0 : f p = false := by have := h 0 (by simp); simpa using this
    rw [List.filter_cons, if_neg (by rw [h0]; simp), List.take_zero, List.filter_eq_nil_iff]
    intro q hq
    obtain ⟨i, hi, e⟩ := List.getElem_of_mem hq
    have := h (i + 1) (by simpa using hi)
    rw [List.getD_cons_succ, List.getD_eq_getElem?_getD, List.getElem?_eq_getElem hi] at this
    simpa [e] using this
  | p :: l, f, n + 1, h => by
    have h0 : f p = true := by have := h 0 (by simp); simpa using this
    rw [List.filter_cons, if_pos h0, List.take_succ_cons, filter_takeX l f n (fun i hi => by have := h (i + 1) (by simpa using hi); simpa using this)]
theorem filter_dropX : ∀ (l : List Pe) (f : Pe → Bool) (n : Nat), (∀ i, i < l.length → (f (l.getD i pz0) = true ↔ n ≤ i)) → l.filter f = l.drop n
  | [], f, n, _ => by simp
  | p :: l, f, 0, h => by
    have h0 : f p = true := by have := h 0 (by simp); simpa using this
    rw [List.filter_cons, if_pos h0, List.drop_zero, filter_dropX l f 0 (fun i hi => by have := h (i + 1) (by simpa using hi); simpa using this), List.drop_zero]
  | p :: l, f, n + 1, h => by
    have h0 : f p = false := by have := h 0 (by simp); simpa using this
    rw [List.filter_cons, if_neg (by rw [h0]; simp), List.drop_succ_cons, filter_dropX l f n (fun i hi => by have := h (i + 1) (by simpa using hi); simpa using this)]
theorem filt_ltX {l : List Pe} (h : RiseX l) (k : Nat) : l.filter (fun q => decide (q.cod < k)) = l.take (posX l k) :=
  filter_takeX l _ _ (fun i hi => by rw [decide_eq_true_eq]; exact posX_lt l k h i hi)
theorem filt_gtX {l : List Pe} (h : RiseX l) (k : Nat) : l.filter (fun q => decide (k < q.cod)) = l.drop (posX l k + if hasX l k then 1 else 0) :=
  filter_dropX l _ _ (fun i hi => by
    rw [decide_eq_true_eq]
    have h1 := posX_lt l k h i hi
    have hle := posX_le l k
    cases hh : hasX l k with
    | true =>
      unfold hasX at hh
      simp only [Bool.and_eq_true, decide_eq_true_eq] at hh
      rw [if_pos rfl]
      constructor
      · intro hk
        rcases Nat.lt_or_ge (posX l k) i with hlt | hge
        · exact hlt
        · rcases Nat.lt_or_eq_of_le hge with hlt | he
          · have := h1.2 hlt; omega
          · rw [← he] at hh; omega
      · intro hk
        have := h (posX l k) i (by omega) hi
        omega
    | false =>
      rw [if_neg (by simp), Nat.add_zero]
      constructor
      · intro hk
        rcases Nat.lt_or_ge i (posX l k) with hlt | hge
        · have := h1.2 hlt; omega
        · exact hge
      · intro hk
        have hge : ¬ (l.getD i pz0).cod < k := fun hlt => by have := h1.1 hlt; omega
        rcases Nat.lt_or_eq_of_le hk with hlt | he
        · have h2 := h (posX l k) i hlt hi
          have h3 : ¬ (l.getD (posX l k) pz0).cod < k := fun hx => by have := (posX_lt l k h _ (by omega)).1 hx; omega
          omega
        · refine Nat.lt_of_le_of_ne (by omega) (fun e => ?_)
          unfold hasX at hh
          rw [he, decide_eq_true (show i < l.length from hi), ← e] at hh
          simp at hh)
def plX (l : List Pe) (p : Pe) : List Pe := l.filter (fun q => decide (q.cod < p.cod)) ++ p :: l.filter (fun q => decide (p.cod < q.cod))
theorem plX_eq {l : List Pe} (hr : RiseX l) (p : Pe) : plX l p = l.take (posX l p.cod) ++ p :: l.drop (posX l p.cod + if hasX l p.cod then 1 else 0) := by
  unfold plX
  rw [filt_ltX hr, filt_gtX hr]
theorem set_take (l : List Pe) (i : Nat) (hi : i < l.length) (p : Pe) : l.set i p = l.take i ++ p :: l.drop (i + 1) := by
  rw [List.set_eq_take_append_cons_drop, if_pos hi]
theorem riseX_iff (l : List Pe) : RiseX l ↔ l.Pairwise (fun p q => p.cod < q.cod) := by
  unfold RiseX
  rw [List.pairwise_iff_getElem]
  constructor
  · intro h i j hi hj hij
    have := h i j hij hj
    rw [List.getD_eq_getElem?_getD, List.getD_eq_getElem?_getD, List.getElem?_eq_getElem hi, List.getElem?_eq_getElem hj] at this
    exact this
  · intro h i j hij hj
    have := h i j (by omega) hj hij
    rw [List.getD_eq_getElem?_getD, List.getD_eq_getElem?_getD, List.getElem?_eq_getElem (show i < l.length by omega), List.getElem?_eq_getElem hj]
    exact this
theorem getX_mem {l : List Pe} {i : Nat} (hi : i < l.length) : l.getD i pz0 ∈ l := by
  rw [List.getD_eq_getElem?_getD, List.getElem?_eq_getElem hi]
  exact List.getElem_mem hi
theorem memX_get {l : List Pe} {p : Pe} (h : p ∈ l) : ∃ i, i < l.length ∧ l.getD i pz0 = p := by
  obtain ⟨i, hi, e⟩ := List.getElem_of_mem h
  exact ⟨i, hi, by rw [List.getD_eq_getElem?_getD, List.getElem?_eq_getElem hi, ← e]; rfl⟩
theorem posX_at {l : List Pe} (hr : RiseX l) {k : Nat} (hk : k < l.length) : posX l (l.getD k pz0).cod = k := by
  have h1 := posX_lt l (l.getD k pz0).cod hr k hk
  have h2 := posX_le l (l.getD k pz0).cod
  rcases Nat.lt_or_ge (posX l (l.getD k pz0).cod) k with h | h
  · have h3 := posX_lt l (l.getD k pz0).cod hr (posX l (l.getD k pz0).cod) (by omega)
    have h4 := hr _ _ h hk
    have := h3.1 h4
    omega
  · rcases Nat.lt_or_ge k (posX l (l.getD k pz0).cod) with h5 | h5
    · have := h1.2 h5
      omega
    · omega
theorem hasX_iff {l : List Pe} (hr : RiseX l) {c : Nat} : hasX l c = true ↔ ∃ p ∈ l, p.cod = c := by
  constructor
  · intro h
    have hi := hasX_lt h
    unfold hasX at h
    simp only [Bool.and_eq_true, decide_eq_true_eq] at h
    exact ⟨_, getX_mem hi, h.2⟩
  · rintro ⟨p, hp, rfl⟩
    obtain ⟨i, hi, rfl⟩ := memX_get hp
    unfold hasX
    rw [posX_at hr hi]
    simp [hi]
theorem mem_plX {l : List Pe} {p q : Pe} : q ∈ plX l p ↔ q = p ∨ (q ∈ l ∧ q.cod ≠ p.cod) := by
  unfold plX
  rw [List.mem_append, List.mem_cons, List.mem_filter, List.mem_filter, decide_eq_true_eq, decide_eq_true_eq]
  constructor
  · rintro (⟨h1, h2⟩ | h | ⟨h1, h2⟩)
    · exact .inr ⟨h1, by omega⟩
    · exact .inl h
    · exact .inr ⟨h1, by omega⟩
  · rintro (h | ⟨h1, h2⟩)
    · exact .inr (.inl h)
    · rcases Nat.lt_or_ge q.cod p.cod with h | h
      · exact .inl ⟨h1, h⟩
      · exact .inr (.inr ⟨h1, by omega⟩)
theorem plX_rise {l : List Pe} (hr : RiseX l) (p : Pe) : RiseX (plX l p) := by
  have h := (riseX_iff l).1 hr
  rw [riseX_iff]
  unfold plX
  rw [List.pairwise_append, List.pairwise_cons]
  refine ⟨h.filter _, ⟨fun q hq => ?_, h.filter _⟩, fun x hx y hy => ?_⟩
  · have := (List.mem_filter.1 hq).2
    simpa using this
  · have h1 := (List.mem_filter.1 hx).2
    rw [decide_eq_true_eq] at h1
    rcases List.mem_cons.1 hy with rfl | hy
    · exact h1
    · have h2 := (List.mem_filter.1 hy).2
      rw [decide_eq_true_eq] at h2
      omega
theorem plX_length {l : List Pe} (hr : RiseX l) (p : Pe) : (plX l p).length = l.length + (if hasX l p.cod then 0 else 1) := by
  have h1 := posX_le l p.cod
  rw [plX_eq hr, List.length_append, List.length_cons, List.length_take, List.length_drop]
  cases hh : hasX l p.cod with
  | true =>
    have := hasX_lt hh
    simp
    omega
  | false =>
    simp
    omega
theorem rise_same {l m : List Pe} (hl : RiseX l) (hm : RiseX m) (h : ∀ p, p ∈ l ↔ p ∈ m) : l = m := by
  rw [riseX_iff] at hl hm
  induction l generalizing m with
  | nil =>
    cases m with
    | nil => rfl
    | cons q m => exact absurd ((h q).2 List.mem_cons_self) (by simp)
  | cons p l ih =>
    cases m with
    | nil => exact absurd ((h p).1 List.mem_cons_self) (by simp)
    | cons q m =>
      obtain ⟨l1, l2⟩ := List.pairwise_cons.1 hl
      obtain ⟨m1, m2⟩ := List.pairwise_cons.1 hm
      have hpq : p = q := by
        rcases List.mem_cons.1 ((h p).1 List.mem_cons_self) with e | e
        · exact e
        · rcases List.mem_cons.1 ((h q).2 List.mem_cons_self) with e' | e'
          · exact e'.symm
          · have := m1 p e
            have := l1 q e'
            omega
      subst hpq
      rw [ih l2 m2 (fun z => ?_)]
      constructor
      · intro hz
        rcases List.mem_cons.1 ((h z).1 (List.mem_cons_of_mem _ hz)) with e | e
        · have := l1 z hz
          rw [e] at this
          omega
        · exact e
      · intro hz
        rcases List.mem_cons.1 ((h z).2 (List.mem_cons_of_mem _ hz)) with e | e
        · have := m1 z hz
          rw [e] at this
          omega
        · exact e
def rsB (l : List Pe) : Bool := decide (l.length ≤ 400) && (List.range l.length).all fun i => decide (i = 0) || decide ((l.getD (i - 1) pz0).cod < (l.getD i pz0).cod)
theorem rs_iff {l : List Pe} : rsB l = true ↔ l.length ≤ 400 ∧ RiseX l := by
  unfold rsB
  rw [Bool.and_eq_true, decide_eq_true_eq, List.all_eq_true]
  refine and_congr Iff.rfl ⟨fun h i j hij hj => ?_, fun h i hi => ?_⟩
  · induction j with
    | zero => omega
    | succ j ih =>
      have h1 := h (j + 1) (List.mem_range.2 hj)
      rw [decide_eq_false (by omega), Bool.false_or, decide_eq_true_eq, Nat.add_sub_cancel] at h1
      rcases Nat.lt_or_ge i j with hlt | hge
      · exact Nat.lt_trans (ih hlt (by omega)) h1
      · obtain rfl : i = j := by omega
        exact h1
  · have := List.mem_range.1 hi
    rw [Bool.or_eq_true, decide_eq_true_eq, decide_eq_true_eq]
    rcases Nat.eq_zero_or_pos i with h0 | h0
    · exact .inl h0
    · exact .inr (h (i - 1) i (by omega) this)
def ptE (l : List Pe) (x : Pe) : Int := if hasX l x.cod = false ∧ l.length = 400 then 6 else 0
def ptL (l : List Pe) (x : Pe) : List Pe := if ptE l x = 0 then plX l x else []
def ptB (l : List Pe) (x : Pe) : Bool := if ptE l x = 0 then !hasX l x.cod else false
theorem ptL_may {l : List Pe} (h : rsB l = true) (x : Pe) : rsB (ptL l x) = true := by
  obtain ⟨h1, h2⟩ := rs_iff.1 h
  unfold ptL
  split
  · rename_i he
    refine rs_iff.2 ⟨?_, plX_rise h2 x⟩
    rw [plX_length h2 x]
    unfold ptE at he
    cases hh : hasX l x.cod with
    | true => simpa using h1
    | false =>
      rw [hh] at he
      have : l.length ≠ 400 := fun e => by rw [if_pos ⟨rfl, e⟩] at he; cases he
      simp
      omega
  · rfl
end Go.Proofs.Ytjampleddeidaaa
