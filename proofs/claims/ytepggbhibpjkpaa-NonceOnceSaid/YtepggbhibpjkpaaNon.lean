/- Package nonce: nonces as a table (plain mathematics). -/
import Derived.Test.YtepggbhibpjkpaaNom
namespace Go.Proofs.Ytepggbhibpjkpaa
open Go.ChangeShapes Go.WideShapes Go.ChangeAt Go.RowKit Go.Shelf

theorem riseN_iff (l : List Nn) : RiseN l ↔ l.Pairwise (fun p q => p.cod < q.cod) := by
  unfold RiseN
  rw [List.pairwise_iff_getElem]
  constructor
  · intro h i j hi hj hij
    have := h i j hij hj
    rw [List.getD_eq_getElem?_getD, List.getD_eq_getElem?_getD, List.getElem?_eq_getElem hi, List.getElem?_eq_getElem hj] at this
    exact this
  · intro h i j hij hj
    have := h i j (by omega) hj hij
    rw [List.getD_eq_getElem?_getD, List.getD_eq_getElem?_getD, List.getElem?_eq_getElem (show i < l.length by omega), List.getElem?_eq_getElem hj]
    exact this
theorem getN_mem {l : List Nn} {i : Nat} (hi : i < l.length) : l.getD i nz0 ∈ l := by
  rw [List.getD_eq_getElem?_getD, List.getElem?_eq_getElem hi]
  exact List.getElem_mem hi
theorem memN_get {l : List Nn} {p : Nn} (h : p ∈ l) : ∃ i, i < l.length ∧ l.getD i nz0 = p := by
  obtain ⟨i, hi, e⟩ := List.getElem_of_mem h
  exact ⟨i, hi, by rw [List.getD_eq_getElem?_getD, List.getElem?_eq_getElem hi, ← e]; rfl⟩
theorem posN_at {l : List Nn} (hr : RiseN l) {k : Nat} (hk : k < l.length) : posN l (l.getD k nz0).cod = k := by
  have h1 := posN_lt l (l.getD k nz0).cod hr k hk
  have h2 := posN_le l (l.getD k nz0).cod
  rcases Nat.lt_or_ge (posN l (l.getD k nz0).cod) k with h | h
  · have h3 := posN_lt l (l.getD k nz0).cod hr (posN l (l.getD k nz0).cod) (by omega)
    have h4 := hr _ _ h hk
    have := h3.1 h4
    omega
  · rcases Nat.lt_or_ge k (posN l (l.getD k nz0).cod) with h5 | h5
    · have := h1.2 h5
      omega
    · omega
theorem hasN_iff {l : List Nn} (hr : RiseN l) {c : Nat} : hasN l c = true ↔ ∃ p ∈ l, p.cod = c := by
  constructor
  · intro h
    have hi := hasN_lt h
    unfold hasN at h
    simp only [Bool.and_eq_true, decide_eq_true_eq] at h
    exact ⟨_, getN_mem hi, h.2⟩
  · rintro ⟨p, hp, rfl⟩
    obtain ⟨i, hi, rfl⟩ := memN_get hp
    unfold hasN
    rw [posN_at hr hi]
    simp [hi]
theorem rowN_mem {l : List Nn} (hr : RiseN l) {p : Nn} (hp : p ∈ l) : rowN l p.addr p.key = p := by
  unfold rowN
  have h : hasN l (cdN p.addr p.key) = true := (hasN_iff hr).2 ⟨p, hp, rfl⟩
  rw [h, if_pos rfl]
  obtain ⟨i, hi, rfl⟩ := memN_get hp
  rw [show cdN (l.getD i nz0).addr (l.getD i nz0).key = (l.getD i nz0).cod from rfl, posN_at hr hi]
theorem rowN_none {l : List Nn} (hr : RiseN l) {a k : Nat} (h : ∀ p ∈ l, p.cod ≠ cdN a k) : rowN l a k = ⟨a, k, 0⟩ := by
  unfold rowN
  cases hh : hasN l (cdN a k) with
  | false => rfl
  | true =>
    obtain ⟨p, hp, e⟩ := (hasN_iff hr).1 hh
    exact absurd e (h p hp)
theorem right_may {l : List Nn} (h : rightN l = true) {p : Nn} (hp : p ∈ l) : p.mayB = true := by
  obtain ⟨i, hi, rfl⟩ := memN_get hp
  exact (rgN_iff.1 (right_row h i hi)).1
theorem may_iff {p : Nn} (hk : p.key < M256) : p.mayB = true ↔ p.addr ≠ 0 ∧ p.key < K192 ∧ 0 < p.nxt := by
  unfold Nn.mayB
  rw [Bool.and_eq_true, Bool.and_eq_true, bne_iff_ne, keyB_iff hk, decide_eq_true_eq]
theorem faN_mem {l : List Nn} {a : Nat} {p : Nn} (h : p ∈ faN l a) : p ∈ l ∧ p.addr = a := by
  have := List.mem_filter.1 h
  exact ⟨this.1, by simpa using this.2⟩
/-- What is listed of an address: next of its keys, one behind the other. -/
theorem listed_at {l : List Nn} (hok : ∀ p ∈ l, p.ok) (h : rightN l = true) (a : Nat) {i : Nat} (hi : i < (faN l a).length) :
    keyN (jnP ((faN l a).getD i nz0)) < K192 ∧ nxE l a (keyN (jnP ((faN l a).getD i nz0))) = 0 ∧ nxW l a (keyN (jnP ((faN l a).getD i nz0))) = jnP ((faN l a).getD i nz0) ∧ 0 < seqN (jnP ((faN l a).getD i nz0)) := by
  have hm := getN_mem hi
  generalize (faN l a).getD i nz0 = p at *
  obtain ⟨hp, rfl⟩ := faN_mem hm
  obtain ⟨h1, h2, h3⟩ := (may_iff (hok p hp).2.1).1 (right_may h hp)
  obtain ⟨e1, e2⟩ := key_join p.key p.nxt h2 (hok p hp).2.2
  have e1' : keyN (jnP p) = p.key := e1
  have e2' : seqN (jnP p) = p.nxt := e2
  have e3 : nxE l p.addr p.key = 0 := by
    unfold nxE
    rw [h, if_pos rfl, if_neg h1, (keyB_iff (hok p hp).2.1).2 h2, if_pos rfl]
  rw [e1', e2']
  refine ⟨h2, e3, ?_, h3⟩
  unfold nxW
  rw [e3, if_pos rfl, rowN_mem (right_rise h) hp]
  rfl
theorem listed_rise {l : List Nn} (hok : ∀ p ∈ l, p.ok) (h : rightN l = true) (a : Nat) {i : Nat} (hi : i + 1 < (faN l a).length) : jnP ((faN l a).getD i nz0) < jnP ((faN l a).getD (i + 1) nz0) := by
  have hr : RiseN (faN l a) := (riseN_iff _).2 (((riseN_iff l).1 (right_rise h)).filter _)
  have h1 := hr i (i + 1) (by omega) hi
  have hm := getN_mem (show i < (faN l a).length by omega)
  have hm2 := getN_mem hi
  generalize (faN l a).getD i nz0 = p at *
  generalize (faN l a).getD (i + 1) nz0 = q at *
  obtain ⟨hp, rfl⟩ := faN_mem hm
  obtain ⟨hq, e⟩ := faN_mem hm2
  obtain ⟨_, h2, _⟩ := (may_iff (hok p hp).2.1).1 (right_may h hp)
  obtain ⟨_, h3, _⟩ := (may_iff (hok q hq).2.1).1 (right_may h hq)
  have h4 := (hok p hp).2.2
  have h5 := (hok q hq).2.2
  have h6 : p.key < q.key := by
    rcases (cdN_lt (hok p hp).2.1 (hok q hq).2.1).1 h1 with h | h
    · omega
    · exact h.2
  unfold jnP jnN B64
  rw [Nat.mod_eq_of_lt h2, Nat.mod_eq_of_lt h3]
  omega
theorem owN_get {l : List Nn} {a i : Nat} (hi : i < (faN l a).length) : ((faN l a).map jnP).getD i 0 = jnP ((faN l a).getD i nz0) := by
  rw [List.getD_eq_getElem?_getD, List.getElem?_map, List.getD_eq_getElem?_getD, List.getElem?_eq_getElem hi]
  rfl
theorem jnP_lt {l : List Nn} (hok : ∀ p ∈ l, p.ok) (a : Nat) {i : Nat} (hi : i < (faN l a).length) : jnP ((faN l a).getD i nz0) < M256 := jnN_lt _ _ (hok _ (faN_mem (getN_mem hi)).1).2.2
end Go.Proofs.Ytepggbhibpjkpaa
