/- Package ledger: a row put in wherever; the ledger of a teller. -/
import Derived.Test.YtjampleddeidaaaLhf
namespace Go.Proofs.Ytjampleddeidaaa
open Go.ChangeShapes Go.WideShapes Go.ChangeAt Go.RowKit Go.Shelf

set_option maxRecDepth 100000 in
theorem hdf_single (p : Hd) : hdf [p] = (hdc p).toList := by simp [hdf]
set_option maxRecDepth 100000 in
theorem own_addrH {W : World} {lo s n c m : Nat} {e : TypeId} {A : Option Addr} {cs : List Value} (h : W.ownsRow lo e s (.slice A n c) m cs) (hn : 0 < m) : ∃ b, A = some ⟨b, 0, none⟩ := by
  rcases h.2 with ⟨_, h0⟩ | ⟨b, cap, cur, e, _⟩
  · omega
  · injection e with e
    exact ⟨b, e⟩
set_option maxRecDepth 100000 in
theorem hdf_app2 (l m : List Hd) : hdf (l ++ m) = hdf l ++ hdf m := by simp [hdf]
set_option maxRecDepth 100000 in
theorem one_slice (A : Option Addr) (n c : Nat) : (#[.slice A n c] : Array Value).all (·.oneCell') = true := by simp [Value.oneCell']
set_option maxRecDepth 100000 in
theorem hdc_ones2 (p : Hd) : ∀ z ∈ (hdc p).toList, z.oneCell' = true := fun z hz => Array.all_eq_true_iff_forall_mem.1 (hdc_one p) z (by simpa using hz)
set_option maxRecDepth 100000 in
theorem filter_takeH : ∀ (l : List Hd) (f : Hd → Bool) (n : Nat), (∀ i, i < l.length → (f (l.getD i hz0) = true ↔ i < n)) → l.filter f = l.take n
  | [], f, n, _ => by simp
  | p :: l, f, 0, h => by
    have h0 : f p = false := by have := h 0 (by simp); simpa using this
    rw [List.filter_cons, if_neg (by rw [h0]; simp), List.take_zero, List.filter_eq_nil_iff]
    intro q hq
    obtain ⟨i, hi, e⟩ := List.getElem_of_mem hq
    have := h (i + 1) (by simpa using hi)
    rw [List.getD_cons_succ, List.getD_eq_getElem?_getD, List.getElem?_eq_getElem hi] at this
    simpa [e] using this
  | p :: l, f, n + 1, h => by
    have h0 : f p = true := by have := h 0 (by simp); simpa using this
    rw [List.filter_cons, if_pos h0, List.take_succ_cons, filter_takeH l f n (fun i hi => by have := h (i + 1) (by simpa using hi); simpa using this)]
set_option maxRecDepth 100000 in
theorem filter_dropH : ∀ (l : List Hd) (f : Hd → Bool) (n : Nat), (∀ i, i < l.length → (f (l.getD i hz0) = true ↔ n ≤ i)) → l.filter f = l.drop n
  | [], f, n, _ => by simp
  | p :: l, f, 0, h => by
    have h0 : f p = true := by have := h 0 (by simp); simpa using this
    rw [List.filter_cons, if_pos h0, List.drop_zero, filter_dropH l f 0 (fun i hi => by have := h (i + 1) (by simpa using hi); simpa using this), List.drop_zero]
  | p :: l, f, n + 1, h => by
    have h0 : f p = false := by have := h 0 (by simp); simpa using this
    rw [List.filter_cons, if_neg (by rw [h0]; simp), List.drop_succ_cons, filter_dropH l f n (fun i hi => by have := h (i + 1) (by simpa using hi); simpa using this)]
set_option maxRecDepth 100000 in
theorem filt_ltH {l : List Hd} (h : RiseG l) (k : Nat) : l.filter (fun q => decide (q.addr < k)) = l.take (posG l k) :=
  filter_takeH l _ _ (fun i hi => by rw [decide_eq_true_eq]; exact posG_lt l k h i hi)
set_option maxRecDepth 100000 in
theorem filt_gtH {l : List Hd} (h : RiseG l) (k : Nat) : l.filter (fun q => decide (k < q.addr)) = l.drop (posG l k + if hasG l k then 1 else 0) :=
  filter_dropH l _ _ (fun i hi => by
    rw [decide_eq_true_eq]
    have h1 := posG_lt l k h i hi
    have hle := posG_le l k
    cases hh : hasG l k with
    | true =>
      unfold hasG at hh
      simp only [Bool.and_eq_true, decide_eq_true_eq] at hh
      rw [if_pos rfl]
      constructor
      · intro hk
        rcases Nat.lt_or_ge (posG l k) i with hlt | hge
        · exact hlt
        · rcases Nat.lt_or_eq_of_le hge with hlt | he
          · have := h1.2 hlt; omega
          · rw [← he] at hh; omega
      · intro hk
        have := h (posG l k) i (by omega) hi
        omega
    | false =>
      rw [if_neg (by simp), Nat.add_zero]
      constructor
      · intro hk
        rcases Nat.lt_or_ge i (posG l k) with hlt | hge
        · have := h1.2 hlt; omega
        · exact hge
      · intro hk
        have hge : ¬ (l.getD i hz0).addr < k := fun hlt => by have := h1.1 hlt; omega
        rcases Nat.lt_or_eq_of_le hk with hlt | he
        · have h2 := h (posG l k) i hlt hi
          have h3 : ¬ (l.getD (posG l k) hz0).addr < k := fun hx => by have := (posG_lt l k h _ (by omega)).1 hx; omega
          omega
        · refine Nat.lt_of_le_of_ne (by omega) (fun e => ?_)
          unfold hasG at hh
          rw [he, decide_eq_true (show i < l.length from hi), ← e] at hh
          simp at hh)
def ltG (a : Nat) (l : List Hd) : List Hd := l.filter fun q => decide (q.addr < a)
def gtG (a : Nat) (l : List Hd) : List Hd := l.filter fun q => decide (a < q.addr)
def plG (l : List Hd) (h : Hd) : List Hd := ltG h.addr l ++ ((if h.hasB then [h] else []) ++ gtG h.addr l)
set_option maxRecDepth 100000 in
theorem plG_eq {l : List Hd} (hr : RiseG l) (h : Hd) : plG l h = l.take (posG l h.addr) ++ ((if h.hasB then [h] else []) ++ l.drop (posG l h.addr + if hasG l h.addr then 1 else 0)) := by
  unfold plG ltG gtG
  rw [filt_ltH hr, filt_gtH hr]
set_option maxRecDepth 100000 in
theorem take_drop_no (l : List Hd) (i d : Nat) (hi : i ≤ l.length) : (l.take i ++ l.drop (i + d)).take i = l.take i := by
  rw [List.take_left' (by rw [List.length_take]; omega)]
set_option maxRecDepth 100000 in
theorem take_drop_no2 (l : List Hd) (i d : Nat) (hi : i ≤ l.length) : (l.take i ++ l.drop (i + d)).drop i = l.drop (i + d) := by
  rw [List.drop_left' (by rw [List.length_take]; omega)]
set_option maxRecDepth 100000 in
theorem hasG_lt {l : List Hd} {a : Nat} (h : hasG l a = true) : posG l a < l.length := by
  unfold hasG at h
  simp only [Bool.and_eq_true, decide_eq_true_eq] at h
  exact h.1
end Go.Proofs.Ytjampleddeidaaa
