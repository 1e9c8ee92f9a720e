/- Rows of states, of addresses that came in; what the document says of rooms and slots is what the layer says. -/
import Derived.Test.YteidmoilldheeaaQSud
import Derived.Test.YteidmoilldheeaaQPai
namespace Go.Proofs.Yteidmoilldheeaa
open Go.ChangeShapes Go.WideShapes Go.ChangeAt Go.RowKit Go.Shelf

def StR (W : World) (cs : List Value) (l : List Ac) : Prop := ∃ s, cs = [s] ∧ Acs W s l
/-- The slice v reads as the states ls. -/
def Sts (W : World) (v : Value) (ls : List (List Ac)) : Prop := Sl W 1 (StR W) v ls
set_option maxRecDepth 100000 in
theorem Sts.ext {W W' : World} {v : Value} {ls : List (List Ac)} (h : Sts W v ls) (he : Ext W W') : Sts W' v ls := Sl.mono h (fun _ _ hc => he.cell hc) (by
  rintro cs l ⟨s, e, h⟩
  exact ⟨s, e, h.ext he⟩)
set_option maxRecDepth 100000 in
theorem Sts.len {W : World} {v : Value} {l : List (List Ac)} (h : Sts W v l) : ∃ A c, v = .slice A l.length c ∧ l.length ≤ c ∧ c ≤ maxLen := by
  obtain ⟨A, c, e, h1, h2, _⟩ := h
  exact ⟨A, c, e, h1, h2⟩
set_option maxRecDepth 100000 in
theorem Sts.at {W : World} {A : Option Addr} {n c : Nat} {l : List (List Ac)} (h : Sts W (.slice A n c) l) (i : Nat) (hi : i < l.length) : ∃ b o s, A = some ⟨b, o, none⟩ ∧ W.cell? ⟨b, o + i, none⟩ = some s ∧ Acs W s (l.getD i []) := by
  obtain ⟨A', c', e, _, _, h3⟩ := h
  injection e with e1 e2 e3
  subst e1
  obtain ⟨b, o, rfl, hc⟩ := h3 (by omega)
  obtain ⟨cs, _, ⟨s, rfl, k1⟩, k3⟩ := hc i _ (List.getElem?_eq_getElem hi)
  have e : l.getD i [] = l[i] := by simp [List.getD, List.getElem?_eq_getElem hi]
  rw [e]
  exact ⟨b, o, s, rfl, by have := k3 0 s rfl; rwa [Nat.mul_one, Nat.add_zero] at this, k1⟩
/-- The slice v reads as the addresses l. -/
def Ads (W : World) (v : Value) (l : List Nat) : Prop := Sl W 1 (fun cs a => a < 18446744073709551616 ∧ cs = [.int .u64 (a : Nat)]) v l
set_option maxRecDepth 100000 in
theorem Ads.ext {W W' : World} {v : Value} {l : List Nat} (h : Ads W v l) (he : Ext W W') : Ads W' v l := Sl.mono h (fun _ _ hc => he.cell hc) fun _ _ h => h
set_option maxRecDepth 100000 in
theorem Ads.len {W : World} {v : Value} {l : List Nat} (h : Ads W v l) : ∃ A c, v = .slice A l.length c ∧ l.length ≤ c ∧ c ≤ maxLen := by
  obtain ⟨A, c, e, h1, h2, _⟩ := h
  exact ⟨A, c, e, h1, h2⟩
set_option maxRecDepth 100000 in
theorem Ads.at {W : World} {A : Option Addr} {n c : Nat} {l : List Nat} (h : Ads W (.slice A n c) l) (i : Nat) (hi : i < l.length) : ∃ b o, A = some ⟨b, o, none⟩ ∧ W.cell? ⟨b, o + i, none⟩ = some (.int .u64 (l.getD i 0 : Nat)) ∧ l.getD i 0 < 18446744073709551616 := by
  obtain ⟨A', c', e, _, _, h3⟩ := h
  injection e with e1 e2 e3
  subst e1
  obtain ⟨b, o, rfl, hc⟩ := h3 (by omega)
  obtain ⟨cs, _, ⟨k1, rfl⟩, k3⟩ := hc i _ (List.getElem?_eq_getElem hi)
  have e : l.getD i 0 = l[i] := by simp [List.getD, List.getElem?_eq_getElem hi]
  rw [e]
  exact ⟨b, o, rfl, by have := k3 0 _ rfl; rwa [Nat.mul_one, Nat.add_zero] at this, k1⟩
set_option maxRecDepth 100000 in
theorem Ws.at {W : World} {A : Option Addr} {n c : Nat} {l : List Nat} (h : Ws W (.slice A n c) l) (i : Nat) (hi : i < l.length) : ∃ b o, A = some ⟨b, o, none⟩ ∧ W.rangeAt b (o + i * 4) (wc (l.getD i 0)).toList ∧ l.getD i 0 < M256 := by
  obtain ⟨A', c', e, h1, h2, h3, h4⟩ := h
  injection e with e1 e2 e3
  subst e1
  obtain ⟨b, o, rfl, hc⟩ := h3 (by omega)
  refine ⟨b, o, rfl, fun j x hx => ?_, h4 i hi⟩
  have hj : j < 4 := by
    have h1 := (List.getElem?_eq_some_iff.1 hx).1
    simpa [wc] using h1
  have := hc i hi j hj
  rw [this]
  obtain rfl | rfl | rfl | rfl : j = 0 ∨ j = 1 ∨ j = 2 ∨ j = 3 := by omega
  all_goals simpa [wc, lv] using hx

set_option maxRecDepth 100000 in
theorem ld_eq {st : List (Nat × Nat)} (h : RiseK st) (k : Nat) : ldN st k = ldF st k := by
  unfold ldF
  cases hf : st.find? (fun p => p.1 == k) with
  | some p =>
    have hm := List.mem_of_find?_eq_some hf
    have hk : p.1 = k := by simpa using List.find?_some hf
    obtain ⟨i, hi, e⟩ := List.getElem_of_mem hm
    have eg : st.getD i (0, 0) = p := by rw [List.getD_eq_getElem?_getD, List.getElem?_eq_getElem hi]; exact e
    have h1 := posK_lt st k h i hi
    rw [eg, hk] at h1
    have h2 : posK st k = i := by
      rcases Nat.lt_trichotomy (posK st k) i with hlt | he | hgt
      · have h3 := h (posK st k) i hlt hi
        rw [eg, hk] at h3
        have := (posK_lt st k h (posK st k) (by omega)).1 h3
        omega
      · exact he
      · exact absurd (h1.2 hgt) (by omega)
    have hh : hasK st k = true := by
      unfold hasK
      rw [h2, eg, hk]
      simp [hi]
    unfold ldN
    rw [hh, if_pos rfl, h2, eg]
  | none =>
    have hn := List.find?_eq_none.1 hf
    unfold ldN
    cases hh : hasK st k with
    | false => rfl
    | true =>
      unfold hasK at hh
      simp only [Bool.and_eq_true, decide_eq_true_eq] at hh
      obtain ⟨hi, he⟩ := hh
      exact absurd (beq_iff_eq.2 he) (hn (st.getD (posK st k) (0, 0)) (by
        rw [List.getD_eq_getElem?_getD, List.getElem?_eq_getElem hi]
        exact List.getElem_mem hi))
end Go.Proofs.Yteidmoilldheeaa
