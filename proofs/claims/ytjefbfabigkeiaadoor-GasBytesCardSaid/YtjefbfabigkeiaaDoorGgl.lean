/- Package gas: a slice of numbers that came in. -/
import Derived.Test.YtjefbfabigkeiaaDoorGsu
namespace Go.Proofs.YtjefbfabigkeiaaDoor
open Go.ChangeShapes Go.WideShapes Go.ChangeAt Go.RowKit Go.Shelf

set_option maxRecDepth 100000 in
/-- A slice of numbers that came in. -/
theorem gs_came {H : Type} {enc : TypeId × Value → H} {W : World} {base : Nat} {v : Value} {d : DataW H} {p : List MemPlace}
    (hval : Value.okWide Tryd.prog W .any base 31 v) (h : DataW.Trod enc Tryd.prog W 0 (fun _ => true) true 31 v d p) :
    ∃ l : List Nat, Gs W v l := by
  obtain ⟨a0, len0, cap0, rfl⟩ := okWide_slice Tryd.underlying31 hval
  obtain ⟨fuel, hf⟩ := h
  rcases open_ints Tryd.underlying31 Tryd.underlying24 (by kernel_rfl) hf with ⟨hcs, _⟩ | ⟨x, l, c, zs, hcs, _, hl, hm, hz, _, hcell, hwz⟩
  · simp [Value.cells] at hcs
    obtain ⟨rfl, rfl, rfl⟩ := hcs
    exact ⟨[], none, 0, rfl, Nat.le_refl _, Nat.zero_le _, fun h => absurd h (by simp)⟩
  · simp [Value.cells] at hcs
    obtain ⟨rfl, rfl, rfl⟩ := hcs
    refine ⟨(zs.take len0).map fun n => n.toNat, ?_⟩
    have hlen : ((zs.take len0).map fun n => n.toNat).length = len0 := by simp at hz ⊢; omega
    refine ⟨_, cap0, by rw [hlen], by rw [hlen]; exact hl, hm, fun hp => ?_⟩
    rw [hlen] at hp ⊢
    simp only [if_true] at hz
    obtain ⟨b, o, sp⟩ := x
    have hc0 := hcell 0 (by omega)
    obtain rfl : sp = none := by simpa [Addr.add] using World.cell?_spot hc0
    refine ⟨b, o, rfl, fun i hi => ?_⟩
    have hci := hcell i (by omega)
    rw [add_plain] at hci
    have hzi : i < zs.length := by omega
    have hwi := hwz (zs.getD i 0) (by simp [List.getD, List.getElem?_eq_getElem hzi])
    have hbd : 0 ≤ zs.getD i 0 ∧ zs.getD i 0 ≤ 18446744073709551615 := by simpa [Lit.wf, IntKind.min, IntKind.max, IntKind.signed, IntKind.bits] using hwi
    have hg : ((zs.take len0).map fun n => n.toNat).getD i 0 = (zs.getD i 0).toNat := by simp [List.getD, hi, List.getElem?_eq_getElem hzi]
    rw [hg]
    refine ⟨?_, by omega⟩
    rw [hci]
    congr 2
    omega
set_option maxRecDepth 100000 in
/-- The head of such a slice, cut at n. -/
theorem Gs.cut {W : World} {A : Option Addr} {n c : Nat} {l : List Nat} (h : Gs W (.slice A n c) l) (k : Nat) (hk : k ≤ n) : Gs W (.slice A k c) (l.take k) := by
  obtain ⟨A', c', e, h1, h2, h3⟩ := h
  injection e with e1 e2 e3
  subst e1 e2 e3
  have hl : (l.take k).length = k := by rw [List.length_take]; omega
  refine ⟨A, c, by rw [hl], by omega, h2, fun hp => ?_⟩
  rw [hl] at hp ⊢
  obtain ⟨b, o, ea, hc⟩ := h3 (by omega)
  refine ⟨b, o, ea, fun i hi => ?_⟩
  have hg : (l.take k).getD i 0 = l.getD i 0 := by simp [List.getD, hi]
  rw [hg]
  exact hc i (by omega)
set_option maxRecDepth 100000 in
/-- Its rest behind n. -/
theorem Gs.drop {W : World} {b o n c : Nat} {l : List Nat} (h : Gs W (.slice (some ⟨b, o, none⟩) n c) l) (k : Nat) (hk : k ≤ n) : Gs W (.slice (some ⟨b, o + k, none⟩) (n - k) (c - k)) (l.drop k) := by
  obtain ⟨A', c', e, h1, h2, h3⟩ := h
  injection e with e1 e2 e3
  subst e2 e3
  have hl : (l.drop k).length = l.length - k := List.length_drop ..
  refine ⟨_, _, by rw [hl], by omega, by omega, fun hp => ?_⟩
  rw [hl] at hp ⊢
  obtain ⟨b', o', ea, hc⟩ := h3 (by omega)
  rw [← e1] at ea
  injection ea with ea
  injection ea with e4 e5
  subst e4 e5
  refine ⟨_, _, rfl, fun i hi => ?_⟩
  have hg : (l.drop k).getD i 0 = l.getD (k + i) 0 := by simp [List.getD]
  rw [hg, Nat.add_assoc]
  exact hc (k + i) (by omega)
set_option maxRecDepth 100000 in
theorem Gs.len {W : World} {A : Option Addr} {n c : Nat} {l : List Nat} (h : Gs W (.slice A n c) l) : n = l.length ∧ l.length ≤ c ∧ c ≤ maxLen := by
  obtain ⟨A', c', e, h1, h2, h3⟩ := h
  injection e with e1 e2 e3
  subst e1 e2 e3
  exact ⟨rfl, h1, h2⟩
end Go.Proofs.YtjefbfabigkeiaaDoor
