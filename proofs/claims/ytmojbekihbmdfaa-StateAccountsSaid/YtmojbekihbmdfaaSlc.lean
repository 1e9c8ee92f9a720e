/- Slices that came in, whatever their elements are: no program's number is named here. -/
import Derived.Test.YtmojbekihbmdfaaByt
import Derived.Deep.Slices
import Derived.Deep.MidRow
import Derived.ChangeSlices
namespace Go.Proofs.Ytmojbekihbmdfaa
open Go.ChangeShapes Go.WideShapes Go.ChangeAt Go.RowKit

/-- The slice v reads as l, each element of s cells, of which Rd tells what they are. -/
def Sl {α : Type} (W : World) (s : Nat) (Rd : List Value → α → Prop) (v : Value) (l : List α) : Prop :=
  ∃ A c, v = .slice A l.length c ∧ l.length ≤ c ∧ c ≤ maxLen ∧ (0 < l.length → ∃ b o, A = some ⟨b, o, none⟩ ∧ ∀ i z, l[i]? = some z → ∃ cs, cs.length = s ∧ Rd cs z ∧ W.rangeAt b (o + i * s) cs)

theorem Sl.mono {α : Type} {W W' : World} {s : Nat} {Rd Rd' : List Value → α → Prop} {v : Value} {l : List α} (h : Sl W s Rd v l) (hW : ∀ p u, W.cell? p = some u → W'.cell? p = some u) (hR : ∀ cs z, Rd cs z → Rd' cs z) : Sl W' s Rd' v l := by
  obtain ⟨A, c, e, h1, h2, h3⟩ := h
  refine ⟨A, c, e, h1, h2, fun hp => ?_⟩
  obtain ⟨b, o, ea, hc⟩ := h3 hp
  refine ⟨b, o, ea, fun i z hz => ?_⟩
  obtain ⟨cs, k1, k2, k3⟩ := hc i z hz
  exact ⟨cs, k1, hR _ _ k2, fun j u hu => hW _ _ (k3 j u hu)⟩

theorem slice_came {α : Type} {P : Program} {H : Type} {enc : TypeId × Value → H} {W : World} {f : Nat → Bool} {b : Bool} {fuel : Nat} {t e : TypeId} {s : Nat} {cs : List Value} {x : DataW H × List MemPlace}
    (ht : P.underlying t = some (.slice e)) (hC : P.cellsOf e = s) (hs : 0 < s) (Rd : List Value → α → Prop)
    (hel : ∀ (fuel : Nat) (cs : List Value) (x : DataW H × List MemPlace), DataW.trod enc P W 0 f b fuel e cs = some x → ∃ z, Rd cs z)
    (h : DataW.trod enc P W 0 f b fuel t cs = some x) : ∃ (v : Value) (l : List α), cs = [v] ∧ Sl W s Rd v l := by
  rcases Go.Deep.open_slice ht h with ⟨hcs, _⟩ | ⟨a, len, cap, m, n, D, Pl, hcs, _, hl, hm, hmm, _, hx⟩
  · exact ⟨_, [], hcs, none, 0, rfl, Nat.le_refl _, Nat.zero_le _, fun h => absurd h (by simp)⟩
  · rw [hC] at hx
    have hlm : len ≤ m := by rw [hmm]; split <;> omega
    by_cases h0 : len = 0
    · subst h0
      exact ⟨_, [], hcs, some a, cap, rfl, Nat.zero_le _, hm, fun h => absurd h (by simp)⟩
    have each : ∀ i, i < len → ∃ q : α × List Value, q.2.length = s ∧ Rd q.2 q.1 ∧ ∀ j u, q.2[j]? = some u → W.cell? (a.add (i * s + j)) = some u := by
      intro i hi
      obtain ⟨cs', hc, ht⟩ := hx i (by omega)
      obtain ⟨_, hlen, hat⟩ := World.cells?_some hc
      obtain ⟨z, hz⟩ := hel _ _ _ ht
      refine ⟨(z, cs'), hlen, hz, fun j u hu => ?_⟩
      have hj : j < s := by have := (List.getElem?_eq_some_iff.1 hu).1; dsimp only at this; omega
      rw [← Go.Deep.add_add, hat j hj]
      exact hu
    obtain ⟨q0, _⟩ := each 0 (by omega)
    have hpick : ∀ i, ∃ q : α × List Value, i < len → q.2.length = s ∧ Rd q.2 q.1 ∧ ∀ j u, q.2[j]? = some u → W.cell? (a.add (i * s + j)) = some u := by
      intro i
      by_cases hi : i < len
      · obtain ⟨q, hq⟩ := each i hi
        exact ⟨q, fun _ => hq⟩
      · exact ⟨q0, fun h => absurd h hi⟩
    obtain ⟨g, hg⟩ : ∃ g : Nat → α × List Value, ∀ i, i < len → (g i).2.length = s ∧ Rd (g i).2 (g i).1 ∧ ∀ j u, (g i).2[j]? = some u → W.cell? (a.add (i * s + j)) = some u :=
      ⟨fun i => Classical.choose (hpick i), fun i => Classical.choose_spec (hpick i)⟩
    have hlen : ((List.range len).map fun i => (g i).1).length = len := by simp
    refine ⟨_, (List.range len).map fun i => (g i).1, hcs, some a, cap, by rw [hlen], by rw [hlen]; exact hl, hm, fun hp => ?_⟩
    obtain ⟨b', o, sp⟩ := a
    obtain ⟨k1, _, k3⟩ := hg 0 (by omega)
    have hc0 := k3 0 _ (List.getElem?_eq_getElem (by omega))
    obtain rfl : sp = none := by simpa [Addr.add] using World.cell?_spot hc0
    refine ⟨b', o, rfl, fun i z hzi => ?_⟩
    have hi : i < len := by
      have := (List.getElem?_eq_some_iff.1 hzi).1
      omega
    rw [List.getElem?_map, List.getElem?_range hi] at hzi
    simp at hzi
    subst hzi
    obtain ⟨k1, k2, k3⟩ := hg i hi
    refine ⟨(g i).2, k1, k2, fun j u hu => ?_⟩
    rw [← k3 j u hu, add_plain, Nat.add_assoc]

/-- Bytes that came in, as cells. -/
theorem bytes_trod {P : Program} {H : Type} {enc : TypeId × Value → H} {W : World} {b : Bool} {f : Nat → Bool} {fuel : Nat} {t e : TypeId} {cs : List Value} {x : DataW H × List MemPlace}
    (ht : P.underlying t = some (.slice e)) (he : P.underlying e = some (.int .u8)) (hC : P.cellsOf e = 1) (h : DataW.trod enc P W 0 f b fuel t cs = some x) : ∃ (v : Value) (l : List UInt8), cs = [v] ∧ Bs W v l := by
  obtain ⟨v, l, hv, hl⟩ := slice_came (α := UInt8) ht hC (by decide) (fun cs c => cs = [bv c]) (fun fuel cs x h => by
    obtain ⟨z, e0, _, wz⟩ := DataW.trod_int he h
    have hb : 0 ≤ z ∧ z ≤ 255 := by simpa [Lit.wf, IntKind.min, IntKind.max, IntKind.signed, IntKind.bits] using wz
    exact ⟨_, by rw [e0, bv_of z hb.1 hb.2]⟩) h
  refine ⟨v, l, hv, ?_⟩
  obtain ⟨A, c, e1, h1, h2, h3⟩ := hl
  refine ⟨A, c, e1, h1, h2, fun hp => ?_⟩
  obtain ⟨b', o, ea, hc⟩ := h3 hp
  refine ⟨b', o, ea, fun i hi => ?_⟩
  obtain ⟨cs', k1, k2, k3⟩ := hc i _ (List.getElem?_eq_getElem hi)
  have := k3 0 (bv l[i]) (by rw [k2]; rfl)
  simpa [List.getD, List.getElem?_eq_getElem hi] using this

/-- A slice of rows of bytes. -/
def Bss (W : World) (v : Value) (l : List (List UInt8)) : Prop := Sl W 1 (fun cs x => ∃ u, cs = [u] ∧ Bs W u x) v l
theorem Bss.at {W : World} {A : Option Addr} {n c : Nat} {l : List (List UInt8)} (h : Bss W (.slice A n c) l) (i : Nat) (hi : i < l.length) : ∃ b o u, A = some ⟨b, o, none⟩ ∧ W.cell? ⟨b, o + i, none⟩ = some u ∧ Bs W u (l.getD i []) := by
  obtain ⟨A', c', e, _, _, h3⟩ := h
  injection e with e1 e2 e3
  subst e1
  obtain ⟨b, o, rfl, hc⟩ := h3 (by omega)
  obtain ⟨cs, k1, ⟨u, rfl, k2⟩, k3⟩ := hc i _ (List.getElem?_eq_getElem hi)
  refine ⟨b, o, u, rfl, ?_, ?_⟩
  · have := k3 0 u rfl
    simpa using this
  · simpa [List.getD, List.getElem?_eq_getElem hi] using k2
theorem Bss.len {W : World} {v : Value} {l : List (List UInt8)} (h : Bss W v l) : ∃ A c, v = .slice A l.length c ∧ l.length ≤ c ∧ c ≤ maxLen := by
  obtain ⟨A, c, e, h1, h2, _⟩ := h
  exact ⟨A, c, e, h1, h2⟩
end Go.Proofs.Ytmojbekihbmdfaa
