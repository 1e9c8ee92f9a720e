/- Package state: rows of accounts of the call's own. -/
import Derived.Test.YtiojfpdjnblkhaaQSth
namespace Go.Proofs.Ytiojfpdjnblkhaa
open Go.ChangeShapes Go.WideShapes Go.ChangeAt Go.RowKit Go.Shelf

def rowT (t : List (Ac × Value × Value)) : List Value := (t.map fun x => (acc x.1 x.2.1 x.2.2).toList).flatten
theorem rowT_snoc (t : List (Ac × Value × Value)) (x : Ac × Value × Value) : rowT (t ++ [x]) = rowT t ++ (acc x.1 x.2.1 x.2.2).toList := by simp [rowT]
theorem rowT_app (t s : List (Ac × Value × Value)) : rowT (t ++ s) = rowT t ++ rowT s := by simp [rowT]
def RwA (lo : Nat) (W : World) (vb va : Value) (l : List Ac) : Prop :=
 ∃ t : List (Ac × Value × Value), t.map (·.1) = l ∧ W.ownsRow lo 37 8 vb l.length (rowT t) ∧ (∀ g, vb.ownBlock = some g → va.ownBlock ≠ some g) ∧
  ∀ x ∈ t, x.1.ok ∧ AcO lo W x.1 x.2.1 x.2.2 ∧ ∀ g, x.2.1.ownBlock = some g ∨ x.2.2.ownBlock = some g → vb.ownBlock ≠ some g ∧ va.ownBlock ≠ some g
theorem RwA.nil (lo : Nat) (W : World) (va : Value) : RwA lo W (.slice none 0 0) va [] := ⟨[], rfl, World.ownsRow_nil _ _ _ _, (fun g h => by simp [Value.ownBlock] at h), fun x hx => nomatch hx⟩
theorem RwA.own {lo : Nat} {W : World} {vb va : Value} {l : List Ac} (h : RwA lo W vb va l) : ∃ cs, W.ownsRow lo 37 8 vb l.length cs := by
 obtain ⟨t, _, h2, _⟩ := h
 exact ⟨_, h2⟩
theorem RwA.lt {lo : Nat} {W : World} {vb va : Value} {l : List Ac} (h : RwA lo W vb va l) (g : Nat) (hg : vb.ownBlock = some g) : lo ≤ g ∧ g < W.heap.size := by
 obtain ⟨cs, h⟩ := h.own
 exact h.lt g hg
theorem RwA.ext {lo : Nat} {W W' : World} {vb va : Value} {l : List Ac} (h : RwA lo W vb va l) (he : Ext W W') : RwA lo W' vb va l := by
 obtain ⟨t, h1, h2, h3, h4⟩ := h
 exact ⟨t, h1, own_ext h2 he, h3, fun x hx => ⟨(h4 x hx).1, (h4 x hx).2.1.ext he, (h4 x hx).2.2⟩⟩
theorem RwA.kept {lo : Nat} {W W' : World} {vb va : Value} {l : List Ac} {row : Option Nat} (h : RwA lo W vb va l) (hg : W.grownBy W' row) (hr : ∀ g, row = some g → g < lo ∨ va.ownBlock = some g ∨ ∃ o : Obj, W.heap[g]? = some o ∧ o.isCells = false) : RwA lo W' vb va l := by
 obtain ⟨t, h1, h2, h3, h4⟩ := h
 have hcell : ∀ (base s n : Nat) (e : TypeId) (v : Value) (cs : List Value), W.ownsRow base e s v n cs → ∀ g, v.ownBlock = some g → ∀ o : Obj, W.heap[g]? = some o → o.isCells = false → False := by
  intro base s n e v cs ho g hv o hh hc
  rcases ho.2 with ⟨rfl, _⟩ | ⟨g', cap, cur, rfl, _, hgg, _⟩
  ·cases hv
  ·injection hv with hv
   subst hv
   rw [hgg] at hh
   cases hh
   cases hc
 refine ⟨t, h1, ?_, h3, fun x hx => ⟨(h4 x hx).1, (h4 x hx).2.1.kept hg (fun g e => ?_), (h4 x hx).2.2⟩⟩
 ·refine h2.kept hg ?_
  cases row with
  | none => cases hb : vb.ownBlock <;> simp
  | some g =>
   refine .inr (fun e => ?_)
   rcases hr g rfl with h | h | ⟨o, ho, hc⟩
   ·have := (h2.lt g e).1; omega
   ·exact h3 g e h
   ·exact hcell _ _ _ _ _ _ h2 g e o ho hc
 ·obtain ⟨_, k2, k3⟩ := h4 x hx
  rcases hr g e with h | h | ⟨o, ho, hc⟩
  ·exact ⟨fun e => by have := (k2.lt g (.inl e)).1; omega, fun e => by have := (k2.lt g (.inr e)).1; omega⟩
  ·exact ⟨fun e => (k3 g (.inl e)).2 h, fun e => (k3 g (.inr e)).2 h⟩
  ·exact ⟨fun e => hcell _ _ _ _ _ _ k2.1 g e o ho hc, fun e => hcell _ _ _ _ _ _ k2.2.1 g e o ho hc⟩
theorem RwA.mv {lo : Nat} {W : World} {vb va va' : Value} {l : List Ac} (h : RwA lo W vb va l) (hv : ∀ g, va'.ownBlock = some g → va.ownBlock = some g ∨ W.heap.size ≤ g) : RwA lo W vb va' l := by
 obtain ⟨t, h1, h2, h3, h4⟩ := h
 refine ⟨t, h1, h2, fun g e e' => ?_, fun x hx => ⟨(h4 x hx).1, (h4 x hx).2.1, fun g hg => ⟨((h4 x hx).2.2 g hg).1, fun e => ?_⟩⟩⟩
 ·rcases hv g e' with h | h
  ·exact h3 g e h
  ·have := (h2.lt g e).2; omega
 ·rcases hv g e with h | h
  ·exact ((h4 x hx).2.2 g hg).2 h
  ·have := ((h4 x hx).2.1.lt g hg).2; omega
theorem acc_ones {W : World} {lo : Nat} {p : Ac} {u v : Value} (h : AcO lo W p u v) : ∀ z ∈ (acc p u v).toList, z.oneCell' = true := fun z hz =>
 Array.all_eq_true_iff_forall_mem.1 (acc_one p u v (bs_one h.1.bs) (pks_one h.2.pks)) z (by simpa using hz)
theorem RwA.add {lo : Nat} {W W' : World} {vb vb' va : Value} {l : List Ac} {p : Ac} {u v : Value} (h : RwA lo W vb va l) (hp : p.ok) (ha : AcO lo W p u v) (hd : ∀ g, u.ownBlock = some g ∨ v.ownBlock = some g → vb.ownBlock ≠ some g ∧ va.ownBlock ≠ some g)
  (hg : W.grownBy W' vb.ownBlock) (hb : vb'.ownBlock = vb.ownBlock ∨ vb'.ownBlock = some W.heap.size) (hva : ∀ g, va.ownBlock = some g → g < W.heap.size)
  (ho : ∀ cs, W.ownsRow lo 37 8 vb l.length cs → W'.ownsRow lo 37 8 vb' (l.length + 1) (cs ++ (acc p u v).toList)) : RwA lo W' vb' va (l ++ [p]) := by
 obtain ⟨t, h1, h2, h3, h4⟩ := h
 have hbk : ∀ g, vb'.ownBlock = some g → vb.ownBlock = some g ∨ W.heap.size ≤ g := fun g e => by
  rcases hb with hb | hb
  ·exact .inl (by rw [← hb]; exact e)
  ·rw [hb] at e; injection e with e; exact .inr (by omega)
 refine ⟨t ++ [(p, u, v)], by simp [h1], ?_, fun g e e' => ?_, fun x hx => ?_⟩
 ·rw [rowT_snoc, List.length_append]
  exact ho _ h2
 ·rcases hbk g e with h | h
  ·exact h3 g h e'
  ·have := hva g e'; omega
 ·have hall : x.1.ok ∧ AcO lo W x.1 x.2.1 x.2.2 ∧ ∀ g, x.2.1.ownBlock = some g ∨ x.2.2.ownBlock = some g → vb.ownBlock ≠ some g ∧ va.ownBlock ≠ some g := by
   rcases List.mem_append.1 hx with h | h
   ·exact h4 x h
   ·rw [List.mem_singleton.1 h]; exact ⟨hp, ha, hd⟩
  refine ⟨hall.1, hall.2.1.kept hg (fun g e => ⟨fun e' => (hall.2.2 g (.inl e')).1 e, fun e' => (hall.2.2 g (.inr e')).1 e⟩), fun g hg' => ⟨fun e => ?_, (hall.2.2 g hg').2⟩⟩
  rcases hbk g e with h | h
  ·exact (hall.2.2 g hg').1 h
  ·have := (hall.2.1.lt g hg').2; omega
theorem RwA.acs {lo : Nat} {W : World} {vb va : Value} {l : List Ac} (h : RwA lo W vb va l) : Acs W vb l := by
 obtain ⟨t, h1, h2, h3, h4⟩ := h
 obtain ⟨_, A, c, e, k1, k2, k3⟩ := Rs.of_own h2
 have hl : t.length = l.length := by rw [← h1, List.length_map]
 refine ⟨A, c, e, k1, k2, fun hp => ?_⟩
 obtain ⟨b, o, ea, hc⟩ := k3 hp
 refine ⟨b, o, ea, fun i x hx => ?_⟩
 have hi : i < t.length := by rw [hl]; exact (List.getElem?_eq_some_iff.1 hx).1
 have ht : t[i]? = some t[i] := List.getElem?_eq_getElem hi
 have ex : t[i].1 = x := by
  rw [← h1, List.getElem?_map, ht] at hx
  exact Option.some.inj hx
 have hm := h4 _ (List.getElem_mem hi)
 rw [ex] at hm
 refine ⟨(acc x t[i].2.1 t[i].2.2).toList, rfl, ⟨hm.1, _, _, rfl, hm.2.1.1.bs, hm.2.1.2.pks⟩, fun j u hu => ?_⟩
 have hcs : (t.map fun x => (acc x.1 x.2.1 x.2.2).toList)[i]? = some (acc x t[i].2.1 t[i].2.2).toList := by rw [List.getElem?_map, ht]; simp [ex]
 have := hc (i * 8 + j) u (flat_get _ (by intro cs hcs; obtain ⟨y, _, rfl⟩ := List.mem_map.1 hcs; rfl) i _ hcs j u hu)
 rwa [← Nat.add_assoc] at this
end Go.Proofs.Ytiojfpdjnblkhaa
