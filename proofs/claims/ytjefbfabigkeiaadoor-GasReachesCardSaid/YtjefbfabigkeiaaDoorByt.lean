/- Rows of bytes in memory, and what may happen around them: plain lemmas over the model, for the contracts of this seat. No program's number is named here. Slices that came in, whatever their elements are: no program's number is named here. A call that answers a row of bytes of its own. Rows of cells in memory, for elements of whatever size: no program's number is named here. Contracts of the library's calls on bytes: bytes.Equal. -/
import Derived.WalkKit
import Derived.Handy
import Derived.Maps.AppendAt
import Derived.Laws.CopyOwn
import Derived.Test.YtjefbfabigkeiaaDoorMat
import Derived.Deep.Slices
import Derived.Deep.MidRow
import Derived.ChangeSlices
import Derived.Test.YtjefbfabigkeiaaDoorRows
import Derived.Shelf.Bytes.SlSmallAll
import Derived.WalkSpells
import Derived.Lib.SliceRun
import Derived.Lib.Hide
namespace Go.Proofs.YtjefbfabigkeiaaDoor
open Go.RowKit

/-- A byte as a cell's value. -/
def bv (c : UInt8) : Value := .int .u8 (c.toNat : Int)

set_option maxRecDepth 100000 in
theorem bv_one (c : UInt8) : (bv c).oneCell' = true := rfl
set_option maxRecDepth 100000 in
theorem bv_all (l : List UInt8) : ∀ u ∈ l.map bv, u.oneCell' = true := by
  intro u hu
  obtain ⟨c, _, rfl⟩ := List.mem_map.1 hu
  rfl

set_option maxRecDepth 100000 in
theorem bv_of (n : Int) (h0 : 0 ≤ n) (h1 : n ≤ 255) : Value.int .u8 n = bv (UInt8.ofNat n.toNat) := by
  unfold bv
  congr 1
  rw [UInt8.toNat_ofNat']
  omega

/-- The slice v reads as the bytes l: nil, or of no byte at whatever address, or at an address with its cells. -/
def Bs (w : World) (v : Value) (l : List UInt8) : Prop :=
  ∃ A c, v = .slice A l.length c ∧ l.length ≤ c ∧ c ≤ maxLen ∧ (0 < l.length → ∃ b o, A = some ⟨b, o, none⟩ ∧ ∀ i, i < l.length → w.cell? ⟨b, o + i, none⟩ = some (bv (l.getD i 0)))

/-- What was there is as it was. -/
def Ext (w w' : World) : Prop := Below w.heap.size w w'

set_option maxRecDepth 100000 in
theorem Ext.refl (w : World) : Ext w w := Below.refl _ _
set_option maxRecDepth 100000 in
theorem Ext.trans {a b c : World} (h : Ext a b) (k : Ext b c) : Ext a c := Below.trans h (Below.mono k h.size)
set_option maxRecDepth 100000 in
theorem Ext.alloc {a w : World} (h : Ext a w) (o : Obj) : Ext a (w.alloc o) := Below.alloc h h.size o
set_option maxRecDepth 100000 in
theorem Ext.drew {a w : World} (h : Ext a w) : Ext a w.drew := Below.drew h
set_option maxRecDepth 100000 in
theorem Ext.size {a w : World} (h : Ext a w) : a.heap.size ≤ w.heap.size := Below.size h
set_option maxRecDepth 100000 in
theorem Ext.below {a w w' : World} (h : Ext a w) {B : Nat} (hb : Below B w w') (hB : a.heap.size ≤ B) : Ext a w' := Below.trans h (Below.mono hb hB)
set_option maxRecDepth 100000 in
theorem Ext.cell {w w' : World} (h : Ext w w') {p : Addr} {v : Value} (hc : w.cell? p = some v) : w'.cell? p = some v := (Below.cell h (World.block_lt_of_cell? w p hc)).trans hc
set_option maxRecDepth 100000 in
theorem Ext.block {w w' : World} (h : Ext w w') {g : Nat} {o : Obj} (hc : w.heap[g]? = some o) : w'.heap[g]? = some o := (Below.block h g (Array.getElem?_eq_some_iff.1 hc).1).trans hc

set_option maxRecDepth 100000 in
theorem Bs.len {w : World} {A : Option Addr} {n c : Nat} {l : List UInt8} (h : Bs w (.slice A n c) l) : n = l.length := by
  obtain ⟨A', c', e, _⟩ := h
  injection e

set_option maxRecDepth 100000 in
theorem Bs.nil (w : World) : Bs w (.slice none 0 0) [] := ⟨none, 0, rfl, Nat.le_refl _, Nat.zero_le _, fun h => absurd h (by simp)⟩

set_option maxRecDepth 100000 in
theorem Bs.empty (w : World) (A : Option Addr) (n c : Nat) (hn : n = 0) (hc : c ≤ maxLen) : Bs w (.slice A n c) [] := ⟨A, c, by rw [hn]; rfl, Nat.zero_le _, hc, fun h => absurd h (by simp)⟩

set_option maxRecDepth 100000 in
theorem Bs.keep {w w' : World} {v : Value} {l : List UInt8} (h : Bs w v l) (hk : ∀ p u, w.cell? p = some u → w'.cell? p = some u) : Bs w' v l := by
  obtain ⟨A, c, e, h1, h2, h3⟩ := h
  refine ⟨A, c, e, h1, h2, fun hp => ?_⟩
  obtain ⟨b, o, ea, hc⟩ := h3 hp
  exact ⟨b, o, ea, fun i hi => hk _ _ (hc i hi)⟩

set_option maxRecDepth 100000 in
theorem Bs.ext {w w' : World} {v : Value} {l : List UInt8} (h : Bs w v l) (he : Ext w w') : Bs w' v l := h.keep fun _ _ hc => he.cell hc

set_option maxRecDepth 100000 in
/-- The first n of them: the slice expression v[:n]. -/
theorem Bs.take {w : World} {A : Option Addr} {n c : Nat} {l : List UInt8} (h : Bs w (.slice A n c) l) (k : Nat) (hk : k ≤ l.length) : Bs w (.slice A k c) (l.take k) := by
  obtain ⟨A', c', e, h1, h2, h3⟩ := h
  injection e with e1 e2 e3
  subst e1; subst e3
  have hl : (l.take k).length = k := by simp; omega
  refine ⟨A, c, by rw [hl], by omega, h2, fun hp => ?_⟩
  obtain ⟨b, o, ea, hc⟩ := h3 (by omega)
  exact ⟨b, o, ea, fun i hi => by rw [hc i (by omega), getD_take _ _ _ (by omega)]⟩

set_option maxRecDepth 100000 in
/-- The first m of them, or all. -/
theorem Bs.takeMin {w : World} {A : Option Addr} {n c : Nat} {l : List UInt8} (h : Bs w (.slice A n c) l) (m k : Nat) (hk : k = min l.length m) : Bs w (.slice A k c) (l.take m) := by
  have e : l.take m = l.take k := by
    subst hk
    rcases Nat.le_total l.length m with hl | hl
    · rw [Nat.min_eq_left hl, List.take_of_length_le hl, List.take_length]
    · rw [Nat.min_eq_right hl]
  rw [e]
  exact h.take k (by omega)

set_option maxRecDepth 100000 in
/-- All from k on: the slice expression v[k:], as the model has it: at k = cap the address stays. -/
theorem Bs.drop {w : World} {A : Option Addr} {n c : Nat} {l : List UInt8} (h : Bs w (.slice A n c) l) (k : Nat) (hk : k ≤ l.length) :
    Bs w (.slice (if c = k then A else A.map (·.add k)) (l.length - k) (c - k)) (l.drop k) := by
  obtain ⟨A', c', e, h1, h2, h3⟩ := h
  injection e with e1 e2 e3
  subst e1; subst e3
  have hl : (l.drop k).length = l.length - k := by simp
  refine ⟨_, _, by rw [hl], by omega, by omega, fun hp => ?_⟩
  obtain ⟨b, o, rfl, hc⟩ := h3 (by omega)
  rw [if_neg (by omega)]
  refine ⟨b, o + k, ?_, fun i hi => ?_⟩
  · show some (Addr.add _ _) = _
    unfold Addr.add
    split <;> simp_all
  · rw [getD_drop, ← hc (k + i) (by omega), Nat.add_assoc]

set_option maxRecDepth 100000 in
theorem Bs.dropLt {w : World} {A : Option Addr} {n c : Nat} {l : List UInt8} (h : Bs w (.slice A n c) l) (k : Nat) (hk : k ≤ l.length) (hc : k < c) : Bs w (.slice (A.map (·.add k)) (l.length - k) (c - k)) (l.drop k) := by
  have := h.drop k hk
  rwa [if_neg (by omega)] at this

/-- A row that the call itself has made. -/
def Own (w : World) (base : Nat) (e : TypeId) (v : Value) (l : List UInt8) : Prop := w.ownsRow base e 1 v l.length (l.map bv)

set_option maxRecDepth 100000 in
theorem Own.bs {w : World} {base : Nat} {e : TypeId} {v : Value} {l : List UInt8} (h : Own w base e v l) : Bs w v l := by
  obtain ⟨h1, h2⟩ := h
  rcases h2 with ⟨rfl, hn⟩ | ⟨g, cap, cur, rfl, hb, hg, hnc, hcm, hcs, htake⟩
  · have : l = [] := List.eq_nil_of_length_eq_zero hn
    subst this
    exact Bs.nil w
  · refine ⟨_, _, rfl, hnc, hcm, fun hp => ⟨g, 0, rfl, fun i hi => ?_⟩⟩
    rw [cell_of_row w g _ cur e (0, 0) hg, Nat.zero_add]
    have hi' : (l.map bv)[i]? = some (bv (l.getD i 0)) := by simp [List.getElem?_map, List.getD, List.getElem?_eq_getElem hi]
    rw [← htake, List.getElem?_take] at hi'
    split at hi'
    · simpa using hi'
    · cases hi'

set_option maxRecDepth 100000 in
theorem Own.mono {w : World} {base base' : Nat} {e : TypeId} {v : Value} {l : List UInt8} (h : Own w base e v l) (hb : base' ≤ base) : Own w base' e v l := by
  obtain ⟨h1, h2⟩ := h
  refine ⟨h1, ?_⟩
  rcases h2 with hn | ⟨g, cap, cur, e1, e2, rest⟩
  · exact .inl hn
  · exact .inr ⟨g, cap, cur, e1, by omega, rest⟩

set_option maxRecDepth 100000 in
theorem Own.ext {w w' : World} {base : Nat} {e : TypeId} {v : Value} {l : List UInt8} (h : Own w base e v l) (he : Ext w w') : Own w' base e v l := by
  obtain ⟨h1, h2⟩ := h
  refine ⟨h1, ?_⟩
  rcases h2 with hn | ⟨g, cap, cur, e1, e2, hg, rest⟩
  · exact .inl hn
  · exact .inr ⟨g, cap, cur, e1, e2, he.block hg, rest⟩

/-- A whole block of bytes. -/
def Row (w : World) (g : Nat) (e : TypeId) (l : List UInt8) : Prop := w.heap[g]? = some (.cells (l.map bv).toArray e (0, 0))

set_option maxRecDepth 100000 in
theorem Row.own {w : World} {g base : Nat} {e : TypeId} {l : List UInt8} (h : Row w g e l) (hb : base ≤ g) (hl : l.length ≤ maxLen) : Own w base e (.slice (some ⟨g, 0, none⟩) l.length l.length) l :=
  ⟨by simp, .inr ⟨g, l.length, _, rfl, hb, h, Nat.le_refl _, hl, by simp, List.take_of_length_le (by simp)⟩⟩
set_option maxRecDepth 100000 in
theorem Row.ext {w w' : World} {g : Nat} {e : TypeId} {l : List UInt8} (h : Row w g e l) (he : Ext w w') : Row w' g e l := he.block h
set_option maxRecDepth 100000 in
theorem Ext.append {a w w' : World} {e : TypeId} {v : Value} {l : List UInt8} (h : Ext a w) (ho : Own w a.heap.size e v l) (k : w.grownBy w' v.ownBlock) : Ext a w' :=
  Below.grown h k h.size (fun j hj => (ho.lt j hj).1)
set_option maxRecDepth 100000 in
/-- A younger row stays while an older one is appended to. -/
theorem Own.younger {w w' : World} {b : Nat} {e : TypeId} {v u : Value} {l : List UInt8} (h : Own w b e v l) (hg : w.grownBy w' u.ownBlock) (hu : ∀ k, u.ownBlock = some k → k < b) : Own w' b e v l := by
  refine World.ownsRow.kept h hg ?_
  cases hv : v.ownBlock with
  | none => exact .inl rfl
  | some k =>
    refine .inr fun e => ?_
    have h1 := (h.lt k hv).1
    have h2 := hu k e.symm
    omega
set_option maxRecDepth 100000 in
theorem Row.lt {w : World} {g : Nat} {e : TypeId} {l : List UInt8} (h : Row w g e l) : g < w.heap.size := (Array.getElem?_eq_some_iff.1 h).1
set_option maxRecDepth 100000 in
theorem Row.cell {w : World} {g : Nat} {e : TypeId} {l : List UInt8} (h : Row w g e l) (i : Nat) (hi : i < l.length) : w.cell? ⟨g, i, none⟩ = some (bv (l.getD i 0)) := by
  rw [cell_of_row w g i _ e (0, 0) h]
  simp [List.getD, List.getElem?_eq_getElem hi]
set_option maxRecDepth 100000 in
theorem Row.frozen {w : World} {g : Nat} {e : TypeId} {l : List UInt8} (h : Row w g e l) (i : Nat) : w.frozen? ⟨g, i, none⟩ = false := frozen_of_row w g i _ e h
set_option maxRecDepth 100000 in
theorem Row.put {w : World} {g : Nat} {e : TypeId} {l : List UInt8} (h : Row w g e l) (i : Nat) (c : UInt8) : Row (w.setCell ⟨g, i, none⟩ (bv c)) g e (l.set i c) := by
  unfold Row at h ⊢
  rw [heap_setCell_same w g i _ e _ h]
  simp [List.map_set]

set_option maxRecDepth 100000 in
theorem grown_trans {a b c : World} {row : Option Nat} (h : a.grownBy b row) (k : b.grownBy c row) : a.grownBy c row :=
  ⟨k.os.trans h.os, k.tape.trans h.tape, k.output.trans h.output, Nat.le_trans h.size k.size, fun i hi hne => (k.block i (Nat.lt_of_lt_of_le hi h.size) hne).trans (h.block i hi hne)⟩
set_option maxRecDepth 100000 in
theorem grown_set (w : World) (g i : Nat) (u : Value) : w.grownBy (w.setCell ⟨g, i, none⟩ u) (some g) :=
  ⟨rfl, rfl, rfl, by simp, fun k _ hk => heap_setCell_other w ⟨g, i, none⟩ k u (fun e => hk (by simp [e]))⟩
set_option maxRecDepth 100000 in
/-- One block written, new ones made: seen from a world in which that block was not there. -/
theorem Ext.grown {a w w' : World} {g : Nat} (h : Ext a w) (k : w.grownBy w' (some g)) (hg : a.heap.size ≤ g) : Ext a w' :=
  Below.grown h k h.size (fun j hj => by injection hj with hj; omega)

set_option maxRecDepth 100000 in
theorem Bs.src {w : World} {A : Option Addr} {n c : Nat} {l : List UInt8} (h : Bs w (.slice A n c) l) (k : Nat) (hk : k ≤ l.length) (hp : 0 < k) :
    ∃ ad, A = some ad ∧ ∀ j u, ((l.take k).map bv)[j]? = some u → w.cell? (ad.add j) = some u := by
  obtain ⟨A', c', e, h1, h2, h3⟩ := h
  injection e with e1 e2 e3
  subst e1
  obtain ⟨b, o, rfl, hc⟩ := h3 (by omega)
  refine ⟨_, rfl, fun j u hu => ?_⟩
  have hj : j < k := by
    have := (List.getElem?_eq_some_iff.1 hu).1
    simp at this
    omega
  have hadd : (⟨b, o, none⟩ : Addr).add j = ⟨b, o + j, none⟩ := by unfold Addr.add; split <;> simp_all
  rw [hadd, hc j (by omega), ← hu]
  simp [List.getD, hj, List.getElem?_eq_getElem (show j < l.length by omega)]

set_option maxRecDepth 100000 in
/-- make([]byte, n). -/
theorem wpList_make_bytes {P : Program} {w : World} {ops : Array Oper} {rest : List Oper} {o : Oper} {a : Act} {Q : Exit → Act → World → Prop}
    (hg : o.guard = none) (l c : Operand) (t : TypeId) (hop : o.op = Op.makeSlice t l c) (e : TypeId) (h1 : P.underlying t = some (.slice e))
    (hinfo : (P.info? e).map (fun i => (i.zero, i.size, i.bytes)) = some (some (.int .u8 0), 1, 1)) (kl kc : IntKind) (L C : Int) (n : Nat) (hl : a.eval l = .int kl L) (hc : a.eval c = .int kc C) (hL : L = (n : Int)) (hC : C = (n : Int)) (hn : n ≤ 140737488355328)
    (hK : ∀ w', Row w' w.heap.size e (List.replicate n 0) → Ext w w' → wpList P ops Q rest (a.put o.dst (.slice (some ⟨w.heap.size, 0, none⟩) n n)) w') :
    wpList P ops Q (o :: rest) a w := by
  obtain ⟨i0, hi, hz0, hz1, hz2⟩ := info_parts hinfo
  refine wpList_make_full w hg l c t hop w.heap.size e i0 (.int .u8 0) 1 h1 hi hz0 hz1 kl kc L C n hl hc hL hC (by rw [hz2]; omega) (by unfold maxLen; omega) (Nat.le_refl _) fun w' hown hgr => hK w' ?_ ⟨hgr.os, hgr.tape, hgr.output, hgr.size, fun k hk => hgr.block k hk (by simp)⟩
  rcases hown.2 with ⟨h', _⟩ | ⟨g, cap, cur, h', _, hgg, _, _, hcs, htake⟩
  · simp at h'
  · simp only [Value.slice.injEq, Option.some.injEq, Addr.mk.injEq, and_true, true_and] at h'
    obtain ⟨rfl, rfl⟩ := h'
    unfold Row
    rw [hgg]
    have : cur = ((List.replicate n (0 : UInt8)).map bv).toArray := by
      apply Array.toList_inj.1
      rw [← List.take_of_length_le (l := cur.toList) (i := n * 1) (by simp [hcs]), htake]
      have hm := toList_madeCells_one (.int .u8 0) (n * 1)
      have e : Value.cells (.int .u8 0) = #[.int .u8 0] := rfl
      rw [e, hm]
      simp [bv]
    rw [this]

set_option maxRecDepth 100000 in
/-- copy(row, src), the row a block that is known whole. -/
theorem wpList_copy_bytes {P : Program} {w : World} {ops : Array Oper} {rest : List Oper} {o : Oper} {a : Act} {Q : Exit → Act → World → Prop} (hgd : o.guard = none) (d s : Operand) (dT sT : TypeId)
    (ho : o.op = .call { callee := .builtin .copy, args := #[d, s], argTypes := #[dT, sT] }) (e : TypeId) (hu : P.underlying dT = some (.slice e)) (hsz : (P.info? e).map (·.size) = some 1)
    (g n cap : Nat) (l : List UInt8) (hd : a.eval d = .slice (some ⟨g, 0, none⟩) n cap) (hn : n = l.length) (hr : Row w g e l) (sv : Value) (x : List UInt8) (hs : a.eval s = sv) (hx : Bs w sv x)
    (hK : ∀ w', Row w' g e (lay l 0 x) → w.grownBy w' (some g) → wpList P ops Q rest (a.put o.dst (goInt (Nat.min x.length n))) w') :
    wpList P ops Q (o :: rest) a w := by
  subst hn
  obtain ⟨A, c, rfl, hh⟩ := id hx
  by_cases h0 : Nat.min x.length l.length = 0
  · refine wpList_copy_nothing hgd d s dT sT ho e hu hsz _ _ _ _ _ _ hd hs h0 ?_
    have h0' : x.length = 0 ∨ l.length = 0 := by have := h0; simp [Nat.min_def] at this; split at this <;> omega
    have hlay : lay l 0 x = l := by
      rcases h0' with h0' | h0'
      · rw [List.eq_nil_of_length_eq_zero h0', lay_none]
      · rw [List.eq_nil_of_length_eq_zero h0']; rfl
    have := hK w (by rw [hlay]; exact hr) (World.grownBy.refl _ _)
    rw [h0] at this
    exact this
  · have hmin : (((x.take (Nat.min x.length l.length)).map bv).length) = Nat.min x.length l.length := by
      simp [Nat.min_def]
      split <;> omega
    obtain ⟨ad, rfl, hc⟩ := hx.src (Nat.min x.length l.length) (Nat.min_le_left _ _) (by omega)
    have hle : Nat.min x.length l.length ≤ l.length := Nat.min_le_right _ _
    refine wpList_copy_own hgd d s dT sT ho e hu hsz g 0 l.length cap ad x.length c hd hs _ e hr ((x.take (Nat.min x.length l.length)).map bv) hmin hc (by rw [hmin]; simp; omega) (bv_all _) ?_
    rw [hmin]
    refine hK _ ?_ ⟨rfl, rfl, rfl, by simp [World.setRow], fun k _ hk => setRow_other w g k _ (fun e => hk (by simp [e]))⟩
    unfold Row
    rw [setRow_heap w g _ _ e (0, 0) hr]
    congr 3
    have hlay : lay l 0 x = x.take (Nat.min x.length l.length) ++ l.drop (Nat.min x.length l.length) := by
      generalize hm : Nat.min x.length l.length = m at *
      have hm' : (m = x.length ∧ x.length ≤ l.length) ∨ (m = l.length ∧ l.length ≤ x.length) := by
        rw [← hm]; simp only [Nat.min_def]; split <;> omega
      apply ext_getD (by rw [lay_length]; simp; omega)
      intro i hi
      rw [lay_length] at hi
      rw [lay_getD _ _ _ _ hi, getD_append_if, getD_drop]
      have hl : (x.take m).length = m := by simp; omega
      rw [hl]
      by_cases hc : i < m
      · rw [if_pos (by omega), if_pos hc, getD_take _ _ _ hc]; rfl
      · rw [if_neg (by omega), if_neg hc]
        congr 1
        omega
    rw [hlay]
    simp [List.map_drop]

set_option maxRecDepth 100000 in
/-- append(v, src...), v a row of the call's own. -/
theorem wpList_append_bytes {P : Program} {w : World} {ops : Array Oper} {rest : List Oper} {o : Oper} {a : Act} {Q : Exit → Act → World → Prop} (hgd : Region.wanted o (yielded ops a.tmps) = true) (s x : Operand) (t : TypeId)
    (ho : o.op = .call { callee := .builtin .append, args := #[s, x], argTypes := #[t, t] }) (base : Nat) (e : TypeId) (ht : P.underlying t = some (.slice e))
    (hinfo : (P.info? e).map (fun i => (i.zero, i.size, i.bytes)) = some (some (.int .u8 0), 1, 1))
    (v : Value) (l : List UInt8) (hs : a.eval s = v) (hown : Own w base e v l) (sv : Value) (xs : List UInt8) (hx : a.eval x = sv) (hb : Bs w sv xs) (hlen : l.length + xs.length ≤ 140737488355328) (hbase : base ≤ w.heap.size)
    (hK : ∀ v' w', Own w' base e v' (l ++ xs) → w.grownBy w' v.ownBlock → (v'.ownBlock = v.ownBlock ∨ v'.ownBlock = some w.heap.size) → wpList P ops Q rest (a.put o.dst v') w') :
    wpList P ops Q (o :: rest) a w := by
  obtain ⟨i0, hi, hz0, hz1, hz2⟩ := info_parts hinfo
  obtain ⟨A, c, rfl, h1, h2, h3⟩ := id hb
  have hlm : (l ++ xs).length = l.length + xs.length := by simp
  have hrun : ∃ v' w', (Builtin.append_ #[t, t] o.type #[v, .slice A xs.length c]).run P w = .ok v' w' ∧ Own w' base e v' (l ++ xs) ∧ w.grownBy w' v.ownBlock ∧ (v'.ownBlock = v.ownBlock ∨ v'.ownBlock = some w.heap.size) := by
    by_cases h0 : xs.length = 0
    · obtain rfl : xs = [] := List.eq_nil_of_length_eq_zero h0
      have hrun : (Builtin.append_ #[t, t] o.type #[v, .slice A 0 c]).run P w = .ok v w := by
        rcases hown.2 with ⟨rfl, hn⟩ | ⟨g, cap, cur, rfl, _, _, hnc, _⟩
        · rcases A with _ | ad <;> simp [Builtin.append_, run_underlying ht, sizeOf, typeInfo, hi, Builtin.lenOf, Builtin.firstCells, loadCells, loadCellsFrom]
        · rcases A with _ | ad <;> simp [Builtin.append_, run_underlying ht, sizeOf, typeInfo, hi, Builtin.lenOf, Builtin.firstCells, hnc, storeCells, loadCells, loadCellsFrom]
      exact ⟨v, w, hrun, by simpa using hown, World.grownBy.refl _ _, .inl rfl⟩
    · obtain ⟨ad, rfl, hc⟩ := hb.src xs.length (Nat.le_refl _) (by omega)
      rw [List.take_length] at hc
      obtain ⟨v', w', hr, ho', hg', _, hat⟩ := run_append_own_at (P := P) w base t o.type e i0 (.int .u8 0) 1 1 ht hi hz0 hz1 hz2 rfl (by omega) v l.length (l.map bv) hown ad xs.length c (xs.map bv) (by simp) hc (bv_all xs) (by unfold maxLen; omega) (by omega) hbase
      refine ⟨v', w', hr, ?_, hg', hat⟩
      unfold Own
      rw [hlm, List.map_append]
      exact ho'
  obtain ⟨v', w', hr, h4, h5, h6⟩ := hrun
  refine wpList_step fun K hK' => ?_
  rw [if_pos hgd]
  unfold Oper.wp
  simp [execOp, ho, resolve, invoke, builtin, hs, hx, hr, Result.andThen]
  exact hK' _ _ (hK v' w' h4 h5 h6)

end Go.Proofs.YtjefbfabigkeiaaDoor
namespace Go.Proofs.YtjefbfabigkeiaaDoor
open Go.ChangeShapes Go.WideShapes Go.ChangeAt Go.RowKit

/-- The slice v reads as l, each element of s cells, of which Rd tells what they are. -/
def Sl {α : Type} (W : World) (s : Nat) (Rd : List Value → α → Prop) (v : Value) (l : List α) : Prop :=
  ∃ A c, v = .slice A l.length c ∧ l.length ≤ c ∧ c ≤ maxLen ∧ (0 < l.length → ∃ b o, A = some ⟨b, o, none⟩ ∧ ∀ i z, l[i]? = some z → ∃ cs, cs.length = s ∧ Rd cs z ∧ W.rangeAt b (o + i * s) cs)

set_option maxRecDepth 100000 in
theorem Sl.mono {α : Type} {W W' : World} {s : Nat} {Rd Rd' : List Value → α → Prop} {v : Value} {l : List α} (h : Sl W s Rd v l) (hW : ∀ p u, W.cell? p = some u → W'.cell? p = some u) (hR : ∀ cs z, Rd cs z → Rd' cs z) : Sl W' s Rd' v l := by
  obtain ⟨A, c, e, h1, h2, h3⟩ := h
  refine ⟨A, c, e, h1, h2, fun hp => ?_⟩
  obtain ⟨b, o, ea, hc⟩ := h3 hp
  refine ⟨b, o, ea, fun i z hz => ?_⟩
  obtain ⟨cs, k1, k2, k3⟩ := hc i z hz
  exact ⟨cs, k1, hR _ _ k2, fun j u hu => hW _ _ (k3 j u hu)⟩

set_option maxRecDepth 100000 in
theorem slice_came {α : Type} {P : Program} {H : Type} {enc : TypeId × Value → H} {W : World} {f : Nat → Bool} {b : Bool} {fuel : Nat} {t e : TypeId} {s : Nat} {cs : List Value} {x : DataW H × List MemPlace}
    (ht : P.underlying t = some (.slice e)) (hC : P.cellsOf e = s) (hs : 0 < s) (Rd : List Value → α → Prop)
    (hel : ∀ (fuel : Nat) (cs : List Value) (x : DataW H × List MemPlace), DataW.trod enc P W 0 f b fuel e cs = some x → ∃ z, Rd cs z)
    (h : DataW.trod enc P W 0 f b fuel t cs = some x) : ∃ (v : Value) (l : List α), cs = [v] ∧ Sl W s Rd v l := by
  rcases Go.Deep.open_slice ht h with ⟨hcs, _⟩ | ⟨a, len, cap, m, n, D, Pl, hcs, _, hl, hm, hmm, _, hx⟩
  · exact ⟨_, [], hcs, none, 0, rfl, Nat.le_refl _, Nat.zero_le _, fun h => absurd h (by simp)⟩
  · rw [hC] at hx
    have hlm : len ≤ m := by rw [hmm]; split <;> omega
    by_cases h0 : len = 0
    · subst h0
      exact ⟨_, [], hcs, some a, cap, rfl, Nat.zero_le _, hm, fun h => absurd h (by simp)⟩
    have each : ∀ i, i < len → ∃ q : α × List Value, q.2.length = s ∧ Rd q.2 q.1 ∧ ∀ j u, q.2[j]? = some u → W.cell? (a.add (i * s + j)) = some u := by
      intro i hi
      obtain ⟨cs', hc, ht⟩ := hx i (by omega)
      obtain ⟨_, hlen, hat⟩ := World.cells?_some hc
      obtain ⟨z, hz⟩ := hel _ _ _ ht
      refine ⟨(z, cs'), hlen, hz, fun j u hu => ?_⟩
      have hj : j < s := by have := (List.getElem?_eq_some_iff.1 hu).1; dsimp only at this; omega
      rw [← Go.Deep.add_add, hat j hj]
      exact hu
    obtain ⟨q0, _⟩ := each 0 (by omega)
    have hpick : ∀ i, ∃ q : α × List Value, i < len → q.2.length = s ∧ Rd q.2 q.1 ∧ ∀ j u, q.2[j]? = some u → W.cell? (a.add (i * s + j)) = some u := by
      intro i
      by_cases hi : i < len
      · obtain ⟨q, hq⟩ := each i hi
        exact ⟨q, fun _ => hq⟩
      · exact ⟨q0, fun h => absurd h hi⟩
    obtain ⟨g, hg⟩ : ∃ g : Nat → α × List Value, ∀ i, i < len → (g i).2.length = s ∧ Rd (g i).2 (g i).1 ∧ ∀ j u, (g i).2[j]? = some u → W.cell? (a.add (i * s + j)) = some u :=
      ⟨fun i => Classical.choose (hpick i), fun i => Classical.choose_spec (hpick i)⟩
    have hlen : ((List.range len).map fun i => (g i).1).length = len := by simp
    refine ⟨_, (List.range len).map fun i => (g i).1, hcs, some a, cap, by rw [hlen], by rw [hlen]; exact hl, hm, fun hp => ?_⟩
    obtain ⟨b', o, sp⟩ := a
    obtain ⟨k1, _, k3⟩ := hg 0 (by omega)
    have hc0 := k3 0 _ (List.getElem?_eq_getElem (by omega))
    obtain rfl : sp = none := by simpa [Addr.add] using World.cell?_spot hc0
    refine ⟨b', o, rfl, fun i z hzi => ?_⟩
    have hi : i < len := by
      have := (List.getElem?_eq_some_iff.1 hzi).1
      omega
    rw [List.getElem?_map, List.getElem?_range hi] at hzi
    simp at hzi
    subst hzi
    obtain ⟨k1, k2, k3⟩ := hg i hi
    refine ⟨(g i).2, k1, k2, fun j u hu => ?_⟩
    rw [← k3 j u hu, add_plain, Nat.add_assoc]

set_option maxRecDepth 100000 in
/-- Bytes that came in, as cells. -/
theorem bytes_trod {P : Program} {H : Type} {enc : TypeId × Value → H} {W : World} {b : Bool} {f : Nat → Bool} {fuel : Nat} {t e : TypeId} {cs : List Value} {x : DataW H × List MemPlace}
    (ht : P.underlying t = some (.slice e)) (he : P.underlying e = some (.int .u8)) (hC : P.cellsOf e = 1) (h : DataW.trod enc P W 0 f b fuel t cs = some x) : ∃ (v : Value) (l : List UInt8), cs = [v] ∧ Bs W v l := by
  obtain ⟨v, l, hv, hl⟩ := slice_came (α := UInt8) ht hC (by decide) (fun cs c => cs = [bv c]) (fun fuel cs x h => by
    obtain ⟨z, e0, _, wz⟩ := DataW.trod_int he h
    have hb : 0 ≤ z ∧ z ≤ 255 := by simpa [Lit.wf, IntKind.min, IntKind.max, IntKind.signed, IntKind.bits] using wz
    exact ⟨_, by rw [e0, bv_of z hb.1 hb.2]⟩) h
  refine ⟨v, l, hv, ?_⟩
  obtain ⟨A, c, e1, h1, h2, h3⟩ := hl
  refine ⟨A, c, e1, h1, h2, fun hp => ?_⟩
  obtain ⟨b', o, ea, hc⟩ := h3 hp
  refine ⟨b', o, ea, fun i hi => ?_⟩
  obtain ⟨cs', k1, k2, k3⟩ := hc i _ (List.getElem?_eq_getElem hi)
  have := k3 0 (bv l[i]) (by rw [k2]; rfl)
  simpa [List.getD, List.getElem?_eq_getElem hi] using this

/-- A slice of rows of bytes. -/
def Bss (W : World) (v : Value) (l : List (List UInt8)) : Prop := Sl W 1 (fun cs x => ∃ u, cs = [u] ∧ Bs W u x) v l
set_option maxRecDepth 100000 in
theorem Bss.at {W : World} {A : Option Addr} {n c : Nat} {l : List (List UInt8)} (h : Bss W (.slice A n c) l) (i : Nat) (hi : i < l.length) : ∃ b o u, A = some ⟨b, o, none⟩ ∧ W.cell? ⟨b, o + i, none⟩ = some u ∧ Bs W u (l.getD i []) := by
  obtain ⟨A', c', e, _, _, h3⟩ := h
  injection e with e1 e2 e3
  subst e1
  obtain ⟨b, o, rfl, hc⟩ := h3 (by omega)
  obtain ⟨cs, k1, ⟨u, rfl, k2⟩, k3⟩ := hc i _ (List.getElem?_eq_getElem hi)
  refine ⟨b, o, u, rfl, ?_, ?_⟩
  · have := k3 0 u rfl
    simpa using this
  · simpa [List.getD, List.getElem?_eq_getElem hi] using k2
set_option maxRecDepth 100000 in
theorem Bss.len {W : World} {v : Value} {l : List (List UInt8)} (h : Bss W v l) : ∃ A c, v = .slice A l.length c ∧ l.length ≤ c ∧ c ≤ maxLen := by
  obtain ⟨A, c, e, h1, h2, _⟩ := h
  exact ⟨A, c, e, h1, h2⟩
end Go.Proofs.YtjefbfabigkeiaaDoor
namespace Go.Proofs.YtjefbfabigkeiaaDoor
open Go.RowKit

set_option maxRecDepth 100000 in
theorem u8info : (Tryd.prog.info? 5).map (fun i => (i.zero, i.size, i.bytes)) = some (some (.int .u8 0), 1, 1) := by kernel_rfl
set_option maxRecDepth 100000 in
theorem u8size : (Tryd.prog.info? 5).map (·.size) = some 1 := by kernel_rfl
/-- A call that answers a row of bytes of its own. -/
def RetB (w : World) (l : List UInt8) (e : Ending) (w' : World) : Prop := ∃ v, e = .returned v ∧ Own w' w.heap.size 5 v l ∧ Ext w w'
end Go.Proofs.YtjefbfabigkeiaaDoor
namespace Go.Proofs.YtjefbfabigkeiaaDoor
open Go.RowKit

/-- The slice v has n elements of s cells each, and reads as the cells cs. -/
def Rs (w : World) (s : Nat) (v : Value) (n : Nat) (cs : List Value) : Prop :=
  cs.length = n * s ∧ ∃ A c, v = .slice A n c ∧ n ≤ c ∧ c ≤ maxLen ∧ (0 < n → ∃ b o, A = some ⟨b, o, none⟩ ∧ ∀ i u, cs[i]? = some u → w.cell? ⟨b, o + i, none⟩ = some u)

set_option maxRecDepth 100000 in
theorem Rs.ext {w w' : World} {s n : Nat} {v : Value} {cs : List Value} (h : Rs w s v n cs) (he : Ext w w') : Rs w' s v n cs := by
  obtain ⟨h0, A, c, e, h1, h2, h3⟩ := h
  refine ⟨h0, A, c, e, h1, h2, fun hp => ?_⟩
  obtain ⟨b, o, ea, hc⟩ := h3 hp
  exact ⟨b, o, ea, fun i u hu => he.cell (hc i u hu)⟩
set_option maxRecDepth 100000 in
theorem Rs.nil (w : World) (s : Nat) : Rs w s (.slice none 0 0) 0 [] := ⟨by simp, none, 0, rfl, Nat.le_refl _, Nat.zero_le _, fun h => absurd h (by simp)⟩
set_option maxRecDepth 100000 in
theorem Rs.of_own {w : World} {base s n : Nat} {e : TypeId} {v : Value} {cs : List Value} (h : w.ownsRow base e s v n cs) : Rs w s v n cs := by
  obtain ⟨h1, h2⟩ := h
  rcases h2 with ⟨rfl, hn⟩ | ⟨g, cap, cur, rfl, hb, hg, hnc, hcm, hcs, htake⟩
  · subst hn
    exact ⟨h1, none, 0, rfl, Nat.le_refl _, Nat.zero_le _, fun h => absurd h (by simp)⟩
  · refine ⟨h1, _, _, rfl, hnc, hcm, fun _ => ⟨g, 0, rfl, fun i u hu => ?_⟩⟩
    rw [cell_of_row w g _ cur e (0, 0) hg, Nat.zero_add]
    rw [← htake, List.getElem?_take] at hu
    split at hu
    · simpa using hu
    · cases hu
set_option maxRecDepth 100000 in
/-- A block that was just made. -/
theorem Rs.new (w : World) (cs : List Value) (t : TypeId) (s n : Nat) (hl : cs.length = n * s) (hn : n ≤ maxLen) : Rs (w.alloc (.cells cs.toArray t)) s (.slice (some ⟨w.heap.size, 0, none⟩) n n) n cs :=
  ⟨hl, _, _, rfl, Nat.le_refl _, hn, fun _ => ⟨_, 0, rfl, fun i u hu => by
    rw [cell_of_row _ w.heap.size _ cs.toArray t (0, 0) (heap_alloc_new _ _), Nat.zero_add]
    simpa using hu⟩⟩
set_option maxRecDepth 100000 in
theorem Rs.cell {w : World} {s n : Nat} {A : Option Addr} {c : Nat} {cs : List Value} (h : Rs w s (.slice A n c) n cs) (hp : 0 < n) : ∃ b o, A = some ⟨b, o, none⟩ ∧ ∀ i u, cs[i]? = some u → w.cell? ⟨b, o + i, none⟩ = some u := by
  obtain ⟨_, A', c', e, _, _, h3⟩ := h
  injection e with e1 e2 e3
  subst e1
  exact h3 hp
set_option maxRecDepth 100000 in
/-- The first k elements. -/
theorem Rs.take {w : World} {s n : Nat} {A : Option Addr} {c : Nat} {cs : List Value} (h : Rs w s (.slice A n c) n cs) (k : Nat) (hk : k ≤ n) : Rs w s (.slice A k c) k (cs.take (k * s)) := by
  obtain ⟨h0, A', c', e, h1, h2, h3⟩ := h
  injection e with e1 e2 e3
  subst e1
  subst e3
  refine ⟨?_, A, c, rfl, by omega, h2, fun hp => ?_⟩
  · rw [List.length_take, h0]
    exact Nat.min_eq_left (Nat.mul_le_mul_right _ hk)
  · obtain ⟨b, o, ea, hc⟩ := h3 (by omega)
    refine ⟨b, o, ea, fun i u hu => hc i u ?_⟩
    rw [List.getElem?_take] at hu
    split at hu
    · exact hu
    · cases hu
set_option maxRecDepth 100000 in
/-- All from the element k on, as the model has it: at k = cap the address stays. -/
theorem Rs.drop {w : World} {s n : Nat} {A : Option Addr} {c : Nat} {cs : List Value} (h : Rs w s (.slice A n c) n cs) (k : Nat) (hk : k ≤ n) :
    Rs w s (.slice (if c = k then A else A.map (·.add (k * s))) (n - k) (c - k)) (n - k) (cs.drop (k * s)) := by
  obtain ⟨h0, A', c', e, h1, h2, h3⟩ := h
  injection e with e1 e2 e3
  subst e1
  subst e3
  refine ⟨by rw [List.length_drop, h0, Nat.sub_mul], _, _, rfl, by omega, by omega, fun hp => ?_⟩
  obtain ⟨b, o, rfl, hc⟩ := h3 (by omega)
  rw [if_neg (by omega)]
  refine ⟨b, o + k * s, ?_, fun i u hu => ?_⟩
  · show some (Addr.add _ _) = _
    unfold Addr.add
    split <;> simp_all
  · rw [List.getElem?_drop] at hu
    rw [Nat.add_assoc]
    exact hc _ _ hu

set_option maxRecDepth 100000 in
theorem own_ext {w w' : World} {base s n : Nat} {e : TypeId} {v : Value} {cs : List Value} (h : w.ownsRow base e s v n cs) (he : Ext w w') : w'.ownsRow base e s v n cs := by
  obtain ⟨h1, h2⟩ := h
  refine ⟨h1, ?_⟩
  rcases h2 with hn | ⟨g, cap, cur, e1, e2, hg, rest⟩
  · exact .inl hn
  · exact .inr ⟨g, cap, cur, e1, e2, he.block hg, rest⟩
set_option maxRecDepth 100000 in
theorem own_mono {w : World} {base base' s n : Nat} {e : TypeId} {v : Value} {cs : List Value} (h : w.ownsRow base e s v n cs) (hb : base' ≤ base) : w.ownsRow base' e s v n cs := by
  obtain ⟨h1, h2⟩ := h
  refine ⟨h1, ?_⟩
  rcases h2 with hn | ⟨g, cap, cur, e1, e2, rest⟩
  · exact .inl hn
  · exact .inr ⟨g, cap, cur, e1, by omega, rest⟩
set_option maxRecDepth 100000 in
theorem Ext.appendR {a w w' : World} {s n : Nat} {e : TypeId} {v : Value} {cs : List Value} (h : Ext a w) (ho : w.ownsRow a.heap.size e s v n cs) (k : w.grownBy w' v.ownBlock) : Ext a w' :=
  Below.grown h k h.size (fun j hj => (ho.lt j hj).1)
set_option maxRecDepth 100000 in
/-- A block below the row stays. -/
theorem own_block {w w' : World} {base s n : Nat} {e : TypeId} {v : Value} {cs : List Value} (ho : w.ownsRow base e s v n cs) (k : w.grownBy w' v.ownBlock) {g : Nat} (hg : g < base) {o : Obj} (h : w.heap[g]? = some o) : w'.heap[g]? = some o :=
  (k.block g (Array.getElem?_eq_some_iff.1 h).1 (fun e => by have := (ho.lt g e.symm).1; omega)).trans h

set_option maxRecDepth 100000 in
/-- append(v, src...), v a row of the call's own: the run. -/
theorem run_append_row {P : Program} {w : World} (t ty : TypeId) (base : Nat) (e : TypeId) (ht : P.underlying t = some (.slice e)) (z : Value) (sz bytes : Nat)
    (hinfo : (P.info? e).map (fun i => (i.zero, i.size, i.bytes)) = some (some z, sz, bytes)) (hzs : z.cells.size = sz) (hsz : 0 < sz)
    (v : Value) (n : Nat) (cs : List Value) (hown : w.ownsRow base e sz v n cs) (sv : Value) (m : Nat) (ds : List Value) (hb : Rs w sz sv m ds) (h1c : ∀ u ∈ ds, u.oneCell' = true)
    (hlen : n + m ≤ 1099511627776) (hby : bytes ≤ 128) (hbase : base ≤ w.heap.size) :
    ∃ v' w', (Builtin.append_ #[t, t] ty #[v, sv]).run P w = .ok v' w' ∧ w'.ownsRow base e sz v' (n + m) (cs ++ ds) ∧ w.grownBy w' v.ownBlock ∧ (v'.ownBlock = v.ownBlock ∨ v'.ownBlock = some w.heap.size) := by
  obtain ⟨i0, hi, hz0, hz1, hz2⟩ := info_parts hinfo
  obtain ⟨h0, A, c, rfl, h1, h2, h3⟩ := id hb
  have hbb : (n + m) * bytes ≤ 140737488355328 := Nat.le_trans (Nat.mul_le_mul hlen hby) (by decide)
  by_cases hm0 : m = 0
  · subst hm0
    obtain rfl : ds = [] := List.eq_nil_of_length_eq_zero (by rw [h0]; simp)
    have hrun : (Builtin.append_ #[t, t] ty #[v, .slice A 0 c]).run P w = .ok v w := by
      rcases hown.2 with ⟨rfl, hn⟩ | ⟨g, cap, cur, rfl, _, _, hnc, _⟩
      · rcases A with _ | ad <;> simp [Builtin.append_, run_underlying ht, sizeOf, typeInfo, hi, Builtin.lenOf, Builtin.firstCells, loadCells, loadCellsFrom]
      · rcases A with _ | ad <;> simp [Builtin.append_, run_underlying ht, sizeOf, typeInfo, hi, Builtin.lenOf, Builtin.firstCells, hnc, storeCells, loadCells, loadCellsFrom]
    exact ⟨v, w, hrun, by simpa using hown, World.grownBy.refl _ _, .inl rfl⟩
  · obtain ⟨b, o', rfl, hc⟩ := h3 (by omega)
    have hc' : ∀ j u, ds[j]? = some u → w.cell? ((⟨b, o', none⟩ : Addr).add j) = some u := by
      intro j u hu
      have hadd : (⟨b, o', none⟩ : Addr).add j = ⟨b, o' + j, none⟩ := by unfold Addr.add; split <;> simp_all
      rw [hadd]
      exact hc j u hu
    obtain ⟨v', w', hr, ho', hg', _, hat⟩ := run_append_own_at (P := P) w base t ty e i0 z sz bytes ht hi hz0 hz1 hz2 hzs hsz v n cs hown ⟨b, o', none⟩ m c ds h0 hc' h1c (by unfold maxLen; omega) hbb hbase
    exact ⟨v', w', hr, ho', hg', hat⟩
set_option maxRecDepth 100000 in
/-- append(v, src...), as a step of its own. -/
theorem step_append_row {P : Program} {w : World} {ops : Array Oper} {o : Oper} {a : Act} {K : Act → World → Prop} {Q : Exit → Act → World → Prop} (hgd : Region.wanted o (yielded ops a.tmps) = true) (s x : Operand) (t : TypeId)
    (ho : o.op = .call { callee := .builtin .append, args := #[s, x], argTypes := #[t, t] }) (base : Nat) (e : TypeId) (ht : P.underlying t = some (.slice e)) (z : Value) (sz bytes : Nat)
    (hinfo : (P.info? e).map (fun i => (i.zero, i.size, i.bytes)) = some (some z, sz, bytes)) (hzs : z.cells.size = sz) (hsz : 0 < sz)
    (v : Value) (n : Nat) (cs : List Value) (hs : a.eval s = v) (hown : w.ownsRow base e sz v n cs) (sv : Value) (m : Nat) (ds : List Value) (hx : a.eval x = sv) (hb : Rs w sz sv m ds) (h1c : ∀ u ∈ ds, u.oneCell' = true)
    (hlen : n + m ≤ 1099511627776) (hby : bytes ≤ 128) (hbase : base ≤ w.heap.size)
    (hK : ∀ v' w', w'.ownsRow base e sz v' (n + m) (cs ++ ds) → w.grownBy w' v.ownBlock → (v'.ownBlock = v.ownBlock ∨ v'.ownBlock = some w.heap.size) → K (a.put o.dst v') w') :
    if Region.wanted o (yielded ops a.tmps) = true then Oper.wp P o a w K Q else K (a.put o.dst undef) w := by
  obtain ⟨v', w', hr, h4, h5, h6⟩ := run_append_row (P := P) t o.type base e ht z sz bytes hinfo hzs hsz v n cs hown sv m ds hb h1c hlen hby hbase
  rw [if_pos hgd]
  unfold Oper.wp
  simp [execOp, ho, resolve, invoke, builtin, hs, hx, hr, Result.andThen]
  exact hK v' w' h4 h5 h6
set_option maxRecDepth 100000 in
/-- append(v, src...), v a row of the call's own. -/
theorem wpList_append_row {P : Program} {w : World} {ops : Array Oper} {rest : List Oper} {o : Oper} {a : Act} {Q : Exit → Act → World → Prop} (hgd : Region.wanted o (yielded ops a.tmps) = true) (s x : Operand) (t : TypeId)
    (ho : o.op = .call { callee := .builtin .append, args := #[s, x], argTypes := #[t, t] }) (base : Nat) (e : TypeId) (ht : P.underlying t = some (.slice e)) (z : Value) (sz bytes : Nat)
    (hinfo : (P.info? e).map (fun i => (i.zero, i.size, i.bytes)) = some (some z, sz, bytes)) (hzs : z.cells.size = sz) (hsz : 0 < sz)
    (v : Value) (n : Nat) (cs : List Value) (hs : a.eval s = v) (hown : w.ownsRow base e sz v n cs) (sv : Value) (m : Nat) (ds : List Value) (hx : a.eval x = sv) (hb : Rs w sz sv m ds) (h1c : ∀ u ∈ ds, u.oneCell' = true)
    (hlen : n + m ≤ 1099511627776) (hby : bytes ≤ 128) (hbase : base ≤ w.heap.size)
    (hK : ∀ v' w', w'.ownsRow base e sz v' (n + m) (cs ++ ds) → w.grownBy w' v.ownBlock → (v'.ownBlock = v.ownBlock ∨ v'.ownBlock = some w.heap.size) → wpList P ops Q rest (a.put o.dst v') w') :
    wpList P ops Q (o :: rest) a w :=
  wpList_step fun _ hK' => step_append_row hgd s x t ho base e ht z sz bytes hinfo hzs hsz v n cs hs hown sv m ds hx hb h1c hlen hby hbase fun v' w' h4 h5 h6 => hK' _ _ (hK v' w' h4 h5 h6)

/-- Whole numbers as cells. -/
def iv (n : Nat) : Value := .int .i64 (n : Int)
set_option maxRecDepth 100000 in
theorem iv_one (l : List Nat) : ∀ u ∈ l.map iv, u.oneCell' = true := by
  intro u hu
  obtain ⟨n, _, rfl⟩ := List.mem_map.1 hu
  rfl
/-- A row of whole numbers of the call's own. -/
def OwnI (w : World) (base : Nat) (e : TypeId) (v : Value) (l : List Nat) : Prop := w.ownsRow base e 1 v l.length (l.map iv)
set_option maxRecDepth 100000 in
theorem OwnI.rs {w : World} {base : Nat} {e : TypeId} {v : Value} {l : List Nat} (h : OwnI w base e v l) : Rs w 1 v l.length (l.map iv) := Rs.of_own h
end Go.Proofs.YtjefbfabigkeiaaDoor
namespace Go.Proofs.YtjefbfabigkeiaaDoor
open Go.RowKit

set_option maxRecDepth 100000 in
theorem own_made (w : World) (b : Nat) (t : TypeId) (hb : b ≤ w.heap.size) : Own (w.alloc (.cells #[] t)) b t (.slice (some ⟨w.heap.size, 0, none⟩) 0 0) [] :=
  World.ownsRow_made w #[] 0 hb (by simp [maxLen]) (by simp)

set_option maxRecDepth 100000 in
theorem nums_of (l : List UInt8) : strOfNums (l.map fun c => (c.toNat : Int)) = ⟨l.toArray⟩ := by
  unfold strOfNums
  congr 2
  rw [List.map_map]
  conv => rhs; rw [← List.map_id l]
  apply List.map_congr_left
  intro c _
  simp

set_option maxRecDepth 100000 in
theorem Bs.conv {P : Program} {w : World} {v : Value} {l : List UInt8} (h : Bs w v l) (src e dst : TypeId) (hs : P.underlying src = some (.slice e)) (he : P.underlying e = some (.int .u8)) (hd : P.underlying dst = some .string) :
    (convert src dst v).run P w = .ok (.string ⟨l.toArray⟩) w := by
  obtain ⟨A, c, rfl, h1, h2, h3⟩ := h
  rcases Nat.eq_zero_or_pos l.length with h0 | h0
  · obtain rfl : l = [] := List.eq_nil_of_length_eq_zero h0
    exact run_convert_bytes_zero w src e hs he A c dst hd
  · obtain ⟨b, o, rfl, hc⟩ := h3 h0
    rw [← nums_of]
    refine run_convert_bytes_arg (P := P) w src e hs he b o _ c _ (by simp) ?_ dst hd
    intro i hi
    rw [hc i hi]
    simp [bv, List.getD, List.getElem?_eq_getElem hi]

end Go.Proofs.YtjefbfabigkeiaaDoor
