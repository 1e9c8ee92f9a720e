/- Rows of bytes in memory, and what may happen around them: plain lemmas over the model, for the contracts of this seat. No program's number is named here. Slices that came in, whatever their elements are: no program's number is named here. A call that answers a row of bytes of its own. Rows of cells in memory, for elements of whatever size: no program's number is named here. Contracts of the library's calls on bytes: bytes.Equal. -/
import Derived.WalkKit
import Derived.Handy
import Derived.Maps.AppendAt
import Derived.Laws.CopyOwn
import Derived.Test.YtjampleddeidaaaQMat
import Derived.Deep.Slices
import Derived.Deep.MidRow
import Derived.ChangeSlices
import Derived.Test.YtjampleddeidaaaRows
import Derived.Shelf.Bytes.SlSmallAll
import Derived.WalkSpells
import Derived.Lib.SliceRun
import Derived.Lib.Hide
namespace Go.Proofs.Ytjampleddeidaaa
open Go.RowKit

def bv (c : UInt8) : Value := .int .u8 (c.toNat : Int)

def Ext (w w' : World) : Prop := Below w.heap.size w w'

set_option maxRecDepth 100000 in
theorem Ext.refl (w : World) : Ext w w := Below.refl _ _
set_option maxRecDepth 100000 in
theorem Ext.trans {a b c : World} (h : Ext a b) (k : Ext b c) : Ext a c := Below.trans h (Below.mono k h.size)
set_option maxRecDepth 100000 in
theorem Ext.alloc {a w : World} (h : Ext a w) (o : Obj) : Ext a (w.alloc o) := Below.alloc h h.size o
set_option maxRecDepth 100000 in
theorem Ext.drew {a w : World} (h : Ext a w) : Ext a w.drew := Below.drew h
set_option maxRecDepth 100000 in
theorem Ext.size {a w : World} (h : Ext a w) : a.heap.size ≤ w.heap.size := Below.size h
set_option maxRecDepth 100000 in
theorem Ext.below {a w w' : World} (h : Ext a w) {B : Nat} (hb : Below B w w') (hB : a.heap.size ≤ B) : Ext a w' := Below.trans h (Below.mono hb hB)
set_option maxRecDepth 100000 in
theorem Ext.cell {w w' : World} (h : Ext w w') {p : Addr} {v : Value} (hc : w.cell? p = some v) : w'.cell? p = some v := (Below.cell h (World.block_lt_of_cell? w p hc)).trans hc
set_option maxRecDepth 100000 in
theorem Ext.block {w w' : World} (h : Ext w w') {g : Nat} {o : Obj} (hc : w.heap[g]? = some o) : w'.heap[g]? = some o := (Below.block h g (Array.getElem?_eq_some_iff.1 hc).1).trans hc

set_option maxRecDepth 100000 in
theorem grown_set (w : World) (g i : Nat) (u : Value) : w.grownBy (w.setCell ⟨g, i, none⟩ u) (some g) :=
  ⟨rfl, rfl, rfl, by simp, fun k _ hk => heap_setCell_other w ⟨g, i, none⟩ k u (fun e => hk (by simp [e]))⟩
set_option maxRecDepth 100000 in
theorem Ext.grown {a w w' : World} {g : Nat} (h : Ext a w) (k : w.grownBy w' (some g)) (hg : a.heap.size ≤ g) : Ext a w' :=
  Below.grown h k h.size (fun j hj => by injection hj with hj; omega)

end Go.Proofs.Ytjampleddeidaaa
namespace Go.Proofs.Ytjampleddeidaaa
open Go.ChangeShapes Go.WideShapes Go.ChangeAt Go.RowKit

def Sl {α : Type} (W : World) (s : Nat) (Rd : List Value → α → Prop) (v : Value) (l : List α) : Prop :=
  ∃ A c, v = .slice A l.length c ∧ l.length ≤ c ∧ c ≤ maxLen ∧ (0 < l.length → ∃ b o, A = some ⟨b, o, none⟩ ∧ ∀ i z, l[i]? = some z → ∃ cs, cs.length = s ∧ Rd cs z ∧ W.rangeAt b (o + i * s) cs)

set_option maxRecDepth 100000 in
theorem Sl.mono {α : Type} {W W' : World} {s : Nat} {Rd Rd' : List Value → α → Prop} {v : Value} {l : List α} (h : Sl W s Rd v l) (hW : ∀ p u, W.cell? p = some u → W'.cell? p = some u) (hR : ∀ cs z, Rd cs z → Rd' cs z) : Sl W' s Rd' v l := by
  obtain ⟨A, c, e, h1, h2, h3⟩ := h
  refine ⟨A, c, e, h1, h2, fun hp => ?_⟩
  obtain ⟨b, o, ea, hc⟩ := h3 hp
  refine ⟨b, o, ea, fun i z hz => ?_⟩
  obtain ⟨cs, k1, k2, k3⟩ := hc i z hz
  exact ⟨cs, k1, hR _ _ k2, fun j u hu => hW _ _ (k3 j u hu)⟩

set_option maxRecDepth 100000 in
theorem slice_came {α : Type} {P : Program} {H : Type} {enc : TypeId × Value → H} {W : World} {f : Nat → Bool} {b : Bool} {fuel : Nat} {t e : TypeId} {s : Nat} {cs : List Value} {x : DataW H × List MemPlace}
    (ht : P.underlying t = some (.slice e)) (hC : P.cellsOf e = s) (hs : 0 < s) (Rd : List Value → α → Prop)
    (hel : ∀ (fuel : Nat) (cs : List Value) (x : DataW H × List MemPlace), DataW.trod enc P W 0 f b fuel e cs = some x → ∃ z, Rd cs z)
    (h : DataW.trod enc P W 0 f b fuel t cs = some x) : ∃ (v : Value) (l : List α), cs = [v] ∧ Sl W s Rd v l := by
  rcases Go.Deep.open_slice ht h with ⟨hcs, _⟩ | ⟨a, len, cap, m, n, D, Pl, hcs, _, hl, hm, hmm, _, hx⟩
  · exact ⟨_, [], hcs, none, 0, rfl, Nat.le_refl _, Nat.zero_le _, fun h => absurd h (by simp)⟩
  · rw [hC] at hx
    have hlm : len ≤ m := by rw [hmm]; split <;> omega
    by_cases h0 : len = 0
    · subst h0
      exact ⟨_, [], hcs, some a, cap, rfl, Nat.zero_le _, hm, fun h => absurd h (by simp)⟩
    have each : ∀ i, i < len → ∃ q : α × List Value, q.2.length = s ∧ Rd q.2 q.1 ∧ ∀ j u, q.2[j]? = some u → W.cell? (a.add (i * s + j)) = some u := by
      intro i hi
      obtain ⟨cs', hc, ht⟩ := hx i (by omega)
      obtain ⟨_, hlen, hat⟩ := World.cells?_some hc
      obtain ⟨z, hz⟩ := hel _ _ _ ht
      refine ⟨(z, cs'), hlen, hz, fun j u hu => ?_⟩
      have hj : j < s := by have := (List.getElem?_eq_some_iff.1 hu).1; dsimp only at this; omega
      rw [← Go.Deep.add_add, hat j hj]
      exact hu
    obtain ⟨q0, _⟩ := each 0 (by omega)
    have hpick : ∀ i, ∃ q : α × List Value, i < len → q.2.length = s ∧ Rd q.2 q.1 ∧ ∀ j u, q.2[j]? = some u → W.cell? (a.add (i * s + j)) = some u := by
      intro i
      by_cases hi : i < len
      · obtain ⟨q, hq⟩ := each i hi
        exact ⟨q, fun _ => hq⟩
      · exact ⟨q0, fun h => absurd h hi⟩
    obtain ⟨g, hg⟩ : ∃ g : Nat → α × List Value, ∀ i, i < len → (g i).2.length = s ∧ Rd (g i).2 (g i).1 ∧ ∀ j u, (g i).2[j]? = some u → W.cell? (a.add (i * s + j)) = some u :=
      ⟨fun i => Classical.choose (hpick i), fun i => Classical.choose_spec (hpick i)⟩
    have hlen : ((List.range len).map fun i => (g i).1).length = len := by simp
    refine ⟨_, (List.range len).map fun i => (g i).1, hcs, some a, cap, by rw [hlen], by rw [hlen]; exact hl, hm, fun hp => ?_⟩
    obtain ⟨b', o, sp⟩ := a
    obtain ⟨k1, _, k3⟩ := hg 0 (by omega)
    have hc0 := k3 0 _ (List.getElem?_eq_getElem (by omega))
    obtain rfl : sp = none := by simpa [Addr.add] using World.cell?_spot hc0
    refine ⟨b', o, rfl, fun i z hzi => ?_⟩
    have hi : i < len := by
      have := (List.getElem?_eq_some_iff.1 hzi).1
      omega
    rw [List.getElem?_map, List.getElem?_range hi] at hzi
    simp at hzi
    subst hzi
    obtain ⟨k1, k2, k3⟩ := hg i hi
    refine ⟨(g i).2, k1, k2, fun j u hu => ?_⟩
    rw [← k3 j u hu, add_plain, Nat.add_assoc]

end Go.Proofs.Ytjampleddeidaaa
namespace Go.Proofs.Ytjampleddeidaaa
open Go.RowKit

end Go.Proofs.Ytjampleddeidaaa
namespace Go.Proofs.Ytjampleddeidaaa
open Go.RowKit

def Rs (w : World) (s : Nat) (v : Value) (n : Nat) (cs : List Value) : Prop :=
  cs.length = n * s ∧ ∃ A c, v = .slice A n c ∧ n ≤ c ∧ c ≤ maxLen ∧ (0 < n → ∃ b o, A = some ⟨b, o, none⟩ ∧ ∀ i u, cs[i]? = some u → w.cell? ⟨b, o + i, none⟩ = some u)

set_option maxRecDepth 100000 in
theorem Rs.ext {w w' : World} {s n : Nat} {v : Value} {cs : List Value} (h : Rs w s v n cs) (he : Ext w w') : Rs w' s v n cs := by
  obtain ⟨h0, A, c, e, h1, h2, h3⟩ := h
  refine ⟨h0, A, c, e, h1, h2, fun hp => ?_⟩
  obtain ⟨b, o, ea, hc⟩ := h3 hp
  exact ⟨b, o, ea, fun i u hu => he.cell (hc i u hu)⟩
set_option maxRecDepth 100000 in
theorem Rs.of_own {w : World} {base s n : Nat} {e : TypeId} {v : Value} {cs : List Value} (h : w.ownsRow base e s v n cs) : Rs w s v n cs := by
  obtain ⟨h1, h2⟩ := h
  rcases h2 with ⟨rfl, hn⟩ | ⟨g, cap, cur, rfl, hb, hg, hnc, hcm, hcs, htake⟩
  · subst hn
    exact ⟨h1, none, 0, rfl, Nat.le_refl _, Nat.zero_le _, fun h => absurd h (by simp)⟩
  · refine ⟨h1, _, _, rfl, hnc, hcm, fun _ => ⟨g, 0, rfl, fun i u hu => ?_⟩⟩
    rw [cell_of_row w g _ cur e (0, 0) hg, Nat.zero_add]
    rw [← htake, List.getElem?_take] at hu
    split at hu
    · simpa using hu
    · cases hu
set_option maxRecDepth 100000 in
theorem Rs.take {w : World} {s n : Nat} {A : Option Addr} {c : Nat} {cs : List Value} (h : Rs w s (.slice A n c) n cs) (k : Nat) (hk : k ≤ n) : Rs w s (.slice A k c) k (cs.take (k * s)) := by
  obtain ⟨h0, A', c', e, h1, h2, h3⟩ := h
  injection e with e1 e2 e3
  subst e1
  subst e3
  refine ⟨?_, A, c, rfl, by omega, h2, fun hp => ?_⟩
  · rw [List.length_take, h0]
    exact Nat.min_eq_left (Nat.mul_le_mul_right _ hk)
  · obtain ⟨b, o, ea, hc⟩ := h3 (by omega)
    refine ⟨b, o, ea, fun i u hu => hc i u ?_⟩
    rw [List.getElem?_take] at hu
    split at hu
    · exact hu
    · cases hu
set_option maxRecDepth 100000 in
theorem Rs.drop {w : World} {s n : Nat} {A : Option Addr} {c : Nat} {cs : List Value} (h : Rs w s (.slice A n c) n cs) (k : Nat) (hk : k ≤ n) :
    Rs w s (.slice (if c = k then A else A.map (·.add (k * s))) (n - k) (c - k)) (n - k) (cs.drop (k * s)) := by
  obtain ⟨h0, A', c', e, h1, h2, h3⟩ := h
  injection e with e1 e2 e3
  subst e1
  subst e3
  refine ⟨by rw [List.length_drop, h0, Nat.sub_mul], _, _, rfl, by omega, by omega, fun hp => ?_⟩
  obtain ⟨b, o, rfl, hc⟩ := h3 (by omega)
  rw [if_neg (by omega)]
  refine ⟨b, o + k * s, ?_, fun i u hu => ?_⟩
  · show some (Addr.add _ _) = _
    unfold Addr.add
    split <;> simp_all
  · rw [List.getElem?_drop] at hu
    rw [Nat.add_assoc]
    exact hc _ _ hu

set_option maxRecDepth 100000 in
theorem own_ext {w w' : World} {base s n : Nat} {e : TypeId} {v : Value} {cs : List Value} (h : w.ownsRow base e s v n cs) (he : Ext w w') : w'.ownsRow base e s v n cs := by
  obtain ⟨h1, h2⟩ := h
  refine ⟨h1, ?_⟩
  rcases h2 with hn | ⟨g, cap, cur, e1, e2, hg, rest⟩
  · exact .inl hn
  · exact .inr ⟨g, cap, cur, e1, e2, he.block hg, rest⟩
set_option maxRecDepth 100000 in
theorem own_mono {w : World} {base base' s n : Nat} {e : TypeId} {v : Value} {cs : List Value} (h : w.ownsRow base e s v n cs) (hb : base' ≤ base) : w.ownsRow base' e s v n cs := by
  obtain ⟨h1, h2⟩ := h
  refine ⟨h1, ?_⟩
  rcases h2 with hn | ⟨g, cap, cur, e1, e2, rest⟩
  · exact .inl hn
  · exact .inr ⟨g, cap, cur, e1, by omega, rest⟩
set_option maxRecDepth 100000 in
theorem Ext.appendR {a w w' : World} {s n : Nat} {e : TypeId} {v : Value} {cs : List Value} (h : Ext a w) (ho : w.ownsRow a.heap.size e s v n cs) (k : w.grownBy w' v.ownBlock) : Ext a w' :=
  Below.grown h k h.size (fun j hj => (ho.lt j hj).1)
set_option maxRecDepth 100000 in
theorem run_append_row {P : Program} {w : World} (t ty : TypeId) (base : Nat) (e : TypeId) (ht : P.underlying t = some (.slice e)) (z : Value) (sz bytes : Nat)
    (hinfo : (P.info? e).map (fun i => (i.zero, i.size, i.bytes)) = some (some z, sz, bytes)) (hzs : z.cells.size = sz) (hsz : 0 < sz)
    (v : Value) (n : Nat) (cs : List Value) (hown : w.ownsRow base e sz v n cs) (sv : Value) (m : Nat) (ds : List Value) (hb : Rs w sz sv m ds) (h1c : ∀ u ∈ ds, u.oneCell' = true)
    (hlen : n + m ≤ 1099511627776) (hby : bytes ≤ 128) (hbase : base ≤ w.heap.size) :
    ∃ v' w', (Builtin.append_ #[t, t] ty #[v, sv]).run P w = .ok v' w' ∧ w'.ownsRow base e sz v' (n + m) (cs ++ ds) ∧ w.grownBy w' v.ownBlock ∧ (v'.ownBlock = v.ownBlock ∨ v'.ownBlock = some w.heap.size) := by
  obtain ⟨i0, hi, hz0, hz1, hz2⟩ := info_parts hinfo
  obtain ⟨h0, A, c, rfl, h1, h2, h3⟩ := id hb
  have hbb : (n + m) * bytes ≤ 140737488355328 := Nat.le_trans (Nat.mul_le_mul hlen hby) (by decide)
  by_cases hm0 : m = 0
  · subst hm0
    obtain rfl : ds = [] := List.eq_nil_of_length_eq_zero (by rw [h0]; simp)
    have hrun : (Builtin.append_ #[t, t] ty #[v, .slice A 0 c]).run P w = .ok v w := by
      rcases hown.2 with ⟨rfl, hn⟩ | ⟨g, cap, cur, rfl, _, _, hnc, _⟩
      · rcases A with _ | ad <;> simp [Builtin.append_, run_underlying ht, sizeOf, typeInfo, hi, Builtin.lenOf, Builtin.firstCells, loadCells, loadCellsFrom]
      · rcases A with _ | ad <;> simp [Builtin.append_, run_underlying ht, sizeOf, typeInfo, hi, Builtin.lenOf, Builtin.firstCells, hnc, storeCells, loadCells, loadCellsFrom]
    exact ⟨v, w, hrun, by simpa using hown, World.grownBy.refl _ _, .inl rfl⟩
  · obtain ⟨b, o', rfl, hc⟩ := h3 (by omega)
    have hc' : ∀ j u, ds[j]? = some u → w.cell? ((⟨b, o', none⟩ : Addr).add j) = some u := by
      intro j u hu
      have hadd : (⟨b, o', none⟩ : Addr).add j = ⟨b, o' + j, none⟩ := by unfold Addr.add; split <;> simp_all
      rw [hadd]
      exact hc j u hu
    obtain ⟨v', w', hr, ho', hg', _, hat⟩ := run_append_own_at (P := P) w base t ty e i0 z sz bytes ht hi hz0 hz1 hz2 hzs hsz v n cs hown ⟨b, o', none⟩ m c ds h0 hc' h1c (by unfold maxLen; omega) hbb hbase
    exact ⟨v', w', hr, ho', hg', hat⟩
set_option maxRecDepth 100000 in
theorem step_append_row {P : Program} {w : World} {ops : Array Oper} {o : Oper} {a : Act} {K : Act → World → Prop} {Q : Exit → Act → World → Prop} (hgd : Region.wanted o (yielded ops a.tmps) = true) (s x : Operand) (t : TypeId)
    (ho : o.op = .call { callee := .builtin .append, args := #[s, x], argTypes := #[t, t] }) (base : Nat) (e : TypeId) (ht : P.underlying t = some (.slice e)) (z : Value) (sz bytes : Nat)
    (hinfo : (P.info? e).map (fun i => (i.zero, i.size, i.bytes)) = some (some z, sz, bytes)) (hzs : z.cells.size = sz) (hsz : 0 < sz)
    (v : Value) (n : Nat) (cs : List Value) (hs : a.eval s = v) (hown : w.ownsRow base e sz v n cs) (sv : Value) (m : Nat) (ds : List Value) (hx : a.eval x = sv) (hb : Rs w sz sv m ds) (h1c : ∀ u ∈ ds, u.oneCell' = true)
    (hlen : n + m ≤ 1099511627776) (hby : bytes ≤ 128) (hbase : base ≤ w.heap.size)
    (hK : ∀ v' w', w'.ownsRow base e sz v' (n + m) (cs ++ ds) → w.grownBy w' v.ownBlock → (v'.ownBlock = v.ownBlock ∨ v'.ownBlock = some w.heap.size) → K (a.put o.dst v') w') :
    if Region.wanted o (yielded ops a.tmps) = true then Oper.wp P o a w K Q else K (a.put o.dst undef) w := by
  obtain ⟨v', w', hr, h4, h5, h6⟩ := run_append_row (P := P) t o.type base e ht z sz bytes hinfo hzs hsz v n cs hown sv m ds hb h1c hlen hby hbase
  rw [if_pos hgd]
  unfold Oper.wp
  simp [execOp, ho, resolve, invoke, builtin, hs, hx, hr, Result.andThen]
  exact hK v' w' h4 h5 h6
set_option maxRecDepth 100000 in
theorem wpList_append_row {P : Program} {w : World} {ops : Array Oper} {rest : List Oper} {o : Oper} {a : Act} {Q : Exit → Act → World → Prop} (hgd : Region.wanted o (yielded ops a.tmps) = true) (s x : Operand) (t : TypeId)
    (ho : o.op = .call { callee := .builtin .append, args := #[s, x], argTypes := #[t, t] }) (base : Nat) (e : TypeId) (ht : P.underlying t = some (.slice e)) (z : Value) (sz bytes : Nat)
    (hinfo : (P.info? e).map (fun i => (i.zero, i.size, i.bytes)) = some (some z, sz, bytes)) (hzs : z.cells.size = sz) (hsz : 0 < sz)
    (v : Value) (n : Nat) (cs : List Value) (hs : a.eval s = v) (hown : w.ownsRow base e sz v n cs) (sv : Value) (m : Nat) (ds : List Value) (hx : a.eval x = sv) (hb : Rs w sz sv m ds) (h1c : ∀ u ∈ ds, u.oneCell' = true)
    (hlen : n + m ≤ 1099511627776) (hby : bytes ≤ 128) (hbase : base ≤ w.heap.size)
    (hK : ∀ v' w', w'.ownsRow base e sz v' (n + m) (cs ++ ds) → w.grownBy w' v.ownBlock → (v'.ownBlock = v.ownBlock ∨ v'.ownBlock = some w.heap.size) → wpList P ops Q rest (a.put o.dst v') w') :
    wpList P ops Q (o :: rest) a w :=
  wpList_step fun _ hK' => step_append_row hgd s x t ho base e ht z sz bytes hinfo hzs hsz v n cs hs hown sv m ds hx hb h1c hlen hby hbase fun v' w' h4 h5 h6 => hK' _ _ (hK v' w' h4 h5 h6)

def iv (n : Nat) : Value := .int .i64 (n : Int)
end Go.Proofs.Ytjampleddeidaaa
namespace Go.Proofs.Ytjampleddeidaaa
open Go.RowKit

end Go.Proofs.Ytjampleddeidaaa
