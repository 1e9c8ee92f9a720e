/- Package code: the tables of operations, as they lie in memory; an operation as a value. -/
import Derived.Test.YtjefbfabigkeiaaDoorRows
import Derived.Test.YtjefbfabigkeiaaDoorWra
import Derived.Test.YtjefbfabigkeiaaDoorByt
import Derived.Test.YtjefbfabigkeiaaDoorFrm
import Derived.RegionTactic
import Derived.Deep.QuietTactic
import Derived.BigQuiet
import Derived.LaidSub
import Derived.LaidMore
import Derived.Stop.Joined
import Derived.OpenShut
import Derived.Outline
import Derived.IntWalk
import Derived.Deep.Cut
import Derived.Orders
import Derived.Deep.MidRow
namespace Go.Proofs.YtjefbfabigkeiaaDoor
open Go.ChangeShapes Go.WideShapes Go.ChangeAt Go.RowKit Go.Shelf

/-- A block known whole, but for its type. -/
def Tk (W : World) (g : Nat) (c : Array Value) : Prop := ∃ t p, W.heap[g]? = some (.cells c t p)
set_option maxRecDepth 100000 in
theorem Tk.ext {W W' : World} {g : Nat} {c : Array Value} (h : Tk W g c) (he : Ext W W') : Tk W' g c := by
  obtain ⟨t, p, h⟩ := h
  exact ⟨t, p, he.block h⟩
set_option maxRecDepth 100000 in
theorem Tk.cell {W : World} {g : Nat} {c : Array Value} (h : Tk W g c) (i : Nat) (v : Value) (hi : c[i]? = some v) : W.cell? ⟨g, i, none⟩ = some v := by
  obtain ⟨t, p, h⟩ := h
  rw [cell_of_row W g i _ t p h]
  exact hi
/-- A row: an operation without a number in its name. -/
structure Rw where
  code : Nat
  name : List UInt8
  takes : Nat
  lays : Nat
/-- A family of operations. -/
structure Fm where
  first : Nat
  last : Nat
  name : List UInt8
  takes : Nat
  lays : Nat
  deep : Nat
  long : Nat
/-- Bytes as a string. -/
def st (l : List UInt8) : Value := .string ⟨l.toArray⟩
def rwc (r : Rw) : List Value := [.int .u8 (r.code : Nat), st r.name, .int .i64 (r.takes : Nat), .int .i64 (r.lays : Nat)]
def fmc (f : Fm) : List Value := [.int .u8 (f.first : Nat), .int .u8 (f.last : Nat), st f.name, .int .i64 (f.takes : Nat), .int .i64 (f.lays : Nat), .int .i64 (f.deep : Nat), .int .i64 (f.long : Nat)]
def rwz : Rw := ⟨0, [], 0, 0⟩
def fmz : Fm := ⟨0, 0, [], 0, 0, 0, 0⟩
/-- The rows. -/
def rowsL : List Rw := [
  ⟨0, [83, 84, 79, 80], 0, 0⟩,
  ⟨1, [65, 68, 68], 2, 1⟩,
  ⟨2, [77, 85, 76], 2, 1⟩,
  ⟨3, [83, 85, 66], 2, 1⟩,
  ⟨4, [68, 73, 86], 2, 1⟩,
  ⟨6, [77, 79, 68], 2, 1⟩,
  ⟨16, [76, 84], 2, 1⟩,
  ⟨17, [71, 84], 2, 1⟩,
  ⟨20, [69, 81], 2, 1⟩,
  ⟨21, [73, 83, 90, 69, 82, 79], 1, 1⟩,
  ⟨22, [65, 78, 68], 2, 1⟩,
  ⟨23, [79, 82], 2, 1⟩,
  ⟨24, [88, 79, 82], 2, 1⟩,
  ⟨25, [78, 79, 84], 1, 1⟩,
  ⟨27, [83, 72, 76], 2, 1⟩,
  ⟨28, [83, 72, 82], 2, 1⟩,
  ⟨32, [72, 65, 83, 72], 2, 1⟩,
  ⟨48, [65, 68, 68, 82, 69, 83, 83], 0, 1⟩,
  ⟨49, [66, 65, 76, 65, 78, 67, 69], 1, 1⟩,
  ⟨50, [79, 82, 73, 71, 73, 78], 0, 1⟩,
  ⟨51, [67, 65, 76, 76, 69, 82], 0, 1⟩,
  ⟨52, [67, 65, 76, 76, 86, 65, 76, 85, 69], 0, 1⟩,
  ⟨53, [68, 65, 84, 65, 76, 79, 65, 68], 1, 1⟩,
  ⟨54, [68, 65, 84, 65, 83, 73, 90, 69], 0, 1⟩,
  ⟨55, [68, 65, 84, 65, 67, 79, 80, 89], 3, 0⟩,
  ⟨61, [82, 69, 84, 85, 82, 78, 83, 73, 90, 69], 0, 1⟩,
  ⟨62, [82, 69, 84, 85, 82, 78, 67, 79, 80, 89], 3, 0⟩,
  ⟨66, [84, 73, 77, 69], 0, 1⟩,
  ⟨67, [78, 85, 77, 66, 69, 82], 0, 1⟩,
  ⟨71, [83, 69, 76, 70, 66, 65, 76, 65, 78, 67, 69], 0, 1⟩,
  ⟨72, [66, 65, 83, 69, 70, 69, 69], 0, 1⟩,
  ⟨80, [80, 79, 80], 1, 0⟩,
  ⟨81, [77, 76, 79, 65, 68], 1, 1⟩,
  ⟨82, [77, 83, 84, 79, 82, 69], 2, 0⟩,
  ⟨83, [77, 83, 84, 79, 82, 69, 56], 2, 0⟩,
  ⟨84, [83, 76, 79, 65, 68], 1, 1⟩,
  ⟨85, [83, 83, 84, 79, 82, 69], 2, 0⟩,
  ⟨86, [74, 85, 77, 80], 1, 0⟩,
  ⟨87, [74, 85, 77, 80, 73], 2, 0⟩,
  ⟨90, [71, 65, 83], 0, 1⟩,
  ⟨91, [74, 85, 77, 80, 68, 69, 83, 84], 0, 0⟩,
  ⟨92, [84, 76, 79, 65, 68], 1, 1⟩,
  ⟨93, [84, 83, 84, 79, 82, 69], 2, 0⟩,
  ⟨241, [67, 65, 76, 76], 7, 1⟩,
  ⟨243, [82, 69, 84, 85, 82, 78], 2, 0⟩,
  ⟨244, [68, 69, 76, 69, 71, 65, 84, 69, 67, 65, 76, 76], 6, 1⟩,
  ⟨245, [67, 82, 69, 65, 84, 69, 50], 4, 1⟩,
  ⟨250, [83, 84, 65, 84, 73, 67, 67, 65, 76, 76], 6, 1⟩,
  ⟨253, [82, 69, 86, 69, 82, 84], 2, 0⟩,
  ⟨254, [73, 78, 86, 65, 76, 73, 68], 0, 0⟩]
/-- The families. -/
def famL : List Fm := [
  ⟨96, 127, [80, 85, 83, 72], 0, 1, 0, 1⟩,
  ⟨128, 143, [68, 85, 80], 0, 1, 1, 0⟩,
  ⟨144, 159, [83, 87, 65, 80], 1, 1, 1, 0⟩]
set_option maxRecDepth 100000 in
theorem rowsL_len : rowsL.length = 50 := by decide +kernel
set_option maxRecDepth 100000 in
theorem famL_len : famL.length = 3 := by decide +kernel
/-- An operation. -/
structure Opv where
  code : Nat
  name : List UInt8
  takes : Nat
  lays : Nat
  data : Nat
deriving DecidableEq
def opc (o : Opv) : List Value := [.int .u8 (o.code : Nat), st o.name, .int .i64 (o.takes : Nat), .int .i64 (o.lays : Nat), .int .i64 (o.data : Nat)]
def opv (o : Opv) : Value := .agg (opc o).toArray
def opz : Opv := ⟨0, [], 0, 0, 0⟩
/-- A row's, a family's operation. -/
def Rw.op (r : Rw) : Opv := ⟨r.code, r.name, r.takes, r.lays, 0⟩

/-! ### The tables -/
set_option maxRecDepth 100000 in
theorem flat_of {c : Nat} {α : Type} (cl : α → List Value) : ∀ (L : List α) (cs : List Value), cs.length = L.length * c → (∀ i (h : i < L.length), (cs.drop (i * c)).take c = cl L[i]) → cs = L.flatMap cl
  | [], cs, hl, _ => by simpa using hl
  | a :: l, cs, hl, h => by
    have h0 := h 0 (by simp)
    rw [Nat.zero_mul, List.drop_zero] at h0
    have ih := flat_of (c := c) cl l (cs.drop c) (by rw [List.length_drop, hl, List.length_cons, Nat.succ_mul]; omega) fun i hi => by
      have := h (i + 1) (by simpa using hi)
      rw [List.drop_drop, show c + i * c = (i + 1) * c by rw [Nat.succ_mul]; omega]
      exact this
    have e : cs = cs.take c ++ cs.drop c := (List.take_append_drop _ _).symm
    rw [List.flatMap_cons, ← ih]
    rw [show cl a = cs.take c from h0.symm]
    exact e
set_option maxRecDepth 100000 in
theorem tabC_of {α : Type} (cl : α → List Value) {P : Program} {W : World} {H : Type} {enc : TypeId × Value → H} (dw : α → DataW H) {spare : Nat → Bool} {base fuel n c : Nat} {held : Bool} {t e : TypeId} {cs : List Value} {L : List α} {p : List MemPlace} (ht : P.underlying t = some (.array n e)) (hce : P.cellsOf e = c) (hct : P.cellsOf t = n * c)
    (hns : L.length = n) (hE : ∀ fuel cs (a : α) p, DataW.trod enc P W base spare held fuel e cs = some (dw a, p) → cs = cl a) (h : DataW.trod enc P W base spare held fuel t cs = some (.agg (L.map dw), p)) : cs = L.flatMap cl := by
  obtain ⟨xs, m, _, hx, hlen, hn, hel⟩ := DataW.trod_array ht h
  injection hx with hx _
  injection hx with hx
  rw [hce] at hel
  refine flat_of cl L cs (c := c) (by rw [hlen, hct, hns]) fun i hi => ?_
  have hi' : i < n := by omega
  have hxi : i < xs.length := by omega
  have h3 := hel i hi'
  rw [List.getElem?_eq_getElem hxi] at h3
  have e3 : (xs.map (·.1))[i]? = some (dw L[i]) := by rw [← hx, List.getElem?_map, List.getElem?_eq_getElem hi]; rfl
  rw [List.getElem?_map, List.getElem?_eq_getElem hxi] at e3
  simp only [Option.map_some, Option.some.injEq] at e3
  refine hE m _ L[i] xs[i].2 ?_
  rw [h3, ← e3]
/-- How a row, a family is laid. -/
def rwd {H : Type} (r : Rw) : DataW H := .agg [.lit (.int .u8 (r.code : Nat)), .lit (.string r.name), .lit (.int .i64 (r.takes : Nat)), .lit (.int .i64 (r.lays : Nat))]
def fmd {H : Type} (f : Fm) : DataW H := .agg [.lit (.int .u8 (f.first : Nat)), .lit (.int .u8 (f.last : Nat)), .lit (.string f.name), .lit (.int .i64 (f.takes : Nat)), .lit (.int .i64 (f.lays : Nat)), .lit (.int .i64 (f.deep : Nat)), .lit (.int .i64 (f.long : Nat))]
set_option maxRecDepth 100000 in
theorem int_at {P : Program} {W : World} {H : Type} {enc : TypeId × Value → H} {spare : Nat → Bool} {base fuel : Nat} {held : Bool} {t : TypeId} {k : IntKind} {cs : List Value} {z : Int} {x : DataW H × List MemPlace} (ht : P.underlying t = some (.int k)) (h : DataW.trod enc P W base spare held fuel t cs = some x) (hx : x.1 = .lit (.int k z)) : cs = [.int k z] := by
  obtain ⟨n, e, rfl, _⟩ := DataW.trod_int ht h
  simp only [DataW.lit.injEq, Lit.int.injEq, true_and] at hx
  rw [e, hx]
set_option maxRecDepth 100000 in
theorem str_at {P : Program} {W : World} {H : Type} {enc : TypeId × Value → H} {spare : Nat → Bool} {base fuel : Nat} {held : Bool} {t : TypeId} {cs : List Value} {l : List UInt8} {x : DataW H × List MemPlace} (ht : P.underlying t = some .string) (h : DataW.trod enc P W base spare held fuel t cs = some x) (hx : x.1 = .lit (.string l)) : cs = [st l] := by
  obtain ⟨s, e, rfl, _⟩ := DataW.trod_string ht h
  simp only [DataW.lit.injEq, Lit.string.injEq] at hx
  rw [e, ← hx, st]
set_option maxRecDepth 100000 in
theorem rw_at {W : World} {H : Type} {enc : TypeId × Value → H} {spare : Nat → Bool} {base : Nat} {held : Bool} (fuel : Nat) (cs : List Value) (a : Rw) (p : List MemPlace) (h : DataW.trod enc Tryd.prog W base spare held fuel 85 cs = some (rwd a, p)) : cs = rwc a := by
  obtain ⟨xs, m, _, hx, hlen, hn, hf⟩ := DataW.trod_struct Tryd.underlying85 h
  injection hx with hx _
  injection hx with hx
  have hl : cs.length = 4 := hlen.trans (by kernel_rfl)
  match xs, hn with
  | [y0, y1, y2, y3], _ =>
  simp only [List.map_cons, List.map_nil, List.cons.injEq, and_true] at hx
  obtain ⟨e0, e1, e2, e3⟩ := hx
  match cs, hl with
  | [c0, c1, c2, c3], _ =>
  have f0 := int_at Tryd.underlying5 ((hf 0 _ rfl).trans rfl) e0.symm
  have f1 := str_at (l := a.name) Tryd.underlying9 ((hf 1 _ rfl).trans rfl) e1.symm
  have f2 := int_at Tryd.underlying3 ((hf 2 _ rfl).trans rfl) e2.symm
  have f3 := int_at Tryd.underlying3 ((hf 3 _ rfl).trans rfl) e3.symm
  have f0 : [c0] = _ := f0
  have f1 : [c1] = _ := f1
  have f2 : [c2] = _ := f2
  have f3 : [c3] = _ := f3
  simp only [List.cons.injEq, and_true] at f0 f1 f2 f3
  rw [f0, f1, f2, f3]
  rfl
set_option maxRecDepth 100000 in
theorem fm_at {W : World} {H : Type} {enc : TypeId × Value → H} {spare : Nat → Bool} {base : Nat} {held : Bool} (fuel : Nat) (cs : List Value) (a : Fm) (p : List MemPlace) (h : DataW.trod enc Tryd.prog W base spare held fuel 80 cs = some (fmd a, p)) : cs = fmc a := by
  obtain ⟨xs, m, _, hx, hlen, hn, hf⟩ := DataW.trod_struct Tryd.underlying80 h
  injection hx with hx _
  injection hx with hx
  have hl : cs.length = 7 := hlen.trans (by kernel_rfl)
  match xs, hn with
  | [y0, y1, y2, y3, y4, y5, y6], _ =>
  simp only [List.map_cons, List.map_nil, List.cons.injEq, and_true] at hx
  obtain ⟨e0, e1, e2, e3, e4, e5, e6⟩ := hx
  match cs, hl with
  | [c0, c1, c2, c3, c4, c5, c6], _ =>
  have f0 := int_at Tryd.underlying5 ((hf 0 _ rfl).trans rfl) e0.symm
  have f1 := int_at Tryd.underlying5 ((hf 1 _ rfl).trans rfl) e1.symm
  have f2 := str_at (l := a.name) Tryd.underlying9 ((hf 2 _ rfl).trans rfl) e2.symm
  have f3 := int_at Tryd.underlying3 ((hf 3 _ rfl).trans rfl) e3.symm
  have f4 := int_at Tryd.underlying3 ((hf 4 _ rfl).trans rfl) e4.symm
  have f5 := int_at Tryd.underlying3 ((hf 5 _ rfl).trans rfl) e5.symm
  have f6 := int_at Tryd.underlying3 ((hf 6 _ rfl).trans rfl) e6.symm
  have f0 : [c0] = _ := f0
  have f1 : [c1] = _ := f1
  have f2 : [c2] = _ := f2
  have f3 : [c3] = _ := f3
  have f4 : [c4] = _ := f4
  have f5 : [c5] = _ := f5
  have f6 : [c6] = _ := f6
  simp only [List.cons.injEq, and_true] at f0 f1 f2 f3 f4 f5 f6
  rw [f0, f1, f2, f3, f4, f5, f6]
  rfl

/-- The tables lie in memory as the package lays them. -/
def Tb (W : World) : Prop := Tk W 0 (famL.flatMap fmc).toArray ∧ Tk W 1 (rowsL.flatMap rwc).toArray
set_option maxRecDepth 100000 in
theorem Tb.ext {W W' : World} (h : Tb W) (he : Ext W W') : Tb W' := ⟨h.1.ext he, h.2.ext he⟩
def laid2 : List (String × DataW Unit) := [("sheafer/code.rows", Rows.laid_sheafer_code_rows), ("sheafer/code.families", Rows.laid_sheafer_code_families)]
set_option maxRecDepth 100000 in
theorem var_block {P : Program} {w : World} {n : String} {g : Nat} {cs : Array Value} (hg : P.globalNamed n = some g) (h : w.var? P n = some cs) : ∃ t p, w.heap[g]? = some (.cells cs t p) := by
  simp only [World.var?, hg, Option.bind_some] at h
  split at h
  · injection h with h
    subst h
    exact ⟨_, _, by assumption⟩
  · cases h
set_option maxRecDepth 100000 in
theorem gRows : Tryd.prog.globalNamed "sheafer/code.rows" = some 1 := by kernel_rfl
set_option maxRecDepth 100000 in
theorem gFams : Tryd.prog.globalNamed "sheafer/code.families" = some 0 := by kernel_rfl
set_option maxRecDepth 100000 in
theorem tRows : (Tryd.prog.globals[1]?).map (·.type) = some 86 := by kernel_rfl
set_option maxRecDepth 100000 in
theorem tFams : (Tryd.prog.globals[0]?).map (·.type) = some 81 := by kernel_rfl
set_option maxRecDepth 100000 in
theorem tb_of_laid {W : World} (h : laidMetH Tryd.prog laid2 W) : Tb W := by
  rw [MakeChecks.laidMetH_plain _ _ _ (by kernel_rfl)] at h
  obtain ⟨ps, ⟨g0, t0, cs0, f0, p0, q0, hg0, ht0, hv0, hd0, ⟨g1, t1, cs1, f1, p1, q1, hg1, ht1, hv1, hd1, _, _⟩, _⟩, _, _⟩ := h
  obtain rfl := Option.some.inj (gRows.symm.trans hg0)
  obtain rfl := Option.some.inj (gFams.symm.trans hg1)
  obtain rfl := Option.some.inj (tRows.symm.trans ht0)
  obtain rfl := Option.some.inj (tFams.symm.trans ht1)
  have e0 := tabC_of rwc rwd (L := rowsL) Tryd.underlying86 (c := 4) (by kernel_rfl) (by kernel_rfl) rowsL_len rw_at hd0
  have e1 := tabC_of fmc fmd (L := famL) Tryd.underlying81 (c := 7) (by kernel_rfl) (by kernel_rfl) famL_len fm_at hd1
  obtain ⟨a0, b0, h0⟩ := var_block hg0 hv0
  obtain ⟨a1, b1, h1⟩ := var_block hg1 hv1
  refine ⟨⟨a1, b1, ?_⟩, ⟨a0, b0, ?_⟩⟩
  · rw [h1, ← e1]
  · rw [h0, ← e0]
end Go.Proofs.YtjefbfabigkeiaaDoor
