/- Package code: its small functions. -/
import Derived.Test.YtjefbfabigkeiaaDoorCda
namespace Go.Proofs.YtjefbfabigkeiaaDoor
open Go.ChangeShapes Go.WideShapes Go.ChangeAt Go.RowKit Go.Shelf

set_option maxRecDepth 100000 in
theorem Ext.drewC {a w : World} (h : Ext a w) (n : Nat) : Ext a (w.drewN n) := ⟨h.os, h.tape, h.output, h.size, fun i hi => Below.block h i hi⟩
/-- What Check answers. -/
def chkC (n : Nat) : Nat := if 200 < n then 3 else 0
/-- The number of a digit, if it is one. -/
def digN (c : Nat) : Option Nat := if 48 ≤ c ∧ c ≤ 57 then some (c - 48) else if 97 ≤ c ∧ c ≤ 102 then some (c - 87) else none
set_option maxRecDepth 100000 in
theorem flat_at {α : Type} (cl : α → List Value) (c : Nat) (hc : ∀ a, (cl a).length = c) : ∀ (L : List α) (i j : Nat) (d : α), i < L.length → j < c → (L.flatMap cl)[i * c + j]? = (cl (L.getD i d))[j]?
  | [], i, j, _, h, _ => by simp at h
  | a :: l, 0, j, d, _, hj => by
    rw [List.flatMap_cons, Nat.zero_mul, Nat.zero_add, List.getElem?_append_left (by rw [hc]; exact hj)]
    rfl
  | a :: l, i + 1, j, d, h, hj => by
    rw [List.flatMap_cons, List.getElem?_append_right (by rw [hc, Nat.succ_mul]; omega), hc, Nat.succ_mul, show i * c + c + j - c = i * c + j by omega, flat_at cl c hc l i j d (by simpa using h) hj]
    rfl
set_option maxRecDepth 100000 in
theorem Tb.row {W : World} (h : Tb W) (i : Nat) (hi : i < 50) : W.rangeAt 1 (i * 4) (rwc (rowsL.getD i rwz)) := fun j v hv => by
  have hj : j < 4 := by have := (List.getElem?_eq_some_iff.1 hv).1; simpa [rwc] using this
  refine h.2.cell _ _ ?_
  rw [List.getElem?_toArray, flat_at rwc 4 (fun _ => rfl) rowsL i j rwz (by rw [rowsL_len]; exact hi) hj]
  exact hv
set_option maxRecDepth 100000 in
theorem Tb.code {W : World} (h : Tb W) (i : Nat) (hi : i < 50) : W.cell? ⟨1, i * 4, none⟩ = some (.int .u8 ((rowsL.getD i rwz).code : Nat)) := (h.row i hi) 0 _ rfl
set_option maxRecDepth 100000 in
theorem Tb.name {W : World} (h : Tb W) (i : Nat) (hi : i < 50) : W.cell? ⟨1, i * 4 + 1, none⟩ = some (st (rowsL.getD i rwz).name) := (h.row i hi) 1 _ rfl
set_option maxRecDepth 100000 in
theorem rw_info : (Tryd.prog.info? 85).map (·.size) = some 4 := by kernel_rfl
set_option maxRecDepth 100000 in
/-- A row of the table is loaded. -/
theorem wpList_load_rowC {ops : Array Oper} {rest : List Oper} {o : Oper} {a : Act} {w : World} {Q : Exit → Act → World → Prop} (hgd : Region.wanted o (yielded ops a.tmps) = true) (x : Operand) (ho : o.op = .load 85 x)
    (g k : Nat) (p : Rw) (hx : a.eval x = .pointer (some ⟨g, k, none⟩)) (hg : w.rangeAt g k (rwc p)) (h : wpList Tryd.prog ops Q rest (a.put o.dst (.agg (rwc p).toArray)) w) : wpList Tryd.prog ops Q (o :: rest) a w := by
  refine wpList_step fun K hK => ?_
  rw [if_pos hgd]
  refine wp_load_mid 85 x ho g k hx (rwc p) _ hg Tryd.underlying85 rfl rw_info ?_
  exact hK _ _ h
set_option maxRecDepth 100000 in
set_option maxHeartbeats 1000000 in
theorem below_any (gc i c : Nat) (w : World) (hT : Tb w) (hgc : w.cell? ⟨gc, 0, none⟩ = some (.int .u8 (c : Nat))) (hi : i < 50) :
    Calls Tryd.prog 59 #[.int .i64 (i : Nat), .pointer (some ⟨gc, 0, none⟩)] w fun e w' => e = .returned (.bool (decide (c ≤ (rowsL.getD i rwz).code))) ∧ Ext w w' := by
  have q1 := hT.code i hi
  clear hT
  generalize rowsL.getD i rwz = p at *
  have hd3 : decide (i < 50) = true := decide_eq_true hi
  go_enter Tryd.func59, Tryd.ntmps59
  go_upto_region 1 with fail
  go_quiet (fail)
  go_wp2_with fail
  go_ret
  refine ⟨?_, Ext.drewC (Ext.refl _) nq⟩
  rw [show decide (c ≤ p.code) = decide ((c : Int) ≤ (p.code : Int)) by simp]
  rfl
/-- How many rows have lower codes. -/
def posC (c : Nat) : Nat := (rowsL.filter fun r => decide (r.code < c)).length
set_option maxRecDepth 100000 in
theorem posC_le (c : Nat) : posC c ≤ 50 := by
  rw [← rowsL_len]
  exact List.length_filter_le _ _
set_option maxRecDepth 100000 in
theorem posC_all : ∀ c, c < 256 → ∀ i, i < 50 → ((rowsL.getD i rwz).code < c ↔ i < posC c) := by decide +kernel
set_option maxRecDepth 100000 in
set_option maxHeartbeats 4000000 in
theorem searchC_any (gc c : Nat) (w : World) (hT : Tb w) (hgc : w.cell? ⟨gc, 0, none⟩ = some (.int .u8 (c : Nat))) (hc : c < 256) :
    Calls Tryd.prog 58 #[.int .i64 50, .func (.func 59) #[] #[.pointer (some ⟨gc, 0, none⟩)]] w fun e w' => e = .returned (.int .i64 (posC c : Nat)) ∧ Ext w w' := by
  have HT := Lib.hid hT
  have HGC := Lib.hid hgc
  have HPL := Lib.hid (posC_all c hc)
  have HPO := Lib.hid (posC_le c)
  clear hT hgc hc
  go_enter Tryd.func58, Tryd.ntmps58
  go_wp2_with fail
  go_loopw [5, 6] (fun iv jv wr => ∃ i j : Nat, i ≤ posC c ∧ posC c ≤ j ∧ j ≤ 50 ∧ iv = .int .i64 i ∧ jv = .int .i64 j ∧ Hid (Ext w wr)) (fun iv jv _ => (intOf jv).toNat - (intOf iv).toNat)
  case atStart => exact ⟨0, 50, Nat.zero_le _, HPO.out, Nat.le_refl _, rfl, rfl, Lib.hid (Ext.refl _)⟩
  case round =>
    obtain ⟨i, j, hi, hj, hjl, rfl, rfl, HE⟩ := hrel
    by_cases hlt : i < j
    · have hd : decide (i < j) = true := decide_eq_true hlt
      have hd2 : decide ((i : Int) < (j : Int)) = true := decide_eq_true (by omega)
      obtain ⟨h, hh⟩ : ∃ h, (i + j) / 2 = h := ⟨_, rfl⟩
      have hhl : h < 50 := by omega
      have HH := Lib.hid (show i ≤ h ∧ h < j ∧ (((i : Int) + (j : Int)) / 2 = ((h : Nat) : Int)) by omega)
      have HPH := Lib.hid (HPL.out h hhl)
      clear hh
      go_upto_region 4 with fail
      rw [HH.out.2.2]
      go_wp2_with fail
      refine (below_any gc h c _ (HT.out.ext HE.out) (HE.out.cell HGC.out) hhl).mono ?_
      rintro e w2 ⟨rfl, he⟩
      have HE2 := Lib.hid (HE.out.trans he)
      clear he
      by_cases hx : h < posC c
      · have e1 : decide (c ≤ (rowsL.getD h rwz).code) = false := decide_eq_false (by have := HPH.out.2 hx; omega)
        rw [e1]
        clear e1
        go_wp2_with fail
        refine ⟨⟨h + 1, j, by omega, hj, hjl, by go_num, rfl, HE2⟩, by simp [intOf]; have := HH.out; omega⟩
      · have e1 : decide (c ≤ (rowsL.getD h rwz).code) = true := decide_eq_true (by rcases Nat.lt_or_ge (rowsL.getD h rwz).code c with hq | hq; exact absurd (HPH.out.1 hq) hx; exact hq)
        rw [e1]
        clear e1
        go_wp2_with fail
        refine ⟨⟨i, h, hi, by omega, by omega, rfl, by go_num, HE2⟩, by simp [intOf]; have := HH.out; omega⟩
    · obtain rfl : i = posC c := by omega
      have hd : decide (posC c < j) = false := decide_eq_false hlt
      have hd2 : decide ((posC c : Int) < (j : Int)) = false := decide_eq_false (by omega)
      go_wp2_with fail
      refine bodyPost_ret (results_tmp rfl _ _ _) rfl ?_
      exact ⟨rfl, HE.out⟩
/-! ### Operations -/
set_option maxRecDepth 100000 in
theorem opinfo : (Tryd.prog.info? 64).map (·.size) = some 5 := by kernel_rfl
set_option maxRecDepth 100000 in
theorem opc_one (p : Opv) : (opc p).toArray.all (·.oneCell') = true := by simp [opc, st, Value.oneCell']
/-- A block that holds an operation. -/
def Ob (W : World) (g : Nat) (p : Opv) : Prop := Cs W g 64 (opc p).toArray
set_option maxRecDepth 100000 in
theorem Ob.ext {W W' : World} {g : Nat} {p : Opv} (h : Ob W g p) (he : Ext W W') : Ob W' g p := Cs.ext h he
set_option maxRecDepth 100000 in
theorem Ob.name {W : World} {g : Nat} {p : Opv} (h : Ob W g p) : W.cell? ⟨g, 1, none⟩ = some (st p.name) := Cs.cell h 1 _ rfl
set_option maxRecDepth 100000 in
theorem Ob.code {W : World} {g : Nat} {p : Opv} (h : Ob W g p) : W.cell? ⟨g, 0, none⟩ = some (.int .u8 (p.code : Nat)) := Cs.cell h 0 _ rfl
set_option maxRecDepth 100000 in
theorem Ob.data {W : World} {g : Nat} {p : Opv} (h : Ob W g p) : W.cell? ⟨g, 4, none⟩ = some (.int .i64 (p.data : Nat)) := Cs.cell h 4 _ rfl
set_option maxRecDepth 100000 in
theorem wpList_loadOp {ops : Array Oper} {rest : List Oper} {o : Oper} {a : Act} {w : World} {Q : Exit → Act → World → Prop} (hgd : Region.wanted o (yielded ops a.tmps) = true) (x : Operand) (ho : o.op = .load 64 x)
    (g : Nat) (p : Opv) (hx : a.eval x = .pointer (some ⟨g, 0, none⟩)) (hg : Ob w g p) (h : wpList Tryd.prog ops Q rest (a.put o.dst (opv p)) w) : wpList Tryd.prog ops Q (o :: rest) a w := by
  refine wpList_step fun K hK => ?_
  rw [if_pos hgd]
  exact wp_load_row 64 x ho g hx 64 (opc p).toArray (0, 0) _ hg Tryd.underlying64 rfl opinfo (hK _ _ h)
set_option maxRecDepth 100000 in
theorem wpList_storeOp {ops : Array Oper} {rest : List Oper} {o : Oper} {a : Act} {w : World} {Q : Exit → Act → World → Prop} (hgd : o.guard = none) (hd : o.dst = none) (x y : Operand) (ho : o.op = .store 64 x y)
    (g : Nat) (old : Array Value) (p : Opv) (hx : a.eval x = .pointer (some ⟨g, 0, none⟩)) (hy : a.eval y = opv p) (hg : Cs w g 64 old) (hold : old.size = 5)
    (h : ∀ w', Ob w' g p → w.grownBy w' (some g) → wpList Tryd.prog ops Q rest a w') : wpList Tryd.prog ops Q (o :: rest) a w := by
  have h' : ∀ w', Ob w' g p → w.grownBy w' (some g) → wpList Tryd.prog ops Q rest (a.put o.dst undef) w' := by rw [hd]; exact h
  refine wpList_store_row hgd 64 x y ho g (opc p).toArray hx hy 64 old hg opinfo hold (opc_one p) (h' _ ?_ ?_)
  · exact setRow_heap w g _ _ 64 (0, 0) hg
  · exact ⟨rfl, rfl, rfl, by simp [World.setRow], fun k _ hk => setRow_other w g k _ (fun e => hk (by simp [e]))⟩
set_option maxRecDepth 100000 in
theorem results_op {fn : Func} {q : Tmp} (h : fn.results = #[.cell q 64]) (tmps : Array Value) (w : World) (g : Nat) (p : Opv) (hp : tmps.getD q undef = .pointer (some ⟨g, 0, none⟩)) (hg : Ob w g p) : (results fn tmps).run Tryd.prog w = .ok (opv p) w :=
  results_cell_row h tmps w g 64 (opc p).toArray (0, 0) _ hp hg Tryd.underlying64 rfl opinfo
set_option maxRecDepth 100000 in
set_option maxHeartbeats 1000000 in
theorem rowOp_any (r : Rw) (w : World) :
    Calls Tryd.prog 60 #[.agg (rwc r).toArray] w fun e w' => e = .returned (opv r.op) ∧ Ext w w' := by
  obtain ⟨w1, hw1⟩ : ∃ w1, (w.alloc (.cells (rwc r).toArray 85)).alloc (.cells #[.int .u8 0, .string { data := #[] }, .int .i64 0, .int .i64 0, .int .i64 0] 64) = w1 := ⟨_, rfl⟩
  have HW1 := Lib.hid hw1
  have HK : Hid (Cs w1 w.heap.size 85 (rwc r).toArray) := Lib.hid (by rw [← hw1]; exact Cs.alloc (Cs.new _ _ _ _ rfl) _)
  have HG : Hid (Cs w1 (w.heap.size + 1) 64 #[.int .u8 0, .string { data := #[] }, .int .i64 0, .int .i64 0, .int .i64 0]) := Lib.hid (by rw [← hw1]; exact Cs.new _ _ _ _ (by rw [World.size_alloc]))
  have HE : Hid (Ext w w1) := Lib.hid (by rw [← hw1]; exact ((Ext.refl w).alloc _).alloc _)
  clear hw1
  go_enter Tryd.func60, Tryd.ntmps60
  go_upto_region 1 with fail
  rw [HW1.out]
  clear HW1
  have q0 : w1.cell? ⟨w.heap.size, 0, none⟩ = some (.int .u8 (r.code : Nat)) := HK.out.cell 0 _ rfl
  have q1 : w1.cell? ⟨w.heap.size, 1, none⟩ = some (st r.name) := HK.out.cell 1 _ rfl
  have q2 : w1.cell? ⟨w.heap.size, 2, none⟩ = some (.int .i64 (r.takes : Nat)) := HK.out.cell 2 _ rfl
  have q3 : w1.cell? ⟨w.heap.size, 3, none⟩ = some (.int .i64 (r.lays : Nat)) := HK.out.cell 3 _ rfl
  unfold st at q1
  go_wp2_with (((with_reducible refine wpList_storeOp ?_ ?_ (.tmp 2) (.tmp 11) ?_ (w.heap.size + 1) _ r.op ?_ ?_ HG.out rfl ?_); (exact rfl); (exact rfl); (exact rfl); (exact rfl); (exact rfl)); intro w2 hg2 he2)
  refine bodyPost_ret (results_op rfl _ _ _ _ rfl hg2) rfl ?_
  exact ⟨rfl, Ext.grown HE.out he2 (Nat.le_succ _)⟩
end Go.Proofs.YtjefbfabigkeiaaDoor
