/- Rows of words: the append of many, and a store into the row. -/
import Derived.Test.YtiojfpdjnblkhaaQWsp
import Derived.Test.YtiojfpdjnblkhaaQByt
import Derived.Laws.CopyRow
namespace Go.Proofs.Ytiojfpdjnblkhaa
open Go.ChangeShapes Go.WideShapes Go.ChangeAt Go.RowKit

set_option maxRecDepth 100000 in
theorem winfo3 : (Try.prog.info? 31).map (fun i => (i.zero, i.size, i.bytes)) = some (some (.agg #[.int .u64 0, .int .u64 0, .int .u64 0, .int .u64 0]), 4, 32) := by kernel_rfl

def wcs (l : List Nat) : List Value := l.flatMap fun n => (wc n).toList
theorem wcs_length (l : List Nat) : (wcs l).length = l.length * 4 := by
 unfold wcs
 induction l with
 | nil => rfl
 | cons x l ih => rw [List.flatMap_cons, List.length_append, ih]; simp [wc]; omega
theorem wcs_get (l : List Nat) : ∀ i j, i < l.length → j < 4 → (wcs l)[i * 4 + j]? = some (.int .u64 (lb (l.getD i 0) j : Nat)) := by
 induction l with
 | nil => intro i j h; simp at h
 | cons x l ih =>
  intro i j hi hj
  unfold wcs
  rw [List.flatMap_cons]
  have hx : (wc x).toList.length = 4 := rfl
  cases i with
  | zero =>
   rw [List.getElem?_append_left (by rw [hx]; omega)]
   have := wc_get x j hj
   simpa [List.getD, lv] using this
  | succ i =>
   rw [List.getElem?_append_right (by rw [hx]; omega), hx, show (i + 1) * 4 + j - 4 = i * 4 + j by omega]
   simpa [List.getD, wcs] using ih i j (by simpa using hi) hj
theorem wcs_one (l : List Nat) : ∀ u ∈ wcs l, u.oneCell' = true := by
 intro u hu
 unfold wcs at hu
 obtain ⟨n, _, hn⟩ := List.mem_flatMap.1 hu
 simp [wc, lv] at hn
 rcases hn with rfl | rfl | rfl | rfl <;> rfl

theorem run_storeVar_elem {P : Program} (w : World) (g o : Nat) (t ty : TypeId) (cur cells : Array Value) (hg : Cs w g t cur) (hi : (P.info? ty).map (·.size) = some cells.size) (hb : o + cells.size ≤ cur.size) (h1 : cells.all (·.oneCell') = true) :
  (storeVar ty ⟨g, o, none⟩ (.agg cells)).run P w = .ok () (w.setRow g (cur.toList.take o ++ cells.toList ++ cur.toList.drop (o + cells.size)).toArray) := by
 have := run_storeCells_at (P := P) g o t cells.toList 0 cur w hg (by simpa using hb) (fun v hv => (Array.all_eq_true_iff_forall_mem.1 h1) v (by simpa using hv))
 cases hq : P.info? ty with
 | none => simp [hq] at hi
 | some i =>
  have hs : cells.size = i.size := by simp [hq] at hi; omega
  simp only [Nat.add_zero, Array.length_toList] at this
  simp [storeVar, sizeOf, typeInfo, hq, Value.cells, hs]
  simpa [hs] using this

set_option maxRecDepth 100000 in
theorem wpList_build_word {ops : Array Oper} {rest : List Oper} {o : Oper} {a : Act} {W : World} {Q : Exit → Act → World → Prop} (hgd : Region.wanted o (yielded ops a.tmps) = true) (x : Operand) (ho : o.op = .buildSlice 155 1 #[(0, x)]) (n : Nat) (hx : a.eval x = wv n)
  (h : wpList Try.prog ops Q rest (a.put o.dst (.slice (some ⟨W.heap.size, 0, none⟩) 1 1)) (W.alloc (.cells (wc n) 31))) : wpList Try.prog ops Q (o :: rest) a W := by
 obtain ⟨i0, hi, hz0, hz1, hz2⟩ := info_parts winfo3
 refine wpList_step fun K hK' => ?_
 rw [if_pos hgd]
 have hK := hK' _ _ h
 have hp : (#[(0, x)] : Array (Nat × Operand)).map (fun (i, x) => (i, a.eval x)) = #[(0, wv n)] := by simp [hx]
 have hrun : (execOp a.eval o).run Try.prog W = .ok (.value (.slice (some ⟨W.heap.size, 0, none⟩) 1 1)) (W.alloc (.cells (wc n) 31)) := by
  simp only [execOp, ho]
  rw [hp]
  simp [wv, wc, lv, Instr.buildSlice, Instr.fill, go_sem, run_underlying Try.underlying155, Value.cells, sizeOf, typeInfo, hi, hz1]
 unfold Oper.wp
 rw [hrun]
 exact hK
theorem wcs_snoc (l : List Nat) (n : Nat) : wcs l ++ (wc n).toList = wcs (l ++ [n]) := by simp [wcs]
theorem wc_ones (n : Nat) : ∀ u ∈ (wc n).toList, u.oneCell' = true := fun u hu => Array.all_eq_true_iff_forall_mem.1 (wc_one n) u (by simpa using hu)
theorem own_ws {W : World} {base n : Nat} {t : TypeId} {v : Value} {l : List Nat} (h : W.ownsRow base t 4 v n (wcs l)) (hn : n = l.length) (hl : ∀ x ∈ l, x < M256) : Ws W v l := by
 subst hn
 obtain ⟨_, A, c, e, h1, h2, h3⟩ := Rs.of_own h
 refine ⟨A, c, e, h1, h2, fun hp => ?_, fun i hi => hl _ (by simp [List.getD, List.getElem?_eq_getElem hi])⟩
 obtain ⟨b, o, ea, hc⟩ := h3 hp
 exact ⟨b, o, ea, fun i hi j hj => by rw [Nat.add_assoc]; exact hc _ _ (wcs_get l i j hi hj)⟩
end Go.Proofs.Ytiojfpdjnblkhaa
