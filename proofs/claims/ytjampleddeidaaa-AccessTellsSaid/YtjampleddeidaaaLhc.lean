/- Package ledger: all that is held; which ledgers may be. -/
import Derived.Test.YtjampleddeidaaaLhb
import Derived.Great.BuildSlice
import Derived.Lib.SliceRun
namespace Go.Proofs.Ytjampleddeidaaa
open Go.ChangeShapes Go.WideShapes Go.ChangeAt Go.RowKit Go.Shelf

set_option maxRecDepth 100000 in
theorem fill_two (a b : Nat) : Instr.fill (fun i => some (i * 4, 4)) ((Array.range (2 * 4)).map ((wv 0).cells[· % (wv 0).cells.size]!)) [(0, wv a), (1, wv b)] = some (wc a ++ wc b) := by kernel_rfl
set_option maxRecDepth 100000 in
theorem Ws.rsL {W : World} {v : Value} {l : List Nat} (h : Ws W v l) : Rs W 4 v l.length (wcs l) := by
  obtain ⟨A, c, e, h1, h2, h3, h4⟩ := h
  refine ⟨wcs_length l, A, c, e, h1, h2, fun hp => ?_⟩
  obtain ⟨b, o, ea, hc⟩ := h3 hp
  refine ⟨b, o, ea, fun i u hu => ?_⟩
  have hi : i < l.length * 4 := by rw [← wcs_length]; exact (List.getElem?_eq_some_iff.1 hu).1
  have e1 : i / 4 * 4 + i % 4 = i := by omega
  have hg := wcs_get l (i / 4) (i % 4) (by omega) (by omega)
  rw [e1, hu] at hg
  rw [Option.some.inj hg, show o + i = o + i / 4 * 4 + i % 4 by omega]
  exact hc _ (by omega) _ (by omega)
set_option maxRecDepth 100000 in
theorem wcs_appL (l m : List Nat) : wcs (l ++ m) = wcs l ++ wcs m := by simp [wcs]
set_option maxRecDepth 100000 in
theorem wcs_singleL (n : Nat) : wcs [n] = (wc n).toList := by simp [wcs]

/-! ### slices.Clone of words -/
/-- All deposits and stakes of the rows, one by one. -/
def flatH (l : List Hd) : List Nat := l.flatMap fun h => [h.dep, h.stk]
set_option maxRecDepth 100000 in
theorem flatH_snoc (l : List Hd) (k : Nat) (h : k < l.length) : flatH (l.take (k + 1)) = flatH (l.take k) ++ [(l.getD k hz0).dep, (l.getD k hz0).stk] := by
  rw [List.take_succ_eq_append_getElem h]
  unfold flatH
  rw [List.flatMap_append, List.flatMap_cons, List.flatMap_nil, List.append_nil, List.getD_eq_getElem?_getD, List.getElem?_eq_getElem h, Option.getD_some]
set_option maxRecDepth 100000 in
theorem flatH_len (l : List Hd) : (flatH l).length = 2 * l.length := by
  induction l with
  | nil => rfl
  | cons x l ih => simp [flatH] at ih ⊢; omega
set_option maxRecDepth 100000 in
theorem flatH_lt {l : List Hd} (h : ∀ p ∈ l, p.ok) : ∀ x ∈ flatH l, x < M256 := by
  intro x hx
  obtain ⟨p, hp, hx⟩ := List.mem_flatMap.1 hx
  have := h p hp
  simp at hx
  rcases hx with rfl | rfl
  · exact this.2.1
  · exact this.2.2.1
/-- What lies there in a round: the result, the words so far. -/
def LsJ (w : World) (more : List Nat) (l : List Hd) (k : Nat) (rv : Value) (W : World) : Prop :=
  W.ownsRow (w.heap.size + 1) 30 4 rv (more.length + 2 * k) (wcs (more ++ flatH (l.take k))) ∧ Cs W w.heap.size 30 (wc 0) ∧ Ext w W
set_option maxRecDepth 100000 in
theorem LsJ.ext {w : World} {more : List Nat} {l : List Hd} {k : Nat} {rv : Value} {W W' : World} (h : LsJ w more l k rv W) (he : Ext W W') : LsJ w more l k rv W' := ⟨own_ext h.1 he, Cs.ext h.2.1 he, h.2.2.trans he⟩
set_option maxRecDepth 100000 in
theorem wcs_two (a b : Nat) : (wc a ++ wc b).toList = wcs [a, b] := by simp [wcs]
set_option maxRecDepth 100000 in
theorem rs_two {W : World} {g a b : Nat} (h : Cs W g 30 (wc a ++ wc b)) : Rs W 4 (.slice (some ⟨g, 0, none⟩) 2 2) 2 (wcs [a, b]) := ⟨by rw [wcs_length]; rfl, _, _, rfl, Nat.le_refl _, by unfold maxLen; omega, fun _ => ⟨g, 0, rfl, fun i z hz => by
  rw [Nat.zero_add]
  exact Cs.cell h i z (by rw [← wcs_two] at hz; rwa [Array.getElem?_toList] at hz)⟩⟩
/-- The address ahead of the row k; the row i stands as it should. -/
def lastA (l : List Hd) (k : Nat) : Nat := if k = 0 then 0 else (l.getD (k - 1) hz0).addr
def rgB (l : List Hd) (i : Nat) : Bool := decide (lastA l i < (l.getD i hz0).addr) && (l.getD i hz0).rowB
/-- A ledger may be. -/
def rightG (l : List Hd) : Bool := decide (l.length ≤ 24) && ((List.range l.length).all (rgB l) && !(sumW (flatH l)).2)
def chkG (l : List Hd) : Int := if rightG l then 0 else 170
set_option maxRecDepth 100000 in
theorem chkG_long {l : List Hd} (h : ¬ l.length ≤ 24) : chkG l = 170 := by unfold chkG rightG; rw [decide_eq_false h]; rfl
set_option maxRecDepth 100000 in
theorem chkG_row {l : List Hd} (i : Nat) (hi : i < l.length) (h : rgB l i = false) : chkG l = 170 := by
  have : (List.range l.length).all (rgB l) = false := by
    cases hr : (List.range l.length).all (rgB l) with
    | false => rfl
    | true => rw [List.all_eq_true] at hr; rw [hr i (List.mem_range.2 hi)] at h; cases h
  unfold chkG rightG
  rw [this, Bool.false_and, Bool.and_false]
  rfl
set_option maxRecDepth 100000 in
theorem chkG_all {l : List Hd} (h1 : l.length ≤ 24) (h : ∀ i, i < l.length → rgB l i = true) : chkG l = if (sumW (flatH l)).2 then 170 else 0 := by
  have : (List.range l.length).all (rgB l) = true := by
    rw [List.all_eq_true]
    exact fun i hi => h i (List.mem_range.1 hi)
  unfold chkG rightG
  rw [this, decide_eq_true h1]
  cases (sumW (flatH l)).2 <;> rfl
set_option maxRecDepth 100000 in
theorem lastA_succ (l : List Hd) (k : Nat) : lastA l (k + 1) = (l.getD k hz0).addr := by unfold lastA; rw [if_neg (by omega)]; rfl
end Go.Proofs.Ytjampleddeidaaa
