/- slices.Clone at nonces. -/
import Derived.Test.YtepggbhibpjkpaaNod
import Derived.Test.YtepggbhibpjkpaaLhf
namespace Go.Proofs.Ytepggbhibpjkpaa
open Go.ChangeShapes Go.WideShapes Go.ChangeAt Go.RowKit Go.Shelf
/-! ### Rows of the call's own -/
def nnf (l : List Nn) : List Value := (l.map fun p => (nnc p).toList).flatten
set_option maxRecDepth 100000 in
theorem Nns.rs {W : World} {v : Value} {l : List Nn} (h : Nns W v l) : Rs W 6 v l.length (nnf l) := Sl.rsL (by decide) (fun p => (nnc p).toList) (fun _ => rfl) (fun _ _ h => h.2) h
set_option maxRecDepth 100000 in
theorem nnf_one (l : List Nn) : ∀ u ∈ nnf l, u.oneCell' = true := by
  intro u hu
  obtain ⟨cs, hcs, hu⟩ := List.mem_flatten.1 hu
  obtain ⟨p, _, rfl⟩ := List.mem_map.1 hcs
  exact nnc_ones p u hu
/-- The rows v are l, in memory of the call's own. -/
def OwnN (W : World) (base : Nat) (v : Value) (l : List Nn) : Prop := W.ownsRow base 38 6 v l.length (nnf l) ∧ ∀ p ∈ l, p.ok
set_option maxRecDepth 100000 in
theorem OwnN.ext {W W' : World} {base : Nat} {v : Value} {l : List Nn} (h : OwnN W base v l) (he : Ext W W') : OwnN W' base v l := ⟨own_ext h.1 he, h.2⟩
set_option maxRecDepth 100000 in
theorem OwnN.mono {W : World} {base base' : Nat} {v : Value} {l : List Nn} (h : OwnN W base v l) (hb : base' ≤ base) : OwnN W base' v l := ⟨own_mono h.1 hb, h.2⟩
set_option maxRecDepth 100000 in
theorem OwnN.rowO {W : World} {base : Nat} {v : Value} {l : List Nn} (h : OwnN W base v l) : RowO 38 6 (fun _ => NnR) No base W v l :=
  ⟨l.map fun p => (nnc p).toList, by simp, by intro cs hc; obtain ⟨p, _, rfl⟩ := List.mem_map.1 hc; rfl, h.1, fun i cs x hc hx => Far.true _ _ _ fun W => by
    rw [List.getElem?_map, hx] at hc
    simp at hc
    have := h.2 x (List.mem_of_getElem? hx)
    exact ⟨this, hc.symm⟩⟩
set_option maxRecDepth 100000 in
theorem OwnN.nns {W : World} {base : Nat} {v : Value} {l : List Nn} (h : OwnN W base v l) : Nns W v l := h.rowO.sl
set_option maxRecDepth 100000 in
theorem OwnN.nil (W : World) (base : Nat) : OwnN W base (.slice none 0 0) [] := ⟨World.ownsRow_nil _ _ _ _, fun _p hp => nomatch hp⟩
/-! ### slices.Clone of rows -/
set_option maxRecDepth 100000 in
set_option maxHeartbeats 1000000 in
theorem cloneN_any (mv : Value) (l : List Nn) (w : World) (hm : Nns w mv l) (hl : l.length ≤ 100000) : Calls Try.prog 45 #[mv] w fun e w' => ∃ v, e = .returned v ∧ OwnN w' w.heap.size v l ∧ Ext w w' := by
  have HR := Lib.hid hm.rs
  have HK := Lib.hid hm.oks
  obtain ⟨A, c, rfl, h1, h2, h3⟩ := hm
  have hnil := fun (w : World) (n : Nat) => Lib.run_eql_slice_nil (P := Try.prog) w 22 38 A n c 0 0 Try.underlying22
  cases A with
  | none =>
    have h0 : l = [] := by
      cases l with
      | nil => rfl
      | cons x l =>
        obtain ⟨b, o, e, _⟩ := h3 (by simp)
        cases e
    subst h0
    clear h3
    go_enter Try.func45, Try.ntmps45
    go_wp2_with fail
    go_ret
    exact ⟨_, rfl, OwnN.nil _ _, Ext.refl _⟩
  | some ad =>
    clear h3
    have HO : Hid ((w.alloc (.cells #[] 38)).ownsRow w.heap.size 38 6 (.slice (some ⟨w.heap.size, 0, none⟩) 0 0) 0 []) := Lib.hid ⟨by simp, .inr ⟨w.heap.size, 0, #[], rfl, Nat.le_refl _, heap_alloc_new _ _, Nat.le_refl _, by unfold maxLen; omega, by simp, by simp⟩⟩
    go_enter Try.func45, Try.ntmps45
    go_wp2_with (first
      | (at_builtin; go_loud (refine wpList_append_row ?_ (.tmp 5) (.tmp 6) 22 rfl w.heap.size 38 Try.underlying22 _ 6 48 nninfo3 rfl (by decide) _ 0 [] rfl HO.out _ l.length (nnf l) rfl (HR.out.ext ((Ext.refl w).alloc _)) (nnf_one l) (by omega) (by decide) (by simp) ?_; (exact rfl); intro v5 w5 o5 g5 b5; have O5 := Lib.hid o5; have E5 := Lib.hid (((Ext.refl w).alloc (.cells #[] 38)).grown (g := w.heap.size) g5 (Nat.le_refl _)); clear o5 g5 b5)))
    go_ret
    have := O5.out
    rw [Nat.zero_add, List.nil_append] at this
    exact ⟨_, rfl, ⟨this, HK.out⟩, E5.out⟩

/-- A row of cells over which others are laid. -/
def rowM (cur : Array Value) (i : Nat) (news : List Value) : Array Value := (cur.toList.take (i * 6) ++ news ++ cur.toList.drop (i * 6 + news.length)).toArray
set_option maxRecDepth 100000 in
theorem rowM_size (cur : Array Value) (i : Nat) (news : List Value) (h : i * 6 + news.length ≤ cur.size) : (rowM cur i news).size = cur.size := by
  unfold rowM
  simp
  omega
set_option maxRecDepth 100000 in
theorem rowM_take (cur : Array Value) (i n : Nat) (news : List Value) (h : i * 6 + news.length ≤ cur.size) (hn : n * 6 = i * 6 + news.length) : (rowM cur i news).toList.take (n * 6) = cur.toList.take (i * 6) ++ news := by
  unfold rowM
  rw [List.toList_toArray, hn, List.take_left' (by simp; omega)]
set_option maxRecDepth 100000 in
theorem rowM_keep (cur : Array Value) (i n : Nat) (news : List Value) (h : i * 6 + news.length ≤ cur.size) (hn : n ≤ i) : (rowM cur i news).toList.take (n * 6) = cur.toList.take (n * 6) := by
  unfold rowM
  rw [List.toList_toArray, List.append_assoc, List.take_append_of_le_length (by simp; omega), List.take_take, Nat.min_eq_left (by omega)]
set_option maxRecDepth 100000 in
theorem nnf_len (l : List Nn) : (nnf l).length = l.length * 6 := by
  induction l with
  | nil => rfl
  | cons p l ih =>
    have e : nnf (p :: l) = (nnc p).toList ++ nnf l := by simp [nnf]
    have h8 : (nnc p).toList.length = 6 := rfl
    rw [e, List.length_append, ih, h8, List.length_cons]
    omega
set_option maxRecDepth 100000 in
theorem nnf_app' (l m : List Nn) : nnf (l ++ m) = nnf l ++ nnf m := by simp [nnf]
set_option maxRecDepth 100000 in
theorem nnf_take (l : List Nn) (i : Nat) : (nnf l).take (i * 6) = nnf (l.take i) := by
  by_cases h : i ≤ l.length
  · conv => lhs; rw [← List.take_append_drop i l, nnf_app']
    rw [List.take_left' (by rw [nnf_len, List.length_take, Nat.min_eq_left h])]
  · rw [List.take_of_length_le (show l.length ≤ i by omega), List.take_of_length_le (by rw [nnf_len]; omega)]
set_option maxRecDepth 100000 in
theorem ninfo6 : ∃ i0 : TypeInfo, Try.prog.info? 38 = some i0 ∧ i0.size = 6 := by
  have h := nninfo
  cases hi : Try.prog.info? 38 with
  | none => rw [hi] at h; cases h
  | some i0 => rw [hi] at h; exact ⟨i0, rfl, by simpa using h⟩
end Go.Proofs.Ytepggbhibpjkpaa
