/- Contracts of package octet, function by function. -/
import Derived.Test.YthnilfneaefnhaaReb
import Derived.Test.YthnilfneaefnhaaRows
import Derived.Test.YthnilfneaefnhaaByt
import Derived.Lib.Hide
namespace Go.Proofs.Ythnilfneaefnhaa
open Go.RowKit

/-- How many of them are nought. -/
def zeros (l : List UInt8) : Nat := l.countP (· == 0)

set_option maxRecDepth 100000 in
theorem zeros_le (l : List UInt8) : zeros l ≤ l.length := List.countP_le_length
set_option maxRecDepth 100000 in
theorem zeros_snoc (l : List UInt8) (k : Nat) (hk : k < l.length) : zeros (l.take (k + 1)) = zeros (l.take k) + if (l.getD k 0 == 0) then 1 else 0 := by
  unfold zeros
  rw [List.take_succ_eq_append_getElem hk, List.countP_append]
  simp [List.getD, List.getElem?_eq_getElem hk, List.countP_cons]

set_option maxRecDepth 100000 in
set_option maxHeartbeats 400000 in
theorem put_any (g n : Nat) (l : List UInt8) (hnl : n = l.length) (a : Nat) (ai : Int) (hai : ai = (a : Int)) (xv : Value) (x : List UInt8) (w0 w : World) (hr : Row w g 5 l) (hx : Bs w0 xv x) (hw : Below w0.heap.size w0 w) (hg : w0.heap.size ≤ g) (ha : a ≤ 4294967296) (hxl : x.length ≤ 4294967296) (hl : l.length ≤ maxLen) :
    Calls Try.prog 86 #[.slice (some ⟨g, 0, none⟩) n n, .int .i64 ai, xv] w fun e w' => e = .returned (.tuple #[]) ∧ Row w' g 5 (lay l a x) ∧ w.grownBy w' (some g) := by
  subst hai
  subst hnl
  obtain ⟨A, c, rfl, h1, h2, h3⟩ := hx
  unfold maxLen at hl h2
  go_enter Try.func86, Try.ntmps86
  go_wp2
  go_step3
  go_wp2
  go_step3
  go_wp2
  go_loopw [10] (fun i wr => ∃ k : Nat, k ≤ x.length ∧ i = .int .i64 k ∧ Row wr g 5 (lay l a (x.take k)) ∧ w.grownBy wr (some g)) (fun i _ => x.length - (intOf i).toNat)
  case atStart => exact ⟨0, Nat.zero_le _, rfl, by rw [List.take_zero, lay_none]; exact hr, World.grownBy.refl _ _⟩
  case round =>
    obtain ⟨k, hk, rfl, hrow, hgr⟩ := hrel
    have HG := Lib.hid hgr
    clear hgr
    by_cases hlt : k < x.length
    · obtain ⟨b, o, rfl, hc⟩ := h3 (by omega)
      have hck := hc k hlt
      have hck : wr.cell? ⟨b, o + k, none⟩ = some (bv (x.getD k 0)) := HG.out.cell ((Below.cell hw (World.block_lt_of_cell? _ _ hck)).trans hck) (by have := World.block_lt_of_cell? _ _ hck; simp at this ⊢; omega)
      unfold bv at hck
      clear hc h3
      by_cases hp : a + k < l.length
      · have HS := Lib.hid (lay_step l a x k hlt hp)
        have hcell := hrow.cell (a + k) (by rw [lay_length]; exact hp)
        have hfz := hrow.frozen (a + k)
        unfold bv at hcell
        generalize x.getD k 0 = c0 at *
        go_wp2
        go_roundw
        case rel => exact ⟨k + 1, by omega, by go_num, by rw [HS.out]; exact hrow.put (a + k) c0, grown_trans HG.out (grown_set _ _ _ _)⟩
        case measure => simp [intOf]; omega
      · have HP := Lib.hid (lay_past l a x k (by omega))
        go_wp2
        rw [Exit.noGoto_normal]
        go_end0
        exact ⟨rfl, by rw [← HP.out]; exact hrow, HG.out⟩
    · go_wp2
      rw [Exit.noGoto_normal]
      go_end0
      have hkx : k = x.length := by omega
      subst hkx
      rw [List.take_length] at hrow
      exact ⟨rfl, hrow, HG.out⟩


/-- The first n bytes of l, noughts behind its end. -/
def fit (l : List UInt8) (n : Nat) : List UInt8 := l.take n ++ List.replicate (n - l.length) 0
set_option maxRecDepth 100000 in
theorem fit_length (l : List UInt8) (n : Nat) : (fit l n).length = n := by simp [fit]; omega
set_option maxRecDepth 100000 in
theorem lay_fit (l : List UInt8) (n : Nat) : lay (List.replicate n 0) 0 l = fit l n := by
  apply ext_getD (by rw [lay_length, fit_length]; simp)
  intro i hi
  rw [lay_length] at hi
  have hi' : i < n := by simpa using hi
  rw [lay_getD _ _ _ _ hi, getD_zeros]
  unfold fit
  rw [getD_append_if, getD_zeros, getD_take_if]
  simp only [List.length_take]
  by_cases h : i < l.length
  · rw [if_pos (by omega), if_pos (by omega), if_pos hi']
    rfl
  · rw [if_neg (by omega), if_neg (by omega)]

set_option maxRecDepth 100000 in
set_option maxHeartbeats 400000 in
theorem grown_any (v : Value) (l : List UInt8) (n : Nat) (ni : Int) (hni : ni = (n : Int)) (w : World) (hb : Bs w v l) (hn : n ≤ 140737488355328) :
    Calls Try.prog 85 #[v, .int .i64 ni] w fun e w' => e = .returned (.slice (some ⟨w.heap.size, 0, none⟩) n n) ∧ Row w' w.heap.size 5 (fit l n) ∧ Ext w w' := by
  subst hni
  have HB := Lib.hid hb
  clear hb
  go_enter Try.func85, Try.ntmps85
  go_wp2_with (first
    | (at_make; refine wpList_make_bytes rfl _ _ _ rfl 5 Try.underlying28 u8info .i64 .i64 _ _ n rfl rfl rfl rfl hn ?_; intro w1 hr1 he1; have HR := Lib.hid hr1; have HE := Lib.hid he1; clear hr1 he1)
    | (with_reducible refine wpList_copy_bytes rfl (.tmp 8) (.tmp 9) _ _ rfl 5 Try.underlying28 u8size w.heap.size n n (List.replicate n 0) rfl (by simp) HR.out v l rfl (HB.out.ext HE.out) ?_; intro w2 hr2 hg2; have HR2 := Lib.hid hr2; have HG2 := Lib.hid hg2; clear hr2 hg2))
  go_ret
  refine ⟨rfl, ?_, HE.out.grown HG2.out (Nat.le_refl _)⟩
  rw [← lay_fit]
  exact HR2.out

/-- Whether the numbers can be taken from left, one behind the other. -/
def fitsB : Nat → List Nat → Bool
  | _, [] => true
  | left, n :: r => decide (n ≤ left) && fitsB (left - n) r

set_option maxRecDepth 100000 in
theorem fitsB_step (left : Nat) (us : List Nat) (k : Nat) (hk : k < us.length) : fitsB left (us.drop k) = (decide (us.getD k 0 ≤ left) && fitsB (left - us.getD k 0) (us.drop (k + 1))) := by
  rw [List.drop_eq_getElem_cons hk]
  simp [fitsB, List.getD, List.getElem?_eq_getElem hk]

/-- The window of l from fr on, n bytes. -/
def win (l : List UInt8) (fr n : Nat) : List UInt8 := fit (l.drop fr) n

end Go.Proofs.Ythnilfneaefnhaa
