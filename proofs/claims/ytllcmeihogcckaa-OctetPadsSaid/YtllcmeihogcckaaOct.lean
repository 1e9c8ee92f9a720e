/- Contracts of package octet, function by function. -/
import Derived.Test.YtllcmeihogcckaaRows
import Derived.Test.YtllcmeihogcckaaByt
import Derived.Lib.Hide
namespace Go.Proofs.Ytllcmeihogcckaa
open Go.RowKit

/-- How many of them are nought. -/
def zeros (l : List UInt8) : Nat := l.countP (· == 0)

theorem zeros_le (l : List UInt8) : zeros l ≤ l.length := List.countP_le_length
theorem zeros_snoc (l : List UInt8) (k : Nat) (hk : k < l.length) : zeros (l.take (k + 1)) = zeros (l.take k) + if (l.getD k 0 == 0) then 1 else 0 := by
  unfold zeros
  rw [List.take_succ_eq_append_getElem hk, List.countP_append]
  simp [List.getD, List.getElem?_eq_getElem hk, List.countP_cons]

set_option maxHeartbeats 400000 in
theorem noughts_any (v : Value) (l : List UInt8) (w : World) (hb : Bs w v l) :
    Calls Try.prog 15 #[v] w fun e w' => e = .returned (.tuple #[.int .i64 (zeros l), .int .i64 ((l.length : Int) - zeros l)]) ∧ w = w' := by
  obtain ⟨A, c, rfl, h1, h2, h3⟩ := hb
  unfold maxLen at h2
  go_enter Try.func15, Try.ntmps15
  go_wp2
  go_loop [4, 9] (fun t i => ∃ k : Nat, k ≤ l.length ∧ i = .int .i64 k ∧ t = .int .i64 (zeros (l.take k))) (fun _ i => l.length - (intOf i).toNat)
  case atStart => exact ⟨0, Nat.zero_le _, rfl, rfl⟩
  case round =>
    obtain ⟨k, hk, rfl, rfl⟩ := hrel
    have hz := zeros_le (l.take k)
    have hzl : (l.take k).length ≤ k := List.length_take_le _ _
    by_cases hlt : k < l.length
    · have HS := Lib.hid (zeros_snoc l k hlt)
      obtain ⟨b, o, rfl, hc⟩ := h3 (by omega)
      have hck := hc k hlt
      unfold bv at hck
      clear hc h3
      generalize l.getD k 0 = x at *
      by_cases hx0 : x = 0
      · subst hx0
        go_wp2
        go_round
        case rel => exact ⟨k + 1, by omega, by go_num, by rw [HS.out]; simp⟩
        case measure => simp [intOf]; omega
      · have hn : ((x.toNat : Int) == 0) = false := by
          rw [beq_eq_false_iff_ne]
          intro h
          exact hx0 (UInt8.toNat_inj.1 (by simpa using h))
        go_wp2
        go_round
        case rel => exact ⟨k + 1, by omega, by go_num, by rw [HS.out]; simp [hx0]⟩
        case measure => simp [intOf]; omega
    · go_wp2
      have hz2 : (l.take k) = l := List.take_of_length_le (by omega)
      go_ret2
      rw [hz2]
      exact ⟨rfl, rfl⟩

set_option maxHeartbeats 400000 in
theorem put_any (g n : Nat) (l : List UInt8) (hnl : n = l.length) (a : Nat) (ai : Int) (hai : ai = (a : Int)) (xv : Value) (x : List UInt8) (w0 w : World) (hr : Row w g 5 l) (hx : Bs w0 xv x) (hw : Below w0.heap.size w0 w) (hg : w0.heap.size ≤ g) (ha : a ≤ 4294967296) (hxl : x.length ≤ 4294967296) (hl : l.length ≤ maxLen) :
    Calls Try.prog 36 #[.slice (some ⟨g, 0, none⟩) n n, .int .i64 ai, xv] w fun e w' => e = .returned (.tuple #[]) ∧ Row w' g 5 (lay l a x) ∧ w.grownBy w' (some g) := by
  subst hai
  subst hnl
  obtain ⟨A, c, rfl, h1, h2, h3⟩ := hx
  unfold maxLen at hl h2
  go_enter Try.func36, Try.ntmps36
  go_wp2
  go_step3
  go_wp2
  go_step3
  go_wp2
  go_loopw [10] (fun i wr => ∃ k : Nat, k ≤ x.length ∧ i = .int .i64 k ∧ Row wr g 5 (lay l a (x.take k)) ∧ w.grownBy wr (some g)) (fun i _ => x.length - (intOf i).toNat)
  case atStart => exact ⟨0, Nat.zero_le _, rfl, by rw [List.take_zero, lay_none]; exact hr, World.grownBy.refl _ _⟩
  case round =>
    obtain ⟨k, hk, rfl, hrow, hgr⟩ := hrel
    have HG := Lib.hid hgr
    clear hgr
    by_cases hlt : k < x.length
    · obtain ⟨b, o, rfl, hc⟩ := h3 (by omega)
      have hck := hc k hlt
      have hck : wr.cell? ⟨b, o + k, none⟩ = some (bv (x.getD k 0)) := HG.out.cell ((Below.cell hw (World.block_lt_of_cell? _ _ hck)).trans hck) (by have := World.block_lt_of_cell? _ _ hck; simp at this ⊢; omega)
      unfold bv at hck
      clear hc h3
      by_cases hp : a + k < l.length
      · have HS := Lib.hid (lay_step l a x k hlt hp)
        have hcell := hrow.cell (a + k) (by rw [lay_length]; exact hp)
        have hfz := hrow.frozen (a + k)
        unfold bv at hcell
        generalize x.getD k 0 = c0 at *
        go_wp2
        go_roundw
        case rel => exact ⟨k + 1, by omega, by go_num, by rw [HS.out]; exact hrow.put (a + k) c0, grown_trans HG.out (grown_set _ _ _ _)⟩
        case measure => simp [intOf]; omega
      · have HP := Lib.hid (lay_past l a x k (by omega))
        go_wp2
        rw [Exit.noGoto_normal]
        go_end0
        exact ⟨rfl, by rw [← HP.out]; exact hrow, HG.out⟩
    · go_wp2
      rw [Exit.noGoto_normal]
      go_end0
      have hkx : k = x.length := by omega
      subst hkx
      rw [List.take_length] at hrow
      exact ⟨rfl, hrow, HG.out⟩

theorem u8info : (Try.prog.info? 5).map (fun i => (i.zero, i.size, i.bytes)) = some (some (.int .u8 0), 1, 1) := by kernel_rfl
theorem u8size : (Try.prog.info? 5).map (·.size) = some 1 := by kernel_rfl

/-- The first n bytes of l, noughts behind its end. -/
def fit (l : List UInt8) (n : Nat) : List UInt8 := l.take n ++ List.replicate (n - l.length) 0
theorem fit_length (l : List UInt8) (n : Nat) : (fit l n).length = n := by simp [fit]; omega
theorem lay_fit (l : List UInt8) (n : Nat) : lay (List.replicate n 0) 0 l = fit l n := by
  apply ext_getD (by rw [lay_length, fit_length]; simp)
  intro i hi
  rw [lay_length] at hi
  have hi' : i < n := by simpa using hi
  rw [lay_getD _ _ _ _ hi, getD_zeros]
  unfold fit
  rw [getD_append_if, getD_zeros, getD_take_if]
  simp only [List.length_take]
  by_cases h : i < l.length
  · rw [if_pos (by omega), if_pos (by omega), if_pos hi']
    rfl
  · rw [if_neg (by omega), if_neg (by omega)]

set_option maxHeartbeats 400000 in
theorem grown_any (v : Value) (l : List UInt8) (n : Nat) (ni : Int) (hni : ni = (n : Int)) (w : World) (hb : Bs w v l) (hn : n ≤ 140737488355328) :
    Calls Try.prog 38 #[v, .int .i64 ni] w fun e w' => e = .returned (.slice (some ⟨w.heap.size, 0, none⟩) n n) ∧ Row w' w.heap.size 5 (fit l n) ∧ Ext w w' := by
  subst hni
  have HB := Lib.hid hb
  clear hb
  go_enter Try.func38, Try.ntmps38
  go_wp2_with (first
    | (at_make; refine wpList_make_bytes rfl _ _ _ rfl 5 Try.underlying22 u8info .i64 .i64 _ _ n rfl rfl rfl rfl hn ?_; intro w1 hr1 he1; have HR := Lib.hid hr1; have HE := Lib.hid he1; clear hr1 he1)
    | (with_reducible refine wpList_copy_bytes rfl (.tmp 8) (.tmp 9) _ _ rfl 5 Try.underlying22 u8size w.heap.size n n (List.replicate n 0) rfl (by simp) HR.out v l rfl (HB.out.ext HE.out) ?_; intro w2 hr2 hg2; have HR2 := Lib.hid hr2; have HG2 := Lib.hid hg2; clear hr2 hg2))
  go_ret
  refine ⟨rfl, ?_, HE.out.grown HG2.out (Nat.le_refl _)⟩
  rw [← lay_fit]
  exact HR2.out

/-- Whether the numbers can be taken from left, one behind the other. -/
def fitsB : Nat → List Nat → Bool
  | _, [] => true
  | left, n :: r => decide (n ≤ left) && fitsB (left - n) r

theorem fitsB_step (left : Nat) (us : List Nat) (k : Nat) (hk : k < us.length) : fitsB left (us.drop k) = (decide (us.getD k 0 ≤ left) && fitsB (left - us.getD k 0) (us.drop (k + 1))) := by
  rw [List.drop_eq_getElem_cons hk]
  simp [fitsB, List.getD, List.getElem?_eq_getElem hk]

set_option maxHeartbeats 400000 in
theorem fits_any (g n c : Nat) (us : List Nat) (w : World) (hn : us.length = n) (hs : n ≤ 1000) (hc : ∀ i, i < n → w.cell? ⟨g, i, none⟩ = some (.int .u64 (us.getD i 0 : Nat))) :
    Calls Try.prog 41 #[.slice (some ⟨g, 0, none⟩) n c] w fun e w' => e = .returned (.bool (fitsB 4096 us)) ∧ w = w' := by
  go_enter Try.func41, Try.ntmps41
  have HC := Lib.hid hc
  have HN := Lib.hid hn
  clear hc hn
  go_wp2
  go_loop [3, 8] (fun t i => ∃ k left : Nat, k ≤ n ∧ left ≤ 4096 ∧ i = .int .i64 k ∧ t = .int .u64 left ∧ Hid (fitsB 4096 us = fitsB left (us.drop k))) (fun _ i => n - (intOf i).toNat)
  case atStart => exact ⟨0, 4096, Nat.zero_le _, Nat.le_refl _, rfl, rfl, rfl⟩
  case round =>
    obtain ⟨k, left, hk, hleft, rfl, rfl, HF⟩ := hrel
    by_cases hlt : k < n
    · have hck := HC.out k hlt
      have HS := Lib.hid (fitsB_step left us k (by have := HN.out; omega))
      generalize us.getD k 0 = u at *
      by_cases hu : u ≤ left
      · have hb : ((left : Int) < (u : Int)) = False := by simp; omega
        go_wp2
        go_round
        case rel => exact ⟨k + 1, left - u, by omega, by omega, by go_num, by congr 1; omega, by show _ = _; rw [HF.out, HS.out]; simp [hu]⟩
        case measure => simp [intOf]; omega
      · have hb : ((left : Int) < (u : Int)) = True := by simp; omega
        go_wp2
        go_ret
        rw [HF.out, HS.out]
        simp [hu]
    · go_wp2
      go_ret
      rw [HF.out, List.drop_of_length_le (by have := HN.out; omega)]
      exact ⟨rfl, rfl⟩

set_option maxHeartbeats 400000 in
theorem window1_any (g n : Nat) (l : List UInt8) (hnl : n = l.length) (pf pb : Addr) (fr : Nat) (xv : Value) (x : List UInt8) (w0 w : World) (hr : Row w g 5 l) (hx : Bs w0 xv x) (hw : Below w0.heap.size w0 w) (hg : w0.heap.size ≤ g)
    (hf : w.cell? pf = some (.int .u64 fr)) (hb : w.cell? pb = some xv) (hxl : x.length ≤ 4294967296) (hl : l.length ≤ maxLen) :
    Calls Try.prog 35 #[.slice (some ⟨g, 0, none⟩) n n, .pointer (some pf), .pointer (some pb)] w fun e w' => e = .returned (.tuple #[]) ∧ Row w' g 5 (lay l 0 (x.drop fr)) ∧ w.grownBy w' (some g) := by
  subst hnl
  have HX := Lib.hid hx
  have HR := Lib.hid hr
  have HW := Lib.hid hw
  obtain ⟨A, c, rfl, h1, h2, h3⟩ := hx
  have HL := Lib.hid hl
  unfold maxLen at hl h2
  clear h3 hr hw
  by_cases hlt : fr < x.length
  · have hd : decide ((fr : Int) < (x.length : Int)) = true := by simp; omega
    go_enter Try.func35, Try.ntmps35
    go_wp2_with fail
    refine (put_any g _ l rfl 0 _ rfl _ (x.drop fr) w0 w HR.out (HX.out.dropLt fr (by omega) (by omega)) HW.out hg (by omega) (by simp; omega) HL.out).mono ?_
    rintro e w' ⟨rfl, hr', hg'⟩
    have HR' := Lib.hid hr'
    have HG' := Lib.hid hg'
    clear hr' hg'
    go_wp2_with fail
    go_end0
    exact ⟨rfl, HR'.out, HG'.out⟩
  · go_enter Try.func35, Try.ntmps35
    go_wp2_with fail
    go_end0
    rw [List.drop_of_length_le (by omega), lay_none]
    exact ⟨rfl, HR.out, World.grownBy.refl _ _⟩

/-- The window of l from fr on, n bytes. -/
def win (l : List UInt8) (fr n : Nat) : List UInt8 := fit (l.drop fr) n

set_option maxHeartbeats 400000 in
theorem window_ok (v : Value) (l : List UInt8) (fr n : Nat) (fi ni : Int) (hfi : fi = (fr : Int)) (hni : ni = (n : Int)) (w : World) (hb : Bs w v l) (hl : l.length ≤ 4294967296) (hn : n ≤ 4096) (hf : fr < 18446744073709551616) :
    Calls Try.prog 12 #[v, .int .u64 fi, .int .i64 ni] w fun e w' => e = .returned (.tuple #[.slice (some ⟨w.heap.size + 3, 0, none⟩) n n, .int .i64 0]) ∧ Row w' (w.heap.size + 3) 5 (win l fr n) ∧ Ext w w' := by
  subst hfi
  subst hni
  have HB := Lib.hid hb
  have HL := Lib.hid hl
  obtain ⟨A, c, rfl, h1, h2, h3⟩ := hb
  clear hl h1 h2 h3
  have hd : decide ((n : Int) < 0) = false := by simp
  go_enter Try.func12, Try.ntmps12
  go_wp2_with (go_at_call 34; go_in)
  refine (fits_any _ 1 _ [n] _ rfl (by omega) ?_).mono ?_
  · intro i hi
    obtain rfl : i = 0 := by omega
    simp [go_sem]
  rintro e w' ⟨rfl, rfl⟩
  have hfit : fitsB 4096 [n] = true := by simp [fitsB, hn]
  rw [hfit]
  clear hfit
  go_wp2_with (at_make; refine wpList_make_bytes rfl _ _ _ rfl 5 Try.underlying22 u8info .i64 .i64 _ _ n rfl rfl rfl rfl (by omega) ?_; intro w1 hr1 he1; have HR := Lib.hid hr1; have HE := Lib.hid he1; clear hr1 he1)
  have hr1 : Row w1 (w.heap.size + 1 + 1 + 1) 5 (List.replicate n 0) := by simpa using HR.out
  have he : Ext w w1 := (((Ext.refl w).alloc _).alloc _ |>.alloc _).trans HE.out
  have hcf : w1.cell? ⟨w.heap.size + 1, 0, none⟩ = some (.int .u64 fr) := HE.out.cell (by simp [go_sem])
  have hcb : w1.cell? ⟨w.heap.size, 0, none⟩ = some (.slice A l.length c) := HE.out.cell (by simp [go_sem])
  refine (window1_any _ n _ (by simp) _ _ fr _ l w w1 hr1 HB.out he (by omega) hcf hcb HL.out (by simp [maxLen]; omega)).mono ?_
  rintro e w2 ⟨rfl, hr2, hg2⟩
  have HR2 := Lib.hid hr2
  have HE2 := Lib.hid (he.grown hg2 (by omega))
  clear hr2 hg2 he hr1 hcf hcb HR HE
  go_wp2_with fail
  go_ret2
  refine ⟨rfl, ?_, HE2.out⟩
  unfold win
  rw [← lay_fit]
  exact HR2.out
end Go.Proofs.Ytllcmeihogcckaa
