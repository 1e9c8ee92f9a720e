/- Contracts of package octet: the rest. -/
import Derived.Test.YtllcmeihogcckaaOct
namespace Go.Proofs.Ytllcmeihogcckaa
open Go.RowKit

set_option maxHeartbeats 400000 in
theorem window_neg (v : Value) (l : List UInt8) (fi ni : Int) (w : World) (hb : Bs w v l) (hn : ni < 0) :
    Calls Try.prog 12 #[v, .int .u64 fi, .int .i64 ni] w fun e w' => e = .returned (.tuple #[.slice none 0 0, .int .i64 2]) ∧ Ext w w' := by
  obtain ⟨A, c, rfl, h1, h2, h3⟩ := hb
  clear h1 h2 h3
  go_enter Try.func12, Try.ntmps12
  go_wp2_with (go_at_call 34; go_in)
  go_ret2
  exact ⟨rfl, ((Ext.refl w).alloc _).alloc _⟩

set_option maxHeartbeats 400000 in
theorem window_long (v : Value) (l : List UInt8) (n : Nat) (fi ni : Int) (hni : ni = (n : Int)) (w : World) (hb : Bs w v l) (hn : 4096 < n) (hm : n ≤ 9223372036854775807) :
    Calls Try.prog 12 #[v, .int .u64 fi, .int .i64 ni] w fun e w' => e = .returned (.tuple #[.slice none 0 0, .int .i64 3]) ∧ Ext w w' := by
  subst hni
  obtain ⟨A, c, rfl, h1, h2, h3⟩ := hb
  clear h1 h2 h3
  have hd : decide ((n : Int) < 0) = false := by simp
  go_enter Try.func12, Try.ntmps12
  go_wp2_with (go_at_call 34; go_in)
  refine (fits_any _ 1 _ [n] _ rfl (by omega) ?_).mono ?_
  · intro i hi
    obtain rfl : i = 0 := by omega
    simp [go_sem]
  rintro e w' ⟨rfl, rfl⟩
  have hfit : fitsB 4096 [n] = false := by simp [fitsB]; omega
  rw [hfit]
  clear hfit
  go_wp2_with fail
  go_ret2
  exact ⟨rfl, (((Ext.refl w).alloc _).alloc _).alloc _⟩

set_option maxHeartbeats 400000 in
theorem ahead1_any (g n : Nat) (l : List UInt8) (hnl : n = l.length) (pn pb : Addr) (m : Nat) (xv : Value) (x : List UInt8) (w0 w : World) (hr : Row w g 5 l) (hx : Bs w0 xv x) (hw : Below w0.heap.size w0 w) (hg : w0.heap.size ≤ g)
    (hf : w.cell? pn = some (.int .i64 m)) (hb : w.cell? pb = some xv) (hm : m ≤ 4294967296) (hxm : x.length ≤ m) (hl : l.length ≤ maxLen) :
    Calls Try.prog 39 #[.slice (some ⟨g, 0, none⟩) n n, .pointer (some pn), .pointer (some pb)] w fun e w' => e = .returned (.tuple #[]) ∧ Row w' g 5 (lay l (m - x.length) x) ∧ w.grownBy w' (some g) := by
  have HX := Lib.hid hx
  have HR := Lib.hid hr
  have HW := Lib.hid hw
  have HN := Lib.hid hnl
  obtain ⟨A, c, rfl, h1, h2, h3⟩ := hx
  have HL := Lib.hid hl
  clear h3 hr hw h1 h2 hl hnl
  go_enter Try.func39, Try.ntmps39
  go_wp2_with fail
  refine (put_any g _ l HN.out (m - x.length) _ (by omega) _ x w0 w HR.out HX.out HW.out hg (by omega) (by omega) HL.out).mono ?_
  rintro e w' ⟨rfl, hr', hg'⟩
  have HR' := Lib.hid hr'
  have HG' := Lib.hid hg'
  clear hr' hg'
  go_wp2_with fail
  go_end0
  exact ⟨rfl, HR'.out, HG'.out⟩

set_option maxHeartbeats 400000 in
theorem behind1_any (g n : Nat) (l : List UInt8) (hnl : n = l.length) (pb : Addr) (xv : Value) (x : List UInt8) (w0 w : World) (hr : Row w g 5 l) (hx : Bs w0 xv x) (hw : Below w0.heap.size w0 w) (hg : w0.heap.size ≤ g)
    (hb : w.cell? pb = some xv) (hxm : x.length ≤ 4294967296) (hl : l.length ≤ maxLen) :
    Calls Try.prog 40 #[.slice (some ⟨g, 0, none⟩) n n, .pointer (some pb)] w fun e w' => e = .returned (.tuple #[]) ∧ Row w' g 5 (lay l 0 x) ∧ w.grownBy w' (some g) := by
  have HX := Lib.hid hx
  have HR := Lib.hid hr
  have HW := Lib.hid hw
  have HN := Lib.hid hnl
  obtain ⟨A, c, rfl, h1, h2, h3⟩ := hx
  have HL := Lib.hid hl
  clear h3 hr hw h1 h2 hl hnl
  go_enter Try.func40, Try.ntmps40
  go_wp2_with fail
  refine (put_any g _ l HN.out 0 _ rfl _ x w0 w HR.out HX.out HW.out hg (by omega) (by omega) HL.out).mono ?_
  rintro e w' ⟨rfl, hr', hg'⟩
  have HR' := Lib.hid hr'
  have HG' := Lib.hid hg'
  clear hr' hg'
  go_wp2_with fail
  go_end0
  exact ⟨rfl, HR'.out, HG'.out⟩

/-- Noughts ahead of l, up to n bytes. -/
def ahd (l : List UInt8) (n : Nat) : List UInt8 := List.replicate (n - l.length) 0 ++ l
theorem lay_ahd (l : List UInt8) (n : Nat) (h : l.length ≤ n) : lay (List.replicate n 0) (n - l.length) l = ahd l n := by
  apply ext_getD (by rw [lay_length]; simp [ahd]; omega)
  intro i hi
  rw [lay_length] at hi
  have hi' : i < n := by simpa using hi
  rw [lay_getD _ _ _ _ hi, getD_zeros]
  unfold ahd
  rw [getD_append_if, getD_zeros]
  simp only [List.length_replicate]
  by_cases h : i < n - l.length
  · rw [if_neg (by omega), if_pos h]
  · rw [if_pos (by omega), if_neg h]

set_option maxHeartbeats 400000 in
theorem ahead_ok (v : Value) (l : List UInt8) (n : Nat) (ni : Int) (hni : ni = (n : Int)) (w : World) (hb : Bs w v l) (hn : n ≤ 4096) (hln : l.length ≤ n) :
    Calls Try.prog 20 #[v, .int .i64 ni] w fun e w' => e = .returned (.tuple #[.slice (some ⟨w.heap.size + 3, 0, none⟩) n n, .int .i64 0]) ∧ Row w' (w.heap.size + 3) 5 (ahd l n) ∧ Ext w w' := by
  subst hni
  have HB := Lib.hid hb
  obtain ⟨A, c, rfl, h1, h2, h3⟩ := hb
  clear h1 h2 h3
  have hd : decide ((n : Int) < 0) = false := by simp
  have hd2 : decide (n < l.length) = false := by simp; omega
  go_enter Try.func20, Try.ntmps20
  go_wp2_with (go_at_call 34; go_in)
  refine (fits_any _ 1 _ [n] _ rfl (by omega) ?_).mono ?_
  · intro i hi
    obtain rfl : i = 0 := by omega
    simp [go_sem]
  rintro e w' ⟨rfl, rfl⟩
  have hfit : fitsB 4096 [n] = true := by simp [fitsB, hn]
  rw [hfit]
  clear hfit
  go_wp2_with (at_make; refine wpList_make_bytes rfl _ _ _ rfl 5 Try.underlying22 u8info .i64 .i64 _ _ n rfl rfl rfl rfl (by omega) ?_; intro w1 hr1 he1; have HR := Lib.hid hr1; have HE := Lib.hid he1; clear hr1 he1)
  have hr1 : Row w1 (w.heap.size + 1 + 1 + 1) 5 (List.replicate n 0) := by simpa using HR.out
  have he : Ext w w1 := (((Ext.refl w).alloc _).alloc _ |>.alloc _).trans HE.out
  have hcf : w1.cell? ⟨w.heap.size + 1, 0, none⟩ = some (.int .i64 n) := HE.out.cell (by simp [go_sem])
  have hcb : w1.cell? ⟨w.heap.size, 0, none⟩ = some (.slice A l.length c) := HE.out.cell (by simp [go_sem])
  refine (ahead1_any _ n _ (by simp) _ _ n _ l w w1 hr1 HB.out he (by omega) hcf hcb (by omega) hln (by simp [maxLen]; omega)).mono ?_
  rintro e w2 ⟨rfl, hr2, hg2⟩
  have HR2 := Lib.hid hr2
  have HE2 := Lib.hid (he.grown hg2 (by omega))
  clear hr2 hg2 he hr1 hcf hcb HR HE
  go_wp2_with fail
  go_ret2
  refine ⟨rfl, ?_, HE2.out⟩
  rw [← lay_ahd l n hln]
  exact HR2.out

set_option maxHeartbeats 400000 in
theorem behind_ok (v : Value) (l : List UInt8) (n : Nat) (ni : Int) (hni : ni = (n : Int)) (w : World) (hb : Bs w v l) (hn : n ≤ 4096) (hln : l.length ≤ n) :
    Calls Try.prog 21 #[v, .int .i64 ni] w fun e w' => e = .returned (.tuple #[.slice (some ⟨w.heap.size + 2, 0, none⟩) n n, .int .i64 0]) ∧ Row w' (w.heap.size + 2) 5 (fit l n) ∧ Ext w w' := by
  subst hni
  have HB := Lib.hid hb
  obtain ⟨A, c, rfl, h1, h2, h3⟩ := hb
  clear h1 h2 h3
  have hd : decide ((n : Int) < 0) = false := by simp
  have hd2 : decide (n < l.length) = false := by simp; omega
  go_enter Try.func21, Try.ntmps21
  go_wp2_with (go_at_call 34; go_in)
  refine (fits_any _ 1 _ [n] _ rfl (by omega) ?_).mono ?_
  · intro i hi
    obtain rfl : i = 0 := by omega
    simp [go_sem]
  rintro e w' ⟨rfl, rfl⟩
  have hfit : fitsB 4096 [n] = true := by simp [fitsB, hn]
  rw [hfit]
  clear hfit
  go_wp2_with (at_make; refine wpList_make_bytes rfl _ _ _ rfl 5 Try.underlying22 u8info .i64 .i64 _ _ n rfl rfl rfl rfl (by omega) ?_; intro w1 hr1 he1; have HR := Lib.hid hr1; have HE := Lib.hid he1; clear hr1 he1)
  have hr1 : Row w1 (w.heap.size + 1 + 1) 5 (List.replicate n 0) := by simpa using HR.out
  have he : Ext w w1 := (((Ext.refl w).alloc _).alloc _).trans HE.out
  have hcb : w1.cell? ⟨w.heap.size, 0, none⟩ = some (.slice A l.length c) := HE.out.cell (by simp [go_sem])
  refine (behind1_any _ n _ (by simp) _ _ l w w1 hr1 HB.out he (by omega) hcb (by omega) (by simp [maxLen]; omega)).mono ?_
  rintro e w2 ⟨rfl, hr2, hg2⟩
  have HR2 := Lib.hid hr2
  have HE2 := Lib.hid (he.grown hg2 (by omega))
  clear hr2 hg2 he hr1 hcb HR HE
  go_wp2_with fail
  go_ret2
  refine ⟨rfl, ?_, HE2.out⟩
  rw [← lay_fit]
  exact HR2.out
end Go.Proofs.Ytllcmeihogcckaa
