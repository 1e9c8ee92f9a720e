/- Contracts of package octet: Put64, Over. -/
import Derived.Test.YthnilfneaefnhaaOcw
namespace Go.Proofs.Ythnilfneaefnhaa
open Go.RowKit

/-- The eight bytes of x, the highest first; of them the last k, noughts ahead. -/
def hiK (x k : Nat) : List UInt8 := (List.range 8).map fun j => if 8 ≤ j + k then UInt8.ofNat (x / 256 ^ (7 - j)) else 0
def hi8 (x : Nat) : List UInt8 := hiK x 8
set_option maxRecDepth 100000 in
theorem hiK_length (x k : Nat) : (hiK x k).length = 8 := by simp [hiK]
set_option maxRecDepth 100000 in
theorem hiK_zero (x : Nat) : hiK x 0 = List.replicate 8 0 := by
  apply ext_getD (by simp [hiK])
  intro i hi
  rw [hiK_length] at hi
  rw [getD_zeros]
  simp [hiK, List.getD, hi]
  omega
set_option maxRecDepth 100000 in
theorem hiK_getD (x k i : Nat) (hi : i < 8) : (hiK x k).getD i 0 = if 8 ≤ i + k then UInt8.ofNat (x / 256 ^ (7 - i)) else 0 := by
  simp [hiK, List.getD, hi]
set_option maxRecDepth 100000 in
theorem hiK_step (x k : Nat) (hk : k < 8) : hiK x (k + 1) = (hiK x k).set (7 - k) (UInt8.ofNat (x / 256 ^ k)) := by
  apply ext_getD (by simp [hiK])
  intro i hi
  rw [hiK_length] at hi
  rw [getD_set_if _ _ _ _ (by rw [hiK_length]; omega), hiK_getD _ _ _ hi, hiK_getD _ _ _ hi]
  by_cases h : 7 - k = i
  · subst h
    rw [if_pos (by omega), if_pos rfl, show 7 - (7 - k) = k by omega]
  · rw [if_neg h]
    by_cases h2 : 8 ≤ i + k
    · rw [if_pos (by omega), if_pos h2]
    · rw [if_neg (by omega), if_neg h2]

set_option maxRecDepth 100000 in
theorem shr_byte (x k : Nat) : Value.int .u8 ((x : Int) / 2 ^ (8 * k) % 256) = bv (UInt8.ofNat (x / 256 ^ k)) := by
  unfold bv
  congr 1
  have h : 256 ^ k = 2 ^ (8 * k) := by rw [Nat.pow_mul]
  rw [UInt8.toNat_ofNat', h, Int.natCast_emod, Int.natCast_ediv, Int.natCast_pow]
  rfl
set_option maxRecDepth 100000 in
theorem lay_behind (l x : List UInt8) (n : Nat) (hn : n = l.length + x.length) : lay (fit l n) l.length x = l ++ x := by
  subst hn
  apply ext_getD (by rw [lay_length, fit_length]; simp)
  intro i hi
  rw [lay_length, fit_length] at hi
  rw [lay_getD _ _ _ _ (by rw [fit_length]; exact hi), getD_append_if]
  unfold fit
  rw [getD_append_if, getD_take_if]
  simp only [List.length_take]
  by_cases h : i < l.length
  · rw [if_neg (by omega), if_pos (by omega), if_pos (by omega), if_pos h]
  · rw [if_pos (by omega), if_neg h]

/-- A call that answers a row of its own, and an error's number. -/
def RetE (w : World) (l : List UInt8) (c : Int) (e : Ending) (w' : World) : Prop := ∃ v, e = .returned (.tuple #[v, .int .i64 c]) ∧ Own w' w.heap.size 5 v l ∧ Ext w w'

set_option maxRecDepth 100000 in
set_option maxHeartbeats 400000 in
theorem put64_any (v : Value) (l : List UInt8) (x : Nat) (xi : Int) (hxi : xi = (x : Int)) (w : World) (hb : Bs w v l) (_hx : x < 18446744073709551616) (hl : l.length ≤ 4294967296) :
    Calls Try.prog 69 #[v, .int .u64 xi] w (RetB w (l ++ hi8 x)) := by
  subst hxi
  have HB := Lib.hid hb
  obtain ⟨A, c, rfl, h1, h2, h3⟩ := hb
  clear h3 h1 h2
  go_enter Try.func69, Try.ntmps69
  go_wp2_with (at_make; refine wpList_make_bytes rfl _ _ _ rfl 5 Try.underlying28 u8info .i64 .i64 _ _ 8 rfl rfl rfl rfl (by omega) ?_; intro w1 hr1 he1; have HR := Lib.hid hr1; have HE := Lib.hid he1; clear hr1 he1)
  go_loopw [11] (fun i wr => ∃ k : Nat, k ≤ 8 ∧ i = .int .i64 k ∧ Row wr w.heap.size 5 (hiK x k) ∧ w1.grownBy wr (some w.heap.size)) (fun i _ => 8 - (intOf i).toNat)
  case atStart => exact ⟨0, Nat.zero_le _, rfl, by rw [hiK_zero]; exact HR.out, World.grownBy.refl _ _⟩
  case round =>
    obtain ⟨k, hk, rfl, hrow, hgr⟩ := hrel
    have HG := Lib.hid hgr
    clear hgr
    by_cases hlt : k < 8
    · have HS := Lib.hid (hiK_step x k hlt)
      have hcell := hrow.cell (7 - k) (by rw [hiK_length]; omega)
      have hfz := hrow.frozen (7 - k)
      unfold bv at hcell
      go_wp2
      go_roundw
      case rel => exact ⟨k + 1, by omega, by go_num, by rw [HS.out, shr_byte]; exact hrow.put (7 - k) _, grown_trans HG.out (grown_set _ _ _ _)⟩
      case measure => simp [intOf]; omega
    · obtain rfl : k = 8 := by omega
      have hew : Ext w wr := HE.out.grown HG.out (Nat.le_refl _)
      have HW := Lib.hid hew
      have HR8 := Lib.hid hrow
      clear hrow hew
      go_wp2_with fail
      refine (grown_any _ l (l.length + 8) _ (by omega) wr (HB.out.ext HW.out) (by omega)).mono ?_
      rintro e w2 ⟨rfl, hr2, he2⟩
      have HR2 := Lib.hid hr2
      have HE2 := Lib.hid he2
      clear hr2 he2
      have hsz := HW.out.size
      have hlt8 := HR8.out.lt
      go_wp2_with fail
      refine (put_any _ _ _ (by rw [fit_length]) l.length _ rfl _ (hi8 x) wr w2 HR2.out (HR8.out.own (Nat.le_refl _) (by rw [hiK_length]; simp [maxLen])).bs HE2.out (Nat.le_refl _) (by omega) (by simp [hi8, hiK_length]) (by rw [fit_length]; simp [maxLen]; omega)).mono ?_
      rintro e w3 ⟨rfl, hr3, hg3⟩
      have HR3 := Lib.hid hr3
      have HE3 := Lib.hid ((HW.out.trans HE2.out).grown hg3 hsz)
      clear hr3 hg3
      go_wp2_with fail
      go_ret
      rw [lay_behind _ _ _ (by simp [hi8, hiK_length])] at HR3
      have hown := HR3.out.own (base := w.heap.size) hsz (by simp [hi8, hiK_length, maxLen]; omega)
      refine ⟨_, rfl, ?_, HE3.out⟩
      simpa [hi8, hiK_length] using hown
end Go.Proofs.Ythnilfneaefnhaa
