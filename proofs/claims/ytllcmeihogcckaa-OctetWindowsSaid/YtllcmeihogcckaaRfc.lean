/- Contracts of the document's answers for layer 1 (sheaferref01): Window, Bare, Padded. -/
import Derived.Test.YtllcmeihogcckaaRfb
import Derived.Test.YtllcmeihogcckaaByu
import Derived.Test.YtllcmeihogcckaaLcc
namespace Go.Proofs.Ytllcmeihogcckaa
open Go.RowKit

theorem win_snoc (l : List UInt8) (fr k : Nat) : win l fr (k + 1) = win l fr k ++ [l.getD (fr + k) 0] := by
  apply ext_getD (by simp [win_length])
  intro i hi
  rw [win_length] at hi
  rw [win_getD _ _ _ _ hi, getD_append_if, win_length]
  by_cases h : i < k
  · rw [if_pos h, win_getD _ _ _ _ h]
  · rw [if_neg h]
    obtain rfl : i = k := by omega
    simp [List.getD]

theorem win_zero (l : List UInt8) (fr : Nat) : win l fr 0 = [] := List.eq_nil_of_length_eq_zero (win_length l fr 0)
theorem wrap_over (fr k : Nat) (hf : fr < 18446744073709551616) (hk : k < 18446744073709551616) (h : 18446744073709551616 ≤ fr + k) : IntKind.u64.wrap ((fr : Int) + (k : Int)) < (fr : Int) := by
  rw [IntKind.wrap_u64]
  omega

set_option maxHeartbeats 1000000 in
theorem refWindow_ok (v : Value) (l : List UInt8) (fr n : Nat) (fi ni : Int) (hfi : fi = (fr : Int)) (hni : ni = (n : Int)) (w : World) (hb : Bs w v l) (hl : l.length ≤ 4294967296) (hn : n ≤ 4096) (hf : fr < 18446744073709551616) :
    Calls Try.prog 13 #[v, .int .u64 fi, .int .i64 ni] w (RetE w (win l fr n) 0) := by
  subst hfi
  subst hni
  have HB := Lib.hid hb
  have HL := Lib.hid hl
  obtain ⟨A, c, rfl, h1, h2, h3⟩ := hb
  clear h1 h2 h3
  have hd1 : decide ((n : Int) < 0) = false := by simp
  have hd2 : decide (4096 < (n : Int)) = false := by simp; omega
  go_enter Try.func13, Try.ntmps13
  go_wp2
  go_loopw [8, 18] (fun v i wr => ∃ k : Nat, k ≤ n ∧ i = .int .i64 k ∧ Hid (Own wr w.heap.size 5 v (win l fr k)) ∧ Hid (Ext w wr)) (fun _ i _ => n - (intOf i).toNat)
  case atStart => exact ⟨0, Nat.zero_le _, rfl, by rw [win_zero]; exact own_nil _ _ _, Ext.refl _⟩
  case round =>
    obtain ⟨k, hk, rfl, HO, HE⟩ := hrel
    by_cases hlt : k < n
    · have HS := Lib.hid (win_snoc l fr k)
      have hwl := win_length l fr k
      have HWL := Lib.hid hwl
      clear hwl
      by_cases hov : fr + k < 18446744073709551616
      · have hd3 : decide ((fr : Int) + (k : Int) < (fr : Int)) = false := by simp; omega
        go_wp2_with fail
        refine (at_any _ l (fr + k) _ (by omega) _ (HB.out.ext HE.out)).mono ?_
        rintro e w' ⟨rfl, rfl⟩
        generalize l.getD (fr + k) 0 = x at *
        rw [show bv x = Value.int .u8 (x.toNat : Int) from rfl]
        go_wp2_with (at_builtin; refine wpList_append_bytes rfl (.tmp 28) (.tmp 32) _ rfl w.heap.size 5 Try.underlying22 u8info _ (win l fr k) rfl (HO.out.ext ((Ext.refl wr).alloc _)) _ [x] rfl (bs_lit _ _ 5 [x] _ _ (heap_alloc_new _ _) rfl rfl (by simp [maxLen])) (by rw [HWL.out]; simp; omega) (Ext.size (HE.out.alloc _)) ?_; intro v' w' ho hg hat; have HO2 := Lib.hid ho; have HE2 := Lib.hid (Ext.append (HE.out.alloc _) (HO.out.ext ((Ext.refl wr).alloc _)) hg); clear ho hg hat)
        go_roundw
        case rel => exact ⟨k + 1, by omega, by go_num, by rw [HS.out]; exact HO2.out, HE2.out⟩
        case measure => simp [intOf]; omega
      · have hd3 : decide (IntKind.u64.wrap ((fr : Int) + (k : Int)) < (fr : Int)) = true := by
          simp only [decide_eq_true_eq]
          exact wrap_over fr k hf (by omega) (by omega)
        have HZ := Lib.hid (show l.getD 18446744073709551615 0 = l.getD (fr + k) 0 by rw [getD_past _ _ (by omega), getD_past _ _ (by omega)])
        go_wp2_with fail
        refine (at_any _ l 18446744073709551615 _ rfl _ (HB.out.ext HE.out)).mono ?_
        rw [HZ.out]
        rintro e w' ⟨rfl, rfl⟩
        generalize l.getD (fr + k) 0 = x at *
        rw [show bv x = Value.int .u8 (x.toNat : Int) from rfl]
        go_wp2_with (at_builtin; refine wpList_append_bytes rfl (.tmp 28) (.tmp 32) _ rfl w.heap.size 5 Try.underlying22 u8info _ (win l fr k) rfl (HO.out.ext ((Ext.refl wr).alloc _)) _ [x] rfl (bs_lit _ _ 5 [x] _ _ (heap_alloc_new _ _) rfl rfl (by simp [maxLen])) (by rw [HWL.out]; simp; omega) (Ext.size (HE.out.alloc _)) ?_; intro v' w' ho hg hat; have HO2 := Lib.hid ho; have HE2 := Lib.hid (Ext.append (HE.out.alloc _) (HO.out.ext ((Ext.refl wr).alloc _)) hg); clear ho hg hat)
        go_roundw
        case rel => exact ⟨k + 1, by omega, by go_num, by rw [HS.out]; exact HO2.out, HE2.out⟩
        case measure => simp [intOf]; omega
    · obtain rfl : k = n := by omega
      go_wp2
      go_ret2
      exact ⟨_, rfl, HO.out, HE.out⟩

set_option maxHeartbeats 400000 in
theorem refWindow_neg (v : Value) (fi ni : Int) (w : World) (hn : ni < 0) :
    Calls Try.prog 13 #[v, .int .u64 fi, .int .i64 ni] w (RetE w [] 2) := by
  have hd1 : decide (ni < 0) = true := by simp; omega
  go_enter Try.func13, Try.ntmps13
  go_wp2
  go_ret2
  exact ⟨_, rfl, own_nil _ _ _, Ext.refl _⟩

set_option maxHeartbeats 400000 in
theorem refWindow_long (v : Value) (fi ni : Int) (w : World) (hn : 4096 < ni) :
    Calls Try.prog 13 #[v, .int .u64 fi, .int .i64 ni] w (RetE w [] 3) := by
  have hd1 : decide (ni < 0) = false := by simp; omega
  have hd2 : decide (4096 < ni) = true := by simp; omega
  go_enter Try.func13, Try.ntmps13
  go_wp2
  go_ret2
  exact ⟨_, rfl, own_nil _ _ _, Ext.refl _⟩

theorem refWindow_any (v : Value) (l : List UInt8) (fr : Nat) (fi ni : Int) (hfi : fi = (fr : Int)) (w : World) (hb : Bs w v l) (hl : l.length ≤ 4294967296) (hf : fr < 18446744073709551616) :
    Calls Try.prog 13 #[v, .int .u64 fi, .int .i64 ni] w (RetE w (winS l fr ni).1 (winS l fr ni).2) := by
  unfold winS
  by_cases h0 : ni < 0
  · rw [if_pos h0]
    exact refWindow_neg v fi ni w h0
  · rw [if_neg h0]
    by_cases h1 : 4096 < ni
    · rw [if_pos h1]
      exact refWindow_long v fi ni w h1
    · rw [if_neg h1]
      exact refWindow_ok v l fr ni.toNat fi ni hfi (by omega) w hb hl (by omega) hf
end Go.Proofs.Ytllcmeihogcckaa
