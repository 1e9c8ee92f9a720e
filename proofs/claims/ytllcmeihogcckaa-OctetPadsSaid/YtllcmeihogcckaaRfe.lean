/- Contracts of the document's answers for layer 1 (sheaferref01): Padded. -/
import Derived.Test.YtllcmeihogcckaaRfb
namespace Go.Proofs.Ytllcmeihogcckaa
open Go.RowKit

set_option maxHeartbeats 400000 in
theorem padded_arg (v : Value) (l : List UInt8) (ni : Int) (ah : Bool) (w : World) (hb : Bs w v l) (hn : ni < (l.length : Int)) :
    Calls Try.prog 22 #[v, .int .i64 ni, .bool ah] w (RetE w [] 2) := by
  obtain ⟨A, c, rfl, h1, h2, h3⟩ := hb
  clear h1 h2 h3
  have hd : decide (ni < (l.length : Int)) = true := by simp; omega
  go_enter Try.func22, Try.ntmps22
  go_wp2
  go_ret2
  exact ⟨_, rfl, own_nil _ _ _, Ext.refl _⟩

set_option maxHeartbeats 400000 in
theorem padded_long (v : Value) (l : List UInt8) (ni : Int) (ah : Bool) (w : World) (hb : Bs w v l) (hn : (l.length : Int) ≤ ni) (h4 : 4096 < ni) :
    Calls Try.prog 22 #[v, .int .i64 ni, .bool ah] w (RetE w [] 3) := by
  obtain ⟨A, c, rfl, h1, h2, h3⟩ := hb
  clear h1 h2 h3
  have hd : decide (ni < (l.length : Int)) = false := by simp; omega
  have hd2 : decide (4096 < ni) = true := by simp; omega
  go_enter Try.func22, Try.ntmps22
  go_wp2
  go_ret2
  exact ⟨_, rfl, own_nil _ _ _, Ext.refl _⟩

set_option maxHeartbeats 800000 in
theorem padded_ahead (v : Value) (l : List UInt8) (n : Nat) (ni : Int) (hni : ni = (n : Int)) (w : World) (hb : Bs w v l) (hn : l.length ≤ n) (h4 : n ≤ 4096) :
    Calls Try.prog 22 #[v, .int .i64 ni, .bool true] w (RetE w (ahd l n) 0) := by
  subst hni
  have HB := Lib.hid hb
  obtain ⟨A, c, rfl, h1, h2, h3⟩ := hb
  clear h1 h2 h3
  have hd : decide (n < l.length) = false := by simp; omega
  have hd2 : decide (4096 < (n : Int)) = false := by simp; omega
  go_enter Try.func22, Try.ntmps22
  go_wp2_with (at_make; refine wpList_make_bytes rfl _ _ _ rfl 5 Try.underlying22 u8info .i64 .i64 _ _ (n - l.length) rfl rfl (by omega) (by omega) (by omega) ?_; intro w1 hr1 he1; have HR := Lib.hid hr1; have HE := Lib.hid he1; clear hr1 he1)
  have HZ := Lib.hid ((HR.out.own (base := 0) (Nat.zero_le _) (by simp [maxLen]; omega)).bs)
  rw [List.length_replicate] at HZ
  refine (both_any _ _ (List.replicate (n - l.length) 0) l _ HZ.out (HB.out.ext HE.out) (by simp; omega)).mono ?_
  rintro e w2 ⟨v2, rfl, ho, he⟩
  have HO := Lib.hid ((ho.mono (base' := w.heap.size) HE.out.size))
  have HE2 := Lib.hid (HE.out.trans he)
  clear ho he
  go_wp2_with fail
  go_ret2
  exact ⟨_, rfl, HO.out, HE2.out⟩

set_option maxHeartbeats 800000 in
theorem padded_behind (v : Value) (l : List UInt8) (n : Nat) (ni : Int) (hni : ni = (n : Int)) (w : World) (hb : Bs w v l) (hn : l.length ≤ n) (h4 : n ≤ 4096) :
    Calls Try.prog 22 #[v, .int .i64 ni, .bool false] w (RetE w (fit l n) 0) := by
  subst hni
  have HB := Lib.hid hb
  obtain ⟨A, c, rfl, h1, h2, h3⟩ := hb
  clear h1 h2 h3
  have hd : decide (n < l.length) = false := by simp; omega
  have hd2 : decide (4096 < (n : Int)) = false := by simp; omega
  go_enter Try.func22, Try.ntmps22
  go_wp2_with (at_make; refine wpList_make_bytes rfl _ _ _ rfl 5 Try.underlying22 u8info .i64 .i64 _ _ (n - l.length) rfl rfl (by omega) (by omega) (by omega) ?_; intro w1 hr1 he1; have HR := Lib.hid hr1; have HE := Lib.hid he1; clear hr1 he1)
  have HZ := Lib.hid ((HR.out.own (base := 0) (Nat.zero_le _) (by simp [maxLen]; omega)).bs)
  rw [List.length_replicate] at HZ
  refine (both_any _ _ l (List.replicate (n - l.length) 0) _ (HB.out.ext HE.out) HZ.out (by simp; omega)).mono ?_
  rintro e w2 ⟨v2, rfl, ho, he⟩
  have hfit : l ++ List.replicate (n - l.length) 0 = fit l n := by unfold fit; rw [List.take_of_length_le hn]
  rw [hfit] at ho
  have HO := Lib.hid ((ho.mono (base' := w.heap.size) HE.out.size))
  have HE2 := Lib.hid (HE.out.trans he)
  clear ho he hfit
  go_wp2_with fail
  go_ret2
  exact ⟨_, rfl, HO.out, HE2.out⟩

theorem paddedA_any (v : Value) (l : List UInt8) (ni : Int) (w : World) (hb : Bs w v l) :
    Calls Try.prog 22 #[v, .int .i64 ni, .bool true] w (RetE w (ahdS l ni).1 (ahdS l ni).2) := by
  unfold ahdS
  by_cases h0 : ni < l.length
  · rw [if_pos h0]
    exact padded_arg v l ni _ w hb h0
  · rw [if_neg h0]
    by_cases h1 : 4096 < ni
    · rw [if_pos h1]
      exact padded_long v l ni _ w hb (by omega) h1
    · rw [if_neg h1]
      exact padded_ahead v l ni.toNat ni (by omega) w hb (by omega) (by omega)

theorem paddedB_any (v : Value) (l : List UInt8) (ni : Int) (w : World) (hb : Bs w v l) :
    Calls Try.prog 22 #[v, .int .i64 ni, .bool false] w (RetE w (bhdS l ni).1 (bhdS l ni).2) := by
  unfold bhdS
  by_cases h0 : ni < l.length
  · rw [if_pos h0]
    exact padded_arg v l ni _ w hb h0
  · rw [if_neg h0]
    by_cases h1 : 4096 < ni
    · rw [if_pos h1]
      exact padded_long v l ni _ w hb (by omega) h1
    · rw [if_neg h1]
      exact padded_behind v l ni.toNat ni (by omega) w hb (by omega) (by omega)
end Go.Proofs.Ytllcmeihogcckaa
