/- Contracts of the helpers of the statements of layer 1. -/
import Derived.Test.YtllcmeihogcckaaLbs
import Derived.Test.YtllcmeihogcckaaFrm
namespace Go.Proofs.Ytllcmeihogcckaa
open Go.RowKit

set_option maxHeartbeats 400000 in
theorem few_any (v : Value) (l : List UInt8) (w : World) (hb : Bs w v l) :
    Calls Try.prog 11 #[v] w (RetB w (l.take 4097)) := by
  have HB := Lib.hid hb
  obtain ⟨A, c, rfl, h1, h2, h3⟩ := hb
  clear h3
  unfold maxLen at h2
  go_enter Try.func11, Try.ntmps11
  go_wp2_with fail
  refine (clone_any _ (l.take 4097) w (HB.out.takeMin 4097 _ (by omega)) (by simp; omega)).mono ?_
  rintro e w1 ⟨v1, rfl, ho, he⟩
  have HO := Lib.hid ho
  have HE := Lib.hid he
  clear ho he
  go_wp2_with fail
  go_ret
  exact ⟨v1, rfl, HO.out, HE.out⟩

set_option maxHeartbeats 400000 in
theorem some_any (v : Value) (l : List UInt8) (w : World) (hb : Bs w v l) :
    Calls Try.prog 28 #[v] w (RetB w (l.take 300)) := by
  have HB := Lib.hid hb
  obtain ⟨A, c, rfl, h1, h2, h3⟩ := hb
  clear h3
  unfold maxLen at h2
  go_enter Try.func28, Try.ntmps28
  go_wp2_with fail
  refine (few_any _ (l.take 300) w (HB.out.takeMin 300 _ (by omega))).mono ?_
  rintro e w1 ⟨v1, rfl, ho, he⟩
  rw [show (l.take 300).take 4097 = l.take 300 from List.take_of_length_le (by simp; omega)] at ho
  have HO := Lib.hid ho
  have HE := Lib.hid he
  clear ho he
  go_wp2_with fail
  go_ret
  exact ⟨v1, rfl, HO.out, HE.out⟩

/-- A slice that is written out in the text. -/
theorem bs_lit (w : World) (g : Nat) (t : TypeId) (l : List UInt8) (cs : Array Value) (n : Nat) (hg : w.heap[g]? = some (.cells cs t (0, 0))) (hcs : cs = (l.map bv).toArray) (hn : n = l.length) (hl : l.length ≤ maxLen) :
    Bs w (.slice (some ⟨g, 0, none⟩) n n) l := by
  subst hn
  subst hcs
  exact (Row.own (base := 0) (show Row w g t l from hg) (Nat.zero_le _) hl).bs

set_option maxHeartbeats 1000000 in
theorem wakes_any (w : World) : Calls Try.prog 10 #[] w (RetT w) := by
  go_enter Try.func10, Try.ntmps10
  go_wp2_with fail
  refine (window_any _ [1, 2, 3] 1 _ _ rfl _ (bs_lit _ _ _ [1, 2, 3] _ _ (heap_alloc_new _ _) rfl rfl (by simp [maxLen])) (by simp) (by omega) (by omega)).mono ?_
  rintro e w1 ⟨v1, rfl, ho1, he1⟩
  rw [show (winS [1, 2, 3] 1 4) = ([2, 3, 0, 0], 0) from rfl] at ho1 ⊢
  have HB1 := Lib.hid ho1.bs
  have HE1 := Lib.hid (((Ext.refl w).alloc _).trans he1)
  clear ho1 he1
  go_wp2_with fail
  refine (over_any _ _ [1] [7] 3 _ rfl _ (bs_lit _ _ 5 [1] _ _ (heap_alloc2_old _ _ _) rfl rfl (by simp [maxLen])) (bs_lit _ _ 5 [7] _ _ (heap_alloc2_new _ _ _) rfl rfl (by simp [maxLen])) (by simp) (by omega)).mono ?_
  rintro e w2 ⟨v2, rfl, ho2, he2⟩
  rw [show (ovrS [1] 3 [7]) = ([1, 0, 0, 7], 0) from rfl] at ho2 ⊢
  have HB2 := Lib.hid ho2.bs
  have he12 := (((Ext.refl w1).alloc _).alloc _ |>.trans he2)
  have HE2 := Lib.hid (HE1.out.trans he12)
  have HB1 := Lib.hid (HB1.out.ext he12)
  clear ho2 he2 he12
  go_wp2_with fail
  refine (ahead_any _ [7] 3 _ (bs_lit _ _ 5 [7] _ _ (heap_alloc_new _ _) rfl rfl (by simp [maxLen])) (by omega)).mono ?_
  rintro e w3 ⟨v3, rfl, ho3, he3⟩
  rw [show (ahdS [7] 3) = ([0, 0, 7], 0) from rfl] at ho3 ⊢
  have HB3 := Lib.hid ho3.bs
  have he13 := (((Ext.refl w2).alloc _).trans he3)
  have HE3 := Lib.hid (HE2.out.trans he13)
  have HB1 := Lib.hid (HB1.out.ext he13)
  have HB2 := Lib.hid (HB2.out.ext he13)
  clear ho3 he3 he13
  go_wp2_with fail
  refine (noughts_any _ [0, 7, 0] _ (bs_lit _ _ 5 [0, 7, 0] _ _ (heap_alloc_new _ _) rfl rfl (by simp [maxLen]))).mono ?_
  rintro e w4 ⟨rfl, rfl⟩
  rw [show ((zeros [0, 7, 0] : Nat) : Int) = 2 from rfl, show ((([0, 7, 0] : List UInt8).length : Nat) : Int) - 2 = 1 from rfl]
  have HB1 := Lib.hid (HB1.out.ext ((Ext.refl w3).alloc (.cells (([0, 7, 0] : List UInt8).map bv).toArray 5)))
  have HB2 := Lib.hid (HB2.out.ext ((Ext.refl w3).alloc (.cells (([0, 7, 0] : List UInt8).map bv).toArray 5)))
  have HB3 := Lib.hid (HB3.out.ext ((Ext.refl w3).alloc (.cells (([0, 7, 0] : List UInt8).map bv).toArray 5)))
  have HE3 := Lib.hid (HE3.out.alloc (.cells (([0, 7, 0] : List UInt8).map bv).toArray 5))
  generalize w3.alloc (.cells (([0, 7, 0] : List UInt8).map bv).toArray 5) = w4 at *
  go_wp2_with fail
  refine (equal_any _ _ [2, 3, 0, 0] [2, 3, 0, 0] _ (HB1.out.ext ((Ext.refl w4).alloc _)) (bs_lit _ _ 5 [2, 3, 0, 0] _ _ (heap_alloc_new _ _) rfl rfl (by simp [maxLen]))).mono ?_
  rintro e w' ⟨rfl, rfl⟩
  rw [show (([2, 3, 0, 0] : List UInt8) == ([2, 3, 0, 0] : List UInt8)) = true from rfl]
  have HB2 := Lib.hid (HB2.out.ext ((Ext.refl w4).alloc (.cells (([2, 3, 0, 0] : List UInt8).map bv).toArray 5)))
  have HB3 := Lib.hid (HB3.out.ext ((Ext.refl w4).alloc (.cells (([2, 3, 0, 0] : List UInt8).map bv).toArray 5)))
  have HE3 := Lib.hid (HE3.out.alloc (.cells (([2, 3, 0, 0] : List UInt8).map bv).toArray 5))
  generalize w4.alloc (.cells (([2, 3, 0, 0] : List UInt8).map bv).toArray 5) = w5 at *
  go_wp2_with fail
  refine (equal_any _ _ [1, 0, 0, 7] [1, 0, 0, 7] _ (HB2.out.ext ((Ext.refl w5).alloc _)) (bs_lit _ _ 5 [1, 0, 0, 7] _ _ (heap_alloc_new _ _) rfl rfl (by simp [maxLen]))).mono ?_
  rintro e w' ⟨rfl, rfl⟩
  rw [show (([1, 0, 0, 7] : List UInt8) == ([1, 0, 0, 7] : List UInt8)) = true from rfl]
  have HB3 := Lib.hid (HB3.out.ext ((Ext.refl w5).alloc (.cells (([1, 0, 0, 7] : List UInt8).map bv).toArray 5)))
  have HE3 := Lib.hid (HE3.out.alloc (.cells (([1, 0, 0, 7] : List UInt8).map bv).toArray 5))
  generalize w5.alloc (.cells (([1, 0, 0, 7] : List UInt8).map bv).toArray 5) = w6 at *
  go_wp2_with fail
  refine (equal_any _ _ [0, 0, 7] [0, 0, 7] _ (HB3.out.ext ((Ext.refl w6).alloc _)) (bs_lit _ _ 5 [0, 0, 7] _ _ (heap_alloc_new _ _) rfl rfl (by simp [maxLen]))).mono ?_
  rintro e w' ⟨rfl, rfl⟩
  rw [show (([0, 0, 7] : List UInt8) == ([0, 0, 7] : List UInt8)) = true from rfl]
  have HE3 := Lib.hid (HE3.out.alloc (.cells (([0, 0, 7] : List UInt8).map bv).toArray 5))
  generalize w6.alloc (.cells (([0, 0, 7] : List UInt8).map bv).toArray 5) = w7 at *
  go_wp2_with fail
  refine (put64_any _ [9] 258 _ rfl _ (bs_lit _ _ 5 [9] _ _ (heap_alloc_new _ _) rfl rfl (by simp [maxLen])) (by omega) (by simp)).mono ?_
  rintro e w8 ⟨v8, rfl, ho8, he8⟩
  have HB8 := Lib.hid ho8.bs
  have HE8 := Lib.hid ((HE3.out.alloc _).trans he8)
  clear ho8 he8
  go_wp2_with fail
  refine (u64_tail _ _ _ HB8.out).mono ?_
  rintro e w9 ⟨rfl, rfl⟩
  rw [show num (last8 ([9] ++ hi8 258)) = 258 from rfl]
  go_wp2_with fail
  go_ret
  exact ⟨rfl, HE8.out⟩
end Go.Proofs.Ytllcmeihogcckaa
