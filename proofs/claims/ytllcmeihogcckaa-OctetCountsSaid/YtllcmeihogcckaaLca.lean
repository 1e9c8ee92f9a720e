/- OctetCounts: noughts of two rows together are those of both. No condition: every two slices of bytes. -/
import Derived.Test.YtllcmeihogcckaaLaa
namespace Go.Proofs.Ytllcmeihogcckaa
open Go.ChangeShapes Go.WideShapes Go.ChangeAt Go.RowKit

theorem zeros_append (a b : List UInt8) : zeros (a ++ b) = zeros a + zeros b := by simp [zeros, List.countP_append]

set_option maxHeartbeats 1000000 in
theorem counts_walk (va vb : Value) (a b : List UInt8) (w : World) (ha : Bs w va a) (hb : Bs w vb b) :
    Calls Try.prog 9 #[va, vb] w (RetT w) := by
  have HA := Lib.hid ha
  have HB := Lib.hid hb
  clear ha hb
  go_enter Try.func9, Try.ntmps9
  go_wp2_with fail
  refine (wakes_any _).mono ?_
  rintro e w1 ⟨rfl, he1⟩
  have HE1 := Lib.hid he1
  clear he1
  go_wp2_with fail
  refine (some_any _ a _ (HA.out.ext HE1.out)).mono ?_
  rintro e w2 ⟨v2, rfl, ho2, he2⟩
  have HA2 := Lib.hid ho2.bs
  have HE2 := Lib.hid (HE1.out.trans he2)
  clear ho2 he2
  go_wp2_with fail
  refine (some_any _ b _ (HB.out.ext HE2.out)).mono ?_
  rintro e w3 ⟨v3, rfl, ho3, he3⟩
  have HB3 := Lib.hid ho3.bs
  have HA3 := Lib.hid (HA2.out.ext he3)
  have HE3 := Lib.hid (HE2.out.trans he3)
  clear ho3 he3 HA2
  have ha : (a.take 300).length ≤ 300 := List.length_take_le _ _
  have hb : (b.take 300).length ≤ 300 := List.length_take_le _ _
  generalize a.take 300 = x at *
  generalize b.take 300 = y at *
  obtain ⟨A2, c2, rfl, -, -, -⟩ := id HA3.out
  obtain ⟨A3, c3, rfl, -, -, -⟩ := id HB3.out
  have hzx := zeros_le x
  have hzy := zeros_le y
  have hzz := zeros_append x y
  go_wp2_with fail
  refine (noughts_any _ x _ HA3.out).mono ?_
  rintro e w' ⟨rfl, rfl⟩
  go_wp2_with fail
  refine (noughts_any _ y _ HB3.out).mono ?_
  rintro e w' ⟨rfl, rfl⟩
  go_wp2_with fail
  refine (some_any _ x _ HA3.out).mono ?_
  rintro e w4a ⟨v4a, rfl, ho, he⟩
  rw [List.take_of_length_le ha] at ho
  have HO := Lib.hid ho
  have HW := Lib.hid he
  have HS := Lib.hid (HB3.out.ext he)
  clear ho he
  go_wp2_with (at_builtin; refine wpList_append_bytes rfl (.tmp 29) (.tmp 30) _ rfl w3.heap.size 5 Try.underlying22 u8info _ x rfl HO.out _ y rfl HS.out (by omega) HW.out.size ?_; intro v4b w4b ho hg hat; have HB4 := Lib.hid ho.bs; have HW4 := Lib.hid (HW.out.append HO.out hg); clear ho hg hat)
  have HA3 := Lib.hid (HA3.out.ext HW4.out)
  have HB3 := Lib.hid (HB3.out.ext HW4.out)
  have HE3 := Lib.hid (HE3.out.trans HW4.out)
  clear HW HS HO HW4
  refine (noughts_any _ (x ++ y) _ HB4.out).mono ?_
  rintro e w' ⟨rfl, rfl⟩
  clear HB4
  rw [hzz]
  clear hzz
  have hl2 : (((x ++ y).length : Nat) : Int) = (x.length : Int) + (y.length : Int) := by simp
  rw [hl2]
  clear hl2
  have t1 : (((zeros x + zeros y : Nat) : Int) == (zeros x : Int) + (zeros y : Int)) = true := beq_iff_eq.2 (by omega)
  have t2 : ((x.length : Int) + (y.length : Int) - ((zeros x + zeros y : Nat) : Int) == (x.length : Int) - (zeros x : Int) + ((y.length : Int) - (zeros y : Int))) = true := beq_iff_eq.2 (by omega)
  go_wp2_with fail
  refine (some_any _ x _ HA3.out).mono ?_
  rintro e w5a ⟨v5a, rfl, ho, he⟩
  rw [List.take_of_length_le ha] at ho
  have HO := Lib.hid ho
  have HW := Lib.hid he
  have HS := Lib.hid (HB3.out.ext he)
  clear ho he
  go_wp2_with (at_builtin; refine wpList_append_bytes rfl (.tmp 57) (.tmp 58) _ rfl w4b.heap.size 5 Try.underlying22 u8info _ x rfl HO.out _ y rfl HS.out (by omega) HW.out.size ?_; intro v5b w5b ho hg hat; have HB5 := Lib.hid ho.bs; have HW5 := Lib.hid (HW.out.append HO.out hg); clear ho hg hat)
  have HA3 := Lib.hid (HA3.out.ext HW5.out)
  have HB3 := Lib.hid (HB3.out.ext HW5.out)
  have HE3 := Lib.hid (HE3.out.trans HW5.out)
  clear HW HS HO HW5
  go_wp2_with fail
  refine (some_any _ y _ HB3.out).mono ?_
  rintro e w6a ⟨v6a, rfl, ho, he⟩
  rw [List.take_of_length_le hb] at ho
  have HO := Lib.hid ho
  have HW := Lib.hid he
  have HS := Lib.hid (HA3.out.ext he)
  clear ho he
  go_wp2_with (at_builtin; refine wpList_append_bytes rfl (.tmp 61) (.tmp 62) _ rfl w5b.heap.size 5 Try.underlying22 u8info _ y rfl HO.out _ x rfl HS.out (by omega) HW.out.size ?_; intro v6b w6b ho hg hat; have HB6 := Lib.hid ho.bs; have HW6 := Lib.hid (HW.out.append HO.out hg); clear ho hg hat)
  have HA3 := Lib.hid (HA3.out.ext HW6.out)
  have HB3 := Lib.hid (HB3.out.ext HW6.out)
  have HE3 := Lib.hid (HE3.out.trans HW6.out)
  have HB5 := Lib.hid (HB5.out.ext HW6.out)
  clear HW HS HO HW6
  go_wp2_with fail
  refine (equal_any _ _ (x ++ y) (y ++ x) _ HB5.out HB6.out).mono ?_
  rintro e w' ⟨rfl, rfl⟩
  clear HB5 HB6
  go_wp2_with fail
  refine (some_any _ x _ HA3.out).mono ?_
  rintro e w7a ⟨v7a, rfl, ho, he⟩
  rw [List.take_of_length_le ha] at ho
  have HO := Lib.hid ho
  have HW := Lib.hid he
  have HS := Lib.hid (HB3.out.ext he)
  clear ho he
  go_wp2_with (at_builtin; refine wpList_append_bytes rfl (.tmp 66) (.tmp 67) _ rfl w6b.heap.size 5 Try.underlying22 u8info _ x rfl HO.out _ y rfl HS.out (by omega) HW.out.size ?_; intro v7b w7b ho hg hat; have HB7 := Lib.hid ho.bs; have HW7 := Lib.hid (HW.out.append HO.out hg); clear ho hg hat)
  have HA3 := Lib.hid (HA3.out.ext HW7.out)
  have HB3 := Lib.hid (HB3.out.ext HW7.out)
  have HE3 := Lib.hid (HE3.out.trans HW7.out)
  clear HW HS HO HW7
  go_wp2_with fail
  refine (some_any _ y _ HB3.out).mono ?_
  rintro e w8a ⟨v8a, rfl, ho, he⟩
  rw [List.take_of_length_le hb] at ho
  have HO := Lib.hid ho
  have HW := Lib.hid he
  have HS := Lib.hid (HA3.out.ext he)
  clear ho he
  go_wp2_with (at_builtin; refine wpList_append_bytes rfl (.tmp 70) (.tmp 71) _ rfl w7b.heap.size 5 Try.underlying22 u8info _ y rfl HO.out _ x rfl HS.out (by omega) HW.out.size ?_; intro v8b w8b ho hg hat; have HB8 := Lib.hid ho.bs; have HW8 := Lib.hid (HW.out.append HO.out hg); clear ho hg hat)
  have HA3 := Lib.hid (HA3.out.ext HW8.out)
  have HB3 := Lib.hid (HB3.out.ext HW8.out)
  have HE3 := Lib.hid (HE3.out.trans HW8.out)
  have HB7 := Lib.hid (HB7.out.ext HW8.out)
  clear HW HS HO HW8
  go_wp2_with fail
  refine (bytesEqual_any _ _ (x ++ y) (y ++ x) _ HB7.out HB8.out).mono ?_
  rintro e w' ⟨rfl, rfl⟩
  clear HB7 HB8
  generalize (x ++ y == y ++ x) = r at *
  go_wp2_with fail
  go_ret
  exact ⟨rfl, HE3.out⟩

theorem counts_told (W : World) (args : Array Value) (h : Told Try.f9 W args) : Calls Try.prog 9 args W (RetT W) := by
  obtain ⟨H, enc, base, ds, p, hval, hA⟩ := h
  rw [Try.params9] at hA hval
  obtain ⟨v0, v1, d0, d1, p0, p1, rfl, rfl, rfl, h0, h1⟩ := trodAll_two hA
  obtain ⟨a, ha⟩ := bs_came (hval 0 _ v0 rfl rfl) h0
  obtain ⟨b, hb⟩ := bs_came (hval 1 _ v1 rfl rfl) h1
  exact counts_walk v0 v1 a b W ha hb

theorem counts_spec (H : Type) : ∀ ds : List (DataW H), ds.length = Try.f9.params.toList.length → Rows.octetCountsSpec.fn H ds = { results := [.lit (.bool true)], args := ds }
  | [_, _], _ => rfl
  | [], h | [_], h | _ :: _ :: _ :: _, h => by rw [Try.params9] at h; simp at h

set_option maxRecDepth 100000 in
theorem octetCounts_holds : Rows.OctetCountsSaid :=
  OpenClaim.holds_of_wide 9 Try.f9 rfl rfl rfl rfl rfl rfl rfl ⟨rfl, rfl, rfl, rfl, rfl⟩ rfl rfl rfl rfl rfl (by kernel_rfl) Try.func9 (by kernel_rfl)
    (of_decide_eq_true (by kernel_rfl)) (by unfold Func.isWrapper; first | (rw [if_pos (by decide +kernel)]; kernel_rfl) | (rw [if_neg (by decide +kernel)]; exact ⟨rfl, rfl⟩))
    (fun os started H enc _ => law_lifted started (by kernel_rfl) Try.func9 rfl rfl (counts_spec H) (of_decide_eq_true (by kernel_rfl))
      (ChangeSpec.witness6 (enc := enc) (C := Try.checked) false ⟨#[], #[.slice none 0 0, .slice none 0 0], []⟩ 8 (by kernel_rfl) (by kernel_rfl) (by kernel_rfl) (by kernel_rfl)) counts_told)
end Go.Proofs.Ytllcmeihogcckaa
