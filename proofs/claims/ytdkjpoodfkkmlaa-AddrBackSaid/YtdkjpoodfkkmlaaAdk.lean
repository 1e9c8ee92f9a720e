/- AddrBack: Of of Word is the address, Read of Bytes, too. -/
import Derived.Test.YtdkjpoodfkkmlaaAdg
import Derived.Test.YtdkjpoodfkkmlaaLbe
import Derived.Test.YtdkjpoodfkkmlaaByu
namespace Go.Proofs.Ytdkjpoodfkkmlaa
open Go.ChangeShapes Go.WideShapes Go.ChangeAt Go.RowKit Go.Shelf

set_option maxRecDepth 100000 in
theorem allEq_beq : ∀ xs ys : List Int, Lib.allEq (fun x y : Int => x == y) xs ys = (xs == ys)
  | [], [] => rfl
  | [], _ :: _ => rfl
  | _ :: _, [] => rfl
  | x :: xs, y :: ys => by
    show (x == y && Lib.allEq (fun x y : Int => x == y) xs ys) = (x == y && xs == ys)
    rw [allEq_beq xs ys]
/-- Bytes as whole numbers. -/
def bz (l : List UInt8) : List Int := l.map fun c => (c.toNat : Int)
set_option maxRecDepth 100000 in
theorem bz_inj (a b : List UInt8) (h : bz a = bz b) : a = b := by
  unfold bz at h
  refine List.map_inj_right (f := fun c : UInt8 => (c.toNat : Int)) (fun x y (e : (x.toNat : Int) = (y.toNat : Int)) => UInt8.toNat_inj.1 (by omega)) |>.1 h
set_option maxRecDepth 100000 in
theorem bz_beq (a b : List UInt8) : (bz a == bz b) = (a == b) := by
  rw [Bool.eq_iff_iff, beq_iff_eq, beq_iff_eq]
  exact ⟨bz_inj a b, fun h => by rw [h]⟩
set_option maxRecDepth 100000 in
theorem bz_cells {w : World} {v : Value} {l : List UInt8} (h : Bs w v l) (hp : 0 < l.length) : ∃ b o c, v = .slice (some ⟨b, o, none⟩) l.length c ∧ l.length ≤ 9223372036854775807 ∧ ∀ j, j < (bz l).length → w.cell? ⟨b, o + j, none⟩ = some (.int .u8 (bz l)[j]!) := by
  obtain ⟨A, c, rfl, h1, h2, h3⟩ := h
  obtain ⟨b, o, rfl, hc⟩ := h3 hp
  unfold maxLen at h2
  refine ⟨b, o, c, rfl, by omega, fun j hj => ?_⟩
  have hj' : j < l.length := by simpa [bz] using hj
  have e : (bz l)[j]! = ((l.getD j 0).toNat : Int) := by
    rw [List.getElem!_eq_getElem?_getD]
    simp [bz, List.getD, hj']
  rw [hc j hj', e]
  rfl
set_option maxRecDepth 100000 in
theorem sliceEqual_any (v1 v2 : Value) (a b : List UInt8) (w : World) (h1 : Bs w v1 a) (h2 : Bs w v2 b) (ha : 0 < a.length) (hb : 0 < b.length) :
    Calls Try.prog 45 #[v1, v2] w fun e w' => e = .returned (.bool (a == b)) ∧ Ext w w' := by
  obtain ⟨b1, o1, c1, rfl, hl1, hc1⟩ := bz_cells h1 ha
  obtain ⟨b2, o2, c2, rfl, hl2, hc2⟩ := bz_cells h2 hb
  have hcon := AnyE.slices_Equal layEqualB (Value.int .u8) _ (NeqAt.int _ _ .u8) b1 o1 a.length c1 b2 o2 b.length c2 (bz a) (bz b) w (by simp [bz]) (by simp [bz]) hl1 hl2 hc1 hc2
  rw [List.take_of_length_le (by simp [bz]), List.take_of_length_le (by simp [bz])] at hcon
  refine Calls.mono hcon ?_
  rintro e w' ⟨rfl, q, rfl⟩
  refine ⟨by rw [allEq_beq, bz_beq], ⟨rfl, rfl, rfl, Nat.le_refl _, fun _ _ => rfl⟩⟩
set_option maxRecDepth 100000 in
theorem sliceEqual_same (v1 v2 : Value) (a : List UInt8) (w : World) (h1 : Bs w v1 a) (h2 : Bs w v2 a) (ha : 0 < a.length) :
    Calls Try.prog 45 #[v1, v2] w fun e w' => e = .returned (.bool true) ∧ Ext w w' :=
  (sliceEqual_any v1 v2 a a w h1 h2 ha ha).mono fun _ _ h => ⟨by rw [h.1]; simp, h.2⟩
set_option maxRecDepth 100000 in
theorem hi8_pos (a : Nat) : 0 < (hi8 a).length := by rw [show (hi8 a).length = 8 from hiK_length a 8]; omega
set_option maxRecDepth 100000 in
theorem hi8_inj (a b : Nat) (ha : a < 18446744073709551616) (hb : b < 18446744073709551616) (h : hi8 a = hi8 b) : a = b := by
  have h1 := num_put [] a ha
  have h2 := num_put [] b hb
  rw [h] at h1
  omega
set_option maxRecDepth 100000 in
theorem hi8_num (a : Nat) (ha : a < 18446744073709551616) : num (last8 ((hi8 a).take 8)) = a := by
  rw [List.take_of_length_le (by rw [show (hi8 a).length = 8 from hiK_length a 8]; exact Nat.le_refl _)]
  exact num_put [] a ha
set_option maxRecDepth 100000 in
theorem bytL_tail (a : Nat) : (bytL a (List.range 32)).drop 24 = hi8 a := by
  have hl : (hi8 a).length = 8 := hiK_length a 8
  apply ext_getD (by rw [List.length_drop, bytL_len, List.length_range, hl])
  intro i hi
  rw [List.length_drop, bytL_len, List.length_range] at hi
  rw [getD_drop]
  unfold hi8
  rw [hiK_getD a 8 i hi, if_pos (by omega)]
  have hp : 2 ^ dAt 8 (24 + i) = 256 ^ (7 - i) := by
    unfold dAt
    rw [show (256 : Nat) = 2 ^ 8 from rfl, ← Nat.pow_mul]
    congr 1
    omega
  have h1 : (bytL a (List.range 32)).getD (24 + i) 0 = UInt8.ofNat (dBits a 8 (24 + i)) := by
    unfold bytL
    simp [List.getD, show 24 + i < 32 by omega]
  rw [h1]
  unfold dBits
  rw [hp]
  apply UInt8.toNat_inj.1
  simp

set_option maxRecDepth 100000 in
set_option maxHeartbeats 8000000 in
theorem back_any (a b : Nat) (w : World) (ha : a < 18446744073709551616) (hb : b < 18446744073709551616) : Calls Try.prog 12 #[.int .u64 (a : Int), .int .u64 (b : Int)] w (RetT w) := by
  have HMA := Lib.hid (show a < M256 by unfold M256; omega)
  have HMB := Lib.hid (show b < M256 by unfold M256; omega)
  have HW1 := Lib.hid (fun W => adrWord_any a W ha)
  have HW2 := Lib.hid (fun W => adrWord_any b W hb)
  have HOF := Lib.hid (fun W => (adrOf_any a W).mono fun e w' (h : e = .returned (.int .u64 (lb a 0 : Nat)) ∧ Ext W w') => (show e = .returned (.int .u64 (a : Int)) ∧ Ext W w' from ⟨by rw [h.1, lb0, Nat.mod_eq_of_lt ha], h.2⟩))
  have HB1 := Lib.hid (fun W => adrBytes_any a W ha)
  have HB2 := Lib.hid (fun W => adrBytes_any b W hb)
  have HRD := Lib.hid (show adrRd (hi8 a) = .tuple #[.int .u64 (a : Int), .int .i64 0] by
    unfold adrRd
    rw [if_neg (by rw [show (hi8 a).length = 8 from hiK_length a 8]; omega), hi8_num a ha])
  obtain ⟨eb, heb⟩ : ∃ eb, (a == b) = eb := ⟨_, rfl⟩
  have HEB := Lib.hid (show (a == b) = eb ∧ (hi8 a == hi8 b) = eb ∧ ((a : Int) == (b : Int)) = eb from ⟨heb, by
    rw [← heb, Bool.eq_iff_iff, beq_iff_eq, beq_iff_eq]
    exact ⟨hi8_inj a b ha hb, fun h => by rw [h]⟩, by
    rw [← heb, Bool.eq_iff_iff, beq_iff_eq, beq_iff_eq]
    omega⟩)
  have HTL := Lib.hid (bytL_tail a)
  clear ha hb heb
  go_enter Try.func12, Try.ntmps12
  go_wp2_with fail
  refine (adrWakes_any _).mono ?_
  rintro e w1 ⟨rfl, he⟩
  have HE1 := Lib.hid he
  clear he
  go_wp2_with fail
  refine (HB1.out _).mono ?_
  rintro e w2 ⟨v2, rfl, ho, he⟩
  have HO := Lib.hid (Own.bs ho)
  have HE2 := Lib.hid (HE1.out.trans he)
  clear ho he HE1
  go_wp2_with fail
  refine (adrRead_any v2 (hi8 a) _ HO.out).mono ?_
  rintro e w3 ⟨rfl, rfl⟩
  rw [HRD.out]
  clear HO
  go_wp2_with fail
  refine (HW1.out _).mono ?_
  rintro e w3 ⟨rfl, he⟩
  have HE3 := Lib.hid (HE2.out.trans he)
  clear he HE2
  go_wp2_with fail
  refine (bytes_any a _).mono ?_
  rintro e w4 ⟨v7, rfl, ho, he⟩
  have HO7 := Lib.hid (Own.bs ho)
  have HE4 := Lib.hid (HE3.out.trans he)
  obtain ⟨g7, c7, hv7, _, _, _, _⟩ := Own.form ho (by rw [bytL_len, List.length_range]; omega)
  rw [bytL_len, List.length_range] at hv7
  subst hv7
  clear ho he HE3
  have HS : Ks w ([] : List (Nat × Nat)) w4 := ⟨fun x hx => absurd hx (by simp), HE4.out⟩
  have hc32 : 32 ≤ c7 := by
    obtain ⟨A, c, e, h1, _⟩ := HO7.out
    rw [bytL_len, List.length_range] at h1
    injection e with _ _ e3
    omega
  have HC7 := Lib.hid (show ¬ c7 = 24 ∧ 24 ≤ c7 ∧ 32 ≤ c7 by omega)
  have HX := Lib.hid (fun W (h : Bs W (.slice (some ⟨g7, 0, none⟩) 32 c7) (bytL a (List.range 32))) => (show Bs W (.slice (some ⟨g7, 24, none⟩) 8 (c7 - 24)) (hi8 a) by
    have := h.dropLt 24 (by rw [bytL_len, List.length_range]; omega) (by omega)
    rw [HTL.out, bytL_len, List.length_range] at this
    exact this))
  clear hc32 HE4
  go_upto_region 5 with fail
  refine wp_named fun a0 ha0 => ?_
  obtain ⟨fr, hfr⟩ : ∃ fr : (Nat → Value) → Act, ∀ V, fr V = (((((((((((((((((((((((((((a0.put (some 19) (V 0)).put (some 20) (V 1)).put (some 21) (V 2)).put (some 22) (V 3)).put (some 23) (V 4)).put (some 24) (V 5)).put (some 25) (V 6)).put (some 26) (V 7)).put (some 27) (V 8)).put (some 28) (V 9)).put (some 29) (V 10)).put (some 30) (V 11)).put (some 31) (V 12)).put (some 32) (V 13)).put (some 33) (V 14)).put (some 34) (V 15)).put (some 35) (V 16)).put (some 36) (V 17)).put (some 37) (V 18)).put (some 38) (V 19)).put (some 39) (V 20)).put (some 40) (V 21)).put (some 41) (V 22)).put (some 42) (V 23)).put (some 43) (V 24)).put (some 44) (V 25)).put (some 45) (V 26)) := ⟨fun V => (((((((((((((((((((((((((((a0.put (some 19) (V 0)).put (some 20) (V 1)).put (some 21) (V 2)).put (some 22) (V 3)).put (some 23) (V 4)).put (some 24) (V 5)).put (some 25) (V 6)).put (some 26) (V 7)).put (some 27) (V 8)).put (some 28) (V 9)).put (some 29) (V 10)).put (some 30) (V 11)).put (some 31) (V 12)).put (some 32) (V 13)).put (some 33) (V 14)).put (some 34) (V 15)).put (some 35) (V 16)).put (some 36) (V 17)).put (some 37) (V 18)).put (some 38) (V 19)).put (some 39) (V 20)).put (some 40) (V 21)).put (some 41) (V 22)).put (some 42) (V 23)).put (some 43) (V 24)).put (some 44) (V 25)).put (some 45) (V 26)), fun _ => rfl⟩
  rw [ha0] at hfr
  simp only [Act.put, List.setIfInBounds_toArray, List.set_cons_zero, List.set_cons_succ] at hfr
  have HFR := Lib.hid hfr
  clear hfr
  refine wp_region_inv (by kernel_rfl) (by kernel_rfl) (fun L A W => ∃ V : Nat → Value, A = fr V ∧ Ks w ([] : List (Nat × Nat)) W ∧ Vals (fun j => ([some (.int .u64 (a : Int)), some (wv a), some (.int .u64 (a : Int)), some (.int .u64 (a : Int)), some (.bool false), some (.bool false), some (.int .i64 0), some (.bool false), some (.bool false), some (.bool false), some (.int .u64 (a : Int)), some (.int .u64 (a : Int)), some (.bool false), some (.bool false), some (.bool false), some (.slice (some ⟨g7, 0, none⟩) 32 c7), some (.int .i64 32), some (.bool false), some (.bool false), some (.bool false), some (.slice (some ⟨g7, 0, none⟩) 32 c7), some (.slice (some ⟨g7, 24, none⟩) 8 (c7 - 24)), some (.int .u64 (a : Int)), none, some (.bool true), some (.bool false), some (.bool false)] : List (Option Value)).getD j none) L V ∧ Bs W (.slice (some ⟨g7, 0, none⟩) 32 c7) (bytL a (List.range 32)) ∧ (L 23 = true → Bs W (V 23) (hi8 a))) ?_ ⟨?_, ?_, ?_, ?_, ?_, ?_, ?_, ?_, ?_, ?_, ?_, ?_, ?_, ?_, ?_, ?_, ?_, ?_, ?_, ?_, ?_, ?_, ?_, ?_, ?_, ?_, ?_, trivial⟩ ?_
  · refine ⟨fun j => a0.tmps.getD (([19, 20, 21, 22, 23, 24, 25, 26, 27, 28, 29, 30, 31, 32, 33, 34, 35, 36, 37, 38, 39, 40, 41, 42, 43, 44, 45] : List Nat).getD j 0) undef, ?_, HS.drew, Vals.no _ _ _ (far_none _ _ rfl), Bs.ext (HO7.out) (Ext.refl _).drew, fun h => absurd h (by decide)⟩
    rw [HFR.out, ha0]
    rfl
  all_goals clear ha0
  · rintro L A W K hL hC hW ⟨V, rfl, HS, HV, x0, f23⟩ hK
    have H := Lib.hid (show ∀ W', Ext W W' → K (fr (upd V 0 (.int .u64 (a : Int)))) W' from fun W' he => hK _ _ ⟨upd V 0 (.int .u64 (a : Int)), rfl, HS.ext he, HV.up 0 _ (fun x hx => Option.some.inj hx), Bs.ext x0 he, fun h => Bs.ext (f23 (more_ne h rfl)) he⟩)
    clear hK hC hW hL HV f23
    rw [HFR.out]
    go_wp2_with fail
    show K _ _
    have := H.out _ (Ext.refl _)
    rw [HFR.out] at this
    exact this
  · rintro L A W K hL hC hW ⟨V, rfl, HS, HV, x0, f23⟩ hK
    have e0 : V 0 = .int .u64 (a : Int) := HV 0 _ rfl (hW 0 rfl)
    have u0 : (upd V 1 (wv a)) 0 = .int .u64 (a : Int) := e0
    have HU := Lib.hid (show (upd V 1 (wv a)) 0 = .int .u64 (a : Int) from u0)
    clear u0
    have H := Lib.hid (show ∀ W', Ext W W' → K (fr (upd V 1 (wv a))) W' from fun W' he => hK _ _ ⟨upd V 1 (wv a), rfl, HS.ext he, HV.up 1 _ (fun x hx => Option.some.inj hx), Bs.ext x0 he, fun h => Bs.ext (f23 (more_ne h rfl)) he⟩)
    clear hK hC hW hL HV f23
    rw [HFR.out]
    rw [e0]
    clear e0
    go_wp2_with fail
    refine (HW1.out _).mono ?_
    rintro e wx ⟨rfl, he⟩
    have := H.out _ he
    clear H
    go_wp2_with fail
    show K _ _
    rw [HFR.out] at this
    obtain u0 := HU.out
    rw [u0] at this
    exact this
  · rintro L A W K hL hC hW ⟨V, rfl, HS, HV, x0, f23⟩ hK
    have e1 : V 1 = wv a := HV 1 _ rfl (hW 1 rfl)
    have u1 : (upd V 2 (.int .u64 (a : Int))) 1 = wv a := e1
    have HU := Lib.hid (show (upd V 2 (.int .u64 (a : Int))) 1 = wv a from u1)
    clear u1
    have H := Lib.hid (show ∀ W', Ext W W' → K (fr (upd V 2 (.int .u64 (a : Int)))) W' from fun W' he => hK _ _ ⟨upd V 2 (.int .u64 (a : Int)), rfl, HS.ext he, HV.up 2 _ (fun x hx => Option.some.inj hx), Bs.ext x0 he, fun h => Bs.ext (f23 (more_ne h rfl)) he⟩)
    clear hK hC hW hL HV f23
    rw [HFR.out]
    rw [e1]
    clear e1
    go_wp2_with fail
    refine (HOF.out _).mono ?_
    rintro e wx ⟨rfl, he⟩
    have := H.out _ he
    clear H
    go_wp2_with fail
    show K _ _
    rw [HFR.out] at this
    obtain u1 := HU.out
    rw [u1] at this
    exact this
  · rintro L A W K hL hC hW ⟨V, rfl, HS, HV, x0, f23⟩ hK
    have H := Lib.hid (show ∀ W', Ext W W' → K (fr (upd V 3 (.int .u64 (a : Int)))) W' from fun W' he => hK _ _ ⟨upd V 3 (.int .u64 (a : Int)), rfl, HS.ext he, HV.up 3 _ (fun x hx => Option.some.inj hx), Bs.ext x0 he, fun h => Bs.ext (f23 (more_ne h rfl)) he⟩)
    clear hK hC hW hL HV f23
    rw [HFR.out]
    go_wp2_with fail
    show K _ _
    have := H.out _ (Ext.refl _)
    rw [HFR.out] at this
    exact this
  · rintro L A W K hL hC hW ⟨V, rfl, HS, HV, x0, f23⟩ hK
    have e2 : V 2 = .int .u64 (a : Int) := HV 2 _ rfl (hW 2 rfl)
    have e3 : V 3 = .int .u64 (a : Int) := HV 3 _ rfl (hW 3 rfl)
    have u2 : (upd V 4 (.bool false)) 2 = .int .u64 (a : Int) := e2
    have u3 : (upd V 4 (.bool false)) 3 = .int .u64 (a : Int) := e3
    have HU := Lib.hid (show (upd V 4 (.bool false)) 2 = .int .u64 (a : Int) ∧ (upd V 4 (.bool false)) 3 = .int .u64 (a : Int) from ⟨u2, u3⟩)
    clear u2 u3
    have H := Lib.hid (show ∀ W', Ext W W' → K (fr (upd V 4 (.bool false))) W' from fun W' he => hK _ _ ⟨upd V 4 (.bool false), rfl, HS.ext he, HV.up 4 _ (fun x hx => Option.some.inj hx), Bs.ext x0 he, fun h => Bs.ext (f23 (more_ne h rfl)) he⟩)
    clear hK hC hW hL HV f23
    rw [HFR.out]
    rw [e2, e3]
    clear e2 e3
    go_wp2_with fail
    show K _ _
    have := H.out _ (Ext.refl _)
    rw [HFR.out] at this
    obtain ⟨u2, u3⟩ := HU.out
    rw [u2, u3] at this
    exact this
  · rintro L A W K hL hC hW ⟨V, rfl, HS, HV, x0, f23⟩ hK
    have e4 : V 4 = .bool false := HV 4 _ rfl (hW 4 rfl)
    have u4 : (upd V 5 (.bool false)) 4 = .bool false := e4
    have HU := Lib.hid (show (upd V 5 (.bool false)) 4 = .bool false from u4)
    clear u4
    have H := Lib.hid (show ∀ W', Ext W W' → K (fr (upd V 5 (.bool false))) W' from fun W' he => hK _ _ ⟨upd V 5 (.bool false), rfl, HS.ext he, HV.up 5 _ (fun x hx => Option.some.inj hx), Bs.ext x0 he, fun h => Bs.ext (f23 (more_ne h rfl)) he⟩)
    clear hK hC hW hL HV f23
    rw [HFR.out]
    rw [e4]
    clear e4
    go_wp2_with fail
    show K _ _
    have := H.out _ (Ext.refl _)
    rw [HFR.out] at this
    obtain u4 := HU.out
    rw [u4] at this
    exact this
  · rintro L A W K hL hC hW ⟨V, rfl, HS, HV, x0, f23⟩ hK
    have e5 : V 5 = .bool false := HV 5 _ rfl (hW 5 rfl)
    have u5 : (upd V 6 (.int .i64 0)) 5 = .bool false := e5
    have HU := Lib.hid (show (upd V 6 (.int .i64 0)) 5 = .bool false from u5)
    clear u5
    have H := Lib.hid (show ∀ W', Ext W W' → K (fr (upd V 6 (.int .i64 0))) W' from fun W' he => hK _ _ ⟨upd V 6 (.int .i64 0), rfl, HS.ext he, HV.up 6 _ (fun x hx => Option.some.inj hx), Bs.ext x0 he, fun h => Bs.ext (f23 (more_ne h rfl)) he⟩)
    clear hK hC hW hL HV f23
    rw [HFR.out]
    rw [e5]
    clear e5
    go_wp2_with fail
    show K _ _
    have := H.out _ (Ext.refl _)
    rw [HFR.out] at this
    obtain u5 := HU.out
    rw [u5] at this
    exact this
  · rintro L A W K hL hC hW ⟨V, rfl, HS, HV, x0, f23⟩ hK
    have e5 : V 5 = .bool false := HV 5 _ rfl (hW 5 rfl)
    have e6 : V 6 = .int .i64 0 := HV 6 _ rfl (hW 6 rfl)
    have u5 : (upd V 7 (.bool false)) 5 = .bool false := e5
    have u6 : (upd V 7 (.bool false)) 6 = .int .i64 0 := e6
    have HU := Lib.hid (show (upd V 7 (.bool false)) 5 = .bool false ∧ (upd V 7 (.bool false)) 6 = .int .i64 0 from ⟨u5, u6⟩)
    clear u5 u6
    have H := Lib.hid (show ∀ W', Ext W W' → K (fr (upd V 7 (.bool false))) W' from fun W' he => hK _ _ ⟨upd V 7 (.bool false), rfl, HS.ext he, HV.up 7 _ (fun x hx => Option.some.inj hx), Bs.ext x0 he, fun h => Bs.ext (f23 (more_ne h rfl)) he⟩)
    clear hK hC hW hL HV f23
    rw [HFR.out]
    rw [e5, e6]
    clear e5 e6
    go_wp2_with fail
    show K _ _
    have := H.out _ (Ext.refl _)
    rw [HFR.out] at this
    obtain ⟨u5, u6⟩ := HU.out
    rw [u5, u6] at this
    exact this
  · rintro L A W K hL hC hW ⟨V, rfl, HS, HV, x0, f23⟩ hK
    have e5 : V 5 = .bool false := HV 5 _ rfl (hW 5 rfl)
    have e7 : V 7 = .bool false := HV 7 _ rfl (hW 7 rfl)
    have u5 : (upd V 8 (.bool false)) 5 = .bool false := e5
    have u7 : (upd V 8 (.bool false)) 7 = .bool false := e7
    have HU := Lib.hid (show (upd V 8 (.bool false)) 5 = .bool false ∧ (upd V 8 (.bool false)) 7 = .bool false from ⟨u5, u7⟩)
    clear u5 u7
    have H := Lib.hid (show ∀ W', Ext W W' → K (fr (upd V 8 (.bool false))) W' from fun W' he => hK _ _ ⟨upd V 8 (.bool false), rfl, HS.ext he, HV.up 8 _ (fun x hx => Option.some.inj hx), Bs.ext x0 he, fun h => Bs.ext (f23 (more_ne h rfl)) he⟩)
    clear hK hC hW hL HV f23
    rw [HFR.out]
    rw [e5, e7]
    clear e5 e7
    go_wp2_with fail
    show K _ _
    have := H.out _ (Ext.refl _)
    rw [HFR.out] at this
    obtain ⟨u5, u7⟩ := HU.out
    rw [u5, u7] at this
    exact this
  · rintro L A W K hL hC hW ⟨V, rfl, HS, HV, x0, f23⟩ hK
    have e8 : V 8 = .bool false := HV 8 _ rfl (hW 8 rfl)
    have u8 : (upd V 9 (.bool false)) 8 = .bool false := e8
    have HU := Lib.hid (show (upd V 9 (.bool false)) 8 = .bool false from u8)
    clear u8
    have H := Lib.hid (show ∀ W', Ext W W' → K (fr (upd V 9 (.bool false))) W' from fun W' he => hK _ _ ⟨upd V 9 (.bool false), rfl, HS.ext he, HV.up 9 _ (fun x hx => Option.some.inj hx), Bs.ext x0 he, fun h => Bs.ext (f23 (more_ne h rfl)) he⟩)
    clear hK hC hW hL HV f23
    rw [HFR.out]
    rw [e8]
    clear e8
    go_wp2_with fail
    show K _ _
    have := H.out _ (Ext.refl _)
    rw [HFR.out] at this
    obtain u8 := HU.out
    rw [u8] at this
    exact this
  · rintro L A W K hL hC hW ⟨V, rfl, HS, HV, x0, f23⟩ hK
    have e9 : V 9 = .bool false := HV 9 _ rfl (hW 9 rfl)
    have u9 : (upd V 10 (.int .u64 (a : Int))) 9 = .bool false := e9
    have HU := Lib.hid (show (upd V 10 (.int .u64 (a : Int))) 9 = .bool false from u9)
    clear u9
    have H := Lib.hid (show ∀ W', Ext W W' → K (fr (upd V 10 (.int .u64 (a : Int)))) W' from fun W' he => hK _ _ ⟨upd V 10 (.int .u64 (a : Int)), rfl, HS.ext he, HV.up 10 _ (fun x hx => Option.some.inj hx), Bs.ext x0 he, fun h => Bs.ext (f23 (more_ne h rfl)) he⟩)
    clear hK hC hW hL HV f23
    rw [HFR.out]
    rw [e9]
    clear e9
    go_wp2_with fail
    show K _ _
    have := H.out _ (Ext.refl _)
    rw [HFR.out] at this
    obtain u9 := HU.out
    rw [u9] at this
    exact this
  · rintro L A W K hL hC hW ⟨V, rfl, HS, HV, x0, f23⟩ hK
    have e9 : V 9 = .bool false := HV 9 _ rfl (hW 9 rfl)
    have u9 : (upd V 11 (.int .u64 (a : Int))) 9 = .bool false := e9
    have HU := Lib.hid (show (upd V 11 (.int .u64 (a : Int))) 9 = .bool false from u9)
    clear u9
    have H := Lib.hid (show ∀ W', Ext W W' → K (fr (upd V 11 (.int .u64 (a : Int)))) W' from fun W' he => hK _ _ ⟨upd V 11 (.int .u64 (a : Int)), rfl, HS.ext he, HV.up 11 _ (fun x hx => Option.some.inj hx), Bs.ext x0 he, fun h => Bs.ext (f23 (more_ne h rfl)) he⟩)
    clear hK hC hW hL HV f23
    rw [HFR.out]
    rw [e9]
    clear e9
    go_wp2_with fail
    show K _ _
    have := H.out _ (Ext.refl _)
    rw [HFR.out] at this
    obtain u9 := HU.out
    rw [u9] at this
    exact this
  · rintro L A W K hL hC hW ⟨V, rfl, HS, HV, x0, f23⟩ hK
    have e9 : V 9 = .bool false := HV 9 _ rfl (hW 9 rfl)
    have e10 : V 10 = .int .u64 (a : Int) := HV 10 _ rfl (hW 10 rfl)
    have e11 : V 11 = .int .u64 (a : Int) := HV 11 _ rfl (hW 11 rfl)
    have u9 : (upd V 12 (.bool false)) 9 = .bool false := e9
    have u10 : (upd V 12 (.bool false)) 10 = .int .u64 (a : Int) := e10
    have u11 : (upd V 12 (.bool false)) 11 = .int .u64 (a : Int) := e11
    have HU := Lib.hid (show (upd V 12 (.bool false)) 9 = .bool false ∧ (upd V 12 (.bool false)) 10 = .int .u64 (a : Int) ∧ (upd V 12 (.bool false)) 11 = .int .u64 (a : Int) from ⟨u9, u10, u11⟩)
    clear u9 u10 u11
    have H := Lib.hid (show ∀ W', Ext W W' → K (fr (upd V 12 (.bool false))) W' from fun W' he => hK _ _ ⟨upd V 12 (.bool false), rfl, HS.ext he, HV.up 12 _ (fun x hx => Option.some.inj hx), Bs.ext x0 he, fun h => Bs.ext (f23 (more_ne h rfl)) he⟩)
    clear hK hC hW hL HV f23
    rw [HFR.out]
    rw [e9, e10, e11]
    clear e9 e10 e11
    go_wp2_with fail
    show K _ _
    have := H.out _ (Ext.refl _)
    rw [HFR.out] at this
    obtain ⟨u9, u10, u11⟩ := HU.out
    rw [u9, u10, u11] at this
    exact this
  · rintro L A W K hL hC hW ⟨V, rfl, HS, HV, x0, f23⟩ hK
    have e9 : V 9 = .bool false := HV 9 _ rfl (hW 9 rfl)
    have e12 : V 12 = .bool false := HV 12 _ rfl (hW 12 rfl)
    have u9 : (upd V 13 (.bool false)) 9 = .bool false := e9
    have u12 : (upd V 13 (.bool false)) 12 = .bool false := e12
    have HU := Lib.hid (show (upd V 13 (.bool false)) 9 = .bool false ∧ (upd V 13 (.bool false)) 12 = .bool false from ⟨u9, u12⟩)
    clear u9 u12
    have H := Lib.hid (show ∀ W', Ext W W' → K (fr (upd V 13 (.bool false))) W' from fun W' he => hK _ _ ⟨upd V 13 (.bool false), rfl, HS.ext he, HV.up 13 _ (fun x hx => Option.some.inj hx), Bs.ext x0 he, fun h => Bs.ext (f23 (more_ne h rfl)) he⟩)
    clear hK hC hW hL HV f23
    rw [HFR.out]
    rw [e9, e12]
    clear e9 e12
    go_wp2_with fail
    show K _ _
    have := H.out _ (Ext.refl _)
    rw [HFR.out] at this
    obtain ⟨u9, u12⟩ := HU.out
    rw [u9, u12] at this
    exact this
  · rintro L A W K hL hC hW ⟨V, rfl, HS, HV, x0, f23⟩ hK
    have e13 : V 13 = .bool false := HV 13 _ rfl (hW 13 rfl)
    have u13 : (upd V 14 (.bool false)) 13 = .bool false := e13
    have HU := Lib.hid (show (upd V 14 (.bool false)) 13 = .bool false from u13)
    clear u13
    have H := Lib.hid (show ∀ W', Ext W W' → K (fr (upd V 14 (.bool false))) W' from fun W' he => hK _ _ ⟨upd V 14 (.bool false), rfl, HS.ext he, HV.up 14 _ (fun x hx => Option.some.inj hx), Bs.ext x0 he, fun h => Bs.ext (f23 (more_ne h rfl)) he⟩)
    clear hK hC hW hL HV f23
    rw [HFR.out]
    rw [e13]
    clear e13
    go_wp2_with fail
    show K _ _
    have := H.out _ (Ext.refl _)
    rw [HFR.out] at this
    obtain u13 := HU.out
    rw [u13] at this
    exact this
  · rintro L A W K hL hC hW ⟨V, rfl, HS, HV, x0, f23⟩ hK
    have e14 : V 14 = .bool false := HV 14 _ rfl (hW 14 rfl)
    have u14 : (upd V 15 (.slice (some ⟨g7, 0, none⟩) 32 c7)) 14 = .bool false := e14
    have HU := Lib.hid (show (upd V 15 (.slice (some ⟨g7, 0, none⟩) 32 c7)) 14 = .bool false from u14)
    clear u14
    have H := Lib.hid (show ∀ W', Ext W W' → K (fr (upd V 15 (.slice (some ⟨g7, 0, none⟩) 32 c7))) W' from fun W' he => hK _ _ ⟨upd V 15 (.slice (some ⟨g7, 0, none⟩) 32 c7), rfl, HS.ext he, HV.up 15 _ (fun x hx => Option.some.inj hx), Bs.ext x0 he, fun h => Bs.ext (f23 (more_ne h rfl)) he⟩)
    clear hK hC hW hL HV f23
    rw [HFR.out]
    rw [e14]
    clear e14
    go_wp2_with fail
    show K _ _
    have := H.out _ (Ext.refl _)
    rw [HFR.out] at this
    obtain u14 := HU.out
    rw [u14] at this
    exact this
  · rintro L A W K hL hC hW ⟨V, rfl, HS, HV, x0, f23⟩ hK
    have e14 : V 14 = .bool false := HV 14 _ rfl (hW 14 rfl)
    have e15 : V 15 = .slice (some ⟨g7, 0, none⟩) 32 c7 := HV 15 _ rfl (hW 15 rfl)
    have u14 : (upd V 16 (.int .i64 32)) 14 = .bool false := e14
    have u15 : (upd V 16 (.int .i64 32)) 15 = .slice (some ⟨g7, 0, none⟩) 32 c7 := e15
    have HU := Lib.hid (show (upd V 16 (.int .i64 32)) 14 = .bool false ∧ (upd V 16 (.int .i64 32)) 15 = .slice (some ⟨g7, 0, none⟩) 32 c7 from ⟨u14, u15⟩)
    clear u14 u15
    have H := Lib.hid (show ∀ W', Ext W W' → K (fr (upd V 16 (.int .i64 32))) W' from fun W' he => hK _ _ ⟨upd V 16 (.int .i64 32), rfl, HS.ext he, HV.up 16 _ (fun x hx => Option.some.inj hx), Bs.ext x0 he, fun h => Bs.ext (f23 (more_ne h rfl)) he⟩)
    clear hK hC hW hL HV f23
    rw [HFR.out]
    rw [e14, e15]
    clear e14 e15
    go_wp2_with fail
    show K _ _
    have := H.out _ (Ext.refl _)
    rw [HFR.out] at this
    obtain ⟨u14, u15⟩ := HU.out
    rw [u14, u15] at this
    exact this
  · rintro L A W K hL hC hW ⟨V, rfl, HS, HV, x0, f23⟩ hK
    have e14 : V 14 = .bool false := HV 14 _ rfl (hW 14 rfl)
    have e16 : V 16 = .int .i64 32 := HV 16 _ rfl (hW 16 rfl)
    have u14 : (upd V 17 (.bool false)) 14 = .bool false := e14
    have u16 : (upd V 17 (.bool false)) 16 = .int .i64 32 := e16
    have HU := Lib.hid (show (upd V 17 (.bool false)) 14 = .bool false ∧ (upd V 17 (.bool false)) 16 = .int .i64 32 from ⟨u14, u16⟩)
    clear u14 u16
    have H := Lib.hid (show ∀ W', Ext W W' → K (fr (upd V 17 (.bool false))) W' from fun W' he => hK _ _ ⟨upd V 17 (.bool false), rfl, HS.ext he, HV.up 17 _ (fun x hx => Option.some.inj hx), Bs.ext x0 he, fun h => Bs.ext (f23 (more_ne h rfl)) he⟩)
    clear hK hC hW hL HV f23
    rw [HFR.out]
    rw [e14, e16]
    clear e14 e16
    go_wp2_with fail
    show K _ _
    have := H.out _ (Ext.refl _)
    rw [HFR.out] at this
    obtain ⟨u14, u16⟩ := HU.out
    rw [u14, u16] at this
    exact this
  · rintro L A W K hL hC hW ⟨V, rfl, HS, HV, x0, f23⟩ hK
    have e14 : V 14 = .bool false := HV 14 _ rfl (hW 14 rfl)
    have e17 : V 17 = .bool false := HV 17 _ rfl (hW 17 rfl)
    have u14 : (upd V 18 (.bool false)) 14 = .bool false := e14
    have u17 : (upd V 18 (.bool false)) 17 = .bool false := e17
    have HU := Lib.hid (show (upd V 18 (.bool false)) 14 = .bool false ∧ (upd V 18 (.bool false)) 17 = .bool false from ⟨u14, u17⟩)
    clear u14 u17
    have H := Lib.hid (show ∀ W', Ext W W' → K (fr (upd V 18 (.bool false))) W' from fun W' he => hK _ _ ⟨upd V 18 (.bool false), rfl, HS.ext he, HV.up 18 _ (fun x hx => Option.some.inj hx), Bs.ext x0 he, fun h => Bs.ext (f23 (more_ne h rfl)) he⟩)
    clear hK hC hW hL HV f23
    rw [HFR.out]
    rw [e14, e17]
    clear e14 e17
    go_wp2_with fail
    show K _ _
    have := H.out _ (Ext.refl _)
    rw [HFR.out] at this
    obtain ⟨u14, u17⟩ := HU.out
    rw [u14, u17] at this
    exact this
  · rintro L A W K hL hC hW ⟨V, rfl, HS, HV, x0, f23⟩ hK
    have e18 : V 18 = .bool false := HV 18 _ rfl (hW 18 rfl)
    have u18 : (upd V 19 (.bool false)) 18 = .bool false := e18
    have HU := Lib.hid (show (upd V 19 (.bool false)) 18 = .bool false from u18)
    clear u18
    have H := Lib.hid (show ∀ W', Ext W W' → K (fr (upd V 19 (.bool false))) W' from fun W' he => hK _ _ ⟨upd V 19 (.bool false), rfl, HS.ext he, HV.up 19 _ (fun x hx => Option.some.inj hx), Bs.ext x0 he, fun h => Bs.ext (f23 (more_ne h rfl)) he⟩)
    clear hK hC hW hL HV f23
    rw [HFR.out]
    rw [e18]
    clear e18
    go_wp2_with fail
    show K _ _
    have := H.out _ (Ext.refl _)
    rw [HFR.out] at this
    obtain u18 := HU.out
    rw [u18] at this
    exact this
  · rintro L A W K hL hC hW ⟨V, rfl, HS, HV, x0, f23⟩ hK
    have e19 : V 19 = .bool false := HV 19 _ rfl (hW 19 rfl)
    have u19 : (upd V 20 (.slice (some ⟨g7, 0, none⟩) 32 c7)) 19 = .bool false := e19
    have HU := Lib.hid (show (upd V 20 (.slice (some ⟨g7, 0, none⟩) 32 c7)) 19 = .bool false from u19)
    clear u19
    have H := Lib.hid (show ∀ W', Ext W W' → K (fr (upd V 20 (.slice (some ⟨g7, 0, none⟩) 32 c7))) W' from fun W' he => hK _ _ ⟨upd V 20 (.slice (some ⟨g7, 0, none⟩) 32 c7), rfl, HS.ext he, HV.up 20 _ (fun x hx => Option.some.inj hx), Bs.ext x0 he, fun h => Bs.ext (f23 (more_ne h rfl)) he⟩)
    clear hK hC hW hL HV f23
    rw [HFR.out]
    rw [e19]
    clear e19
    go_wp2_with fail
    show K _ _
    have := H.out _ (Ext.refl _)
    rw [HFR.out] at this
    obtain u19 := HU.out
    rw [u19] at this
    exact this
  · rintro L A W K hL hC hW ⟨V, rfl, HS, HV, x0, f23⟩ hK
    have e19 : V 19 = .bool false := HV 19 _ rfl (hW 19 rfl)
    have e20 : V 20 = .slice (some ⟨g7, 0, none⟩) 32 c7 := HV 20 _ rfl (hW 20 rfl)
    have u19 : (upd V 21 (.slice (some ⟨g7, 24, none⟩) 8 (c7 - 24))) 19 = .bool false := e19
    have u20 : (upd V 21 (.slice (some ⟨g7, 24, none⟩) 8 (c7 - 24))) 20 = .slice (some ⟨g7, 0, none⟩) 32 c7 := e20
    have HU := Lib.hid (show (upd V 21 (.slice (some ⟨g7, 24, none⟩) 8 (c7 - 24))) 19 = .bool false ∧ (upd V 21 (.slice (some ⟨g7, 24, none⟩) 8 (c7 - 24))) 20 = .slice (some ⟨g7, 0, none⟩) 32 c7 from ⟨u19, u20⟩)
    clear u19 u20
    have H := Lib.hid (show ∀ W', Ext W W' → K (fr (upd V 21 (.slice (some ⟨g7, 24, none⟩) 8 (c7 - 24)))) W' from fun W' he => hK _ _ ⟨upd V 21 (.slice (some ⟨g7, 24, none⟩) 8 (c7 - 24)), rfl, HS.ext he, HV.up 21 _ (fun x hx => Option.some.inj hx), Bs.ext x0 he, fun h => Bs.ext (f23 (more_ne h rfl)) he⟩)
    clear hK hC hW hL HV f23
    rw [HFR.out]
    rw [e19, e20]
    clear e19 e20
    have hcc := HC7.out
    go_wp2_with fail
    show K _ _
    have := H.out _ (Ext.refl _)
    rw [HFR.out] at this
    obtain ⟨u19, u20⟩ := HU.out
    rw [u19, u20] at this
    exact this
  · rintro L A W K hL hC hW ⟨V, rfl, HS, HV, x0, f23⟩ hK
    have e19 : V 19 = .bool false := HV 19 _ rfl (hW 19 rfl)
    have u19 : (upd V 22 (.int .u64 (a : Int))) 19 = .bool false := e19
    have HU := Lib.hid (show (upd V 22 (.int .u64 (a : Int))) 19 = .bool false from u19)
    clear u19
    have H := Lib.hid (show ∀ W', Ext W W' → K (fr (upd V 22 (.int .u64 (a : Int)))) W' from fun W' he => hK _ _ ⟨upd V 22 (.int .u64 (a : Int)), rfl, HS.ext he, HV.up 22 _ (fun x hx => Option.some.inj hx), Bs.ext x0 he, fun h => Bs.ext (f23 (more_ne h rfl)) he⟩)
    clear hK hC hW hL HV f23
    rw [HFR.out]
    rw [e19]
    clear e19
    go_wp2_with fail
    show K _ _
    have := H.out _ (Ext.refl _)
    rw [HFR.out] at this
    obtain u19 := HU.out
    rw [u19] at this
    exact this
  · rintro L A W K hL hC hW ⟨V, rfl, HS, HV, x0, f23⟩ hK
    have e19 : V 19 = .bool false := HV 19 _ rfl (hW 19 rfl)
    have e22 : V 22 = .int .u64 (a : Int) := HV 22 _ rfl (hW 22 rfl)
    have H := Lib.hid (show ∀ v W', Ext W W' → Bs W' v (hi8 a) → K (fr (upd V 23 v)) W' from fun v W' he hp => hK _ _ ⟨upd V 23 v, rfl, HS.ext he, HV.up 23 _ (fun x hx => absurd hx (by intro h; cases h)), Bs.ext x0 he, fun _ => hp⟩)
    have HU := Lib.hid (show ∀ v, (upd V 23 v) 19 = .bool false ∧ (upd V 23 v) 22 = .int .u64 (a : Int) from fun v => ⟨e19, e22⟩)
    clear hK hC hW hL HV f23
    rw [HFR.out]
    rw [e19, e22]
    clear e19 e22
    go_wp2_with fail
    refine (HB1.out _).mono ?_
    rintro e wx ⟨vx, rfl, ho, he⟩
    have := H.out _ _ he (ho.bs)
    clear H
    go_wp2_with fail
    show K _ _
    rw [HFR.out] at this
    obtain ⟨u19, u22⟩ := HU.out _
    rw [u19, u22] at this
    exact this
  · rintro L A W K hL hC hW ⟨V, rfl, HS, HV, x0, f23⟩ hK
    have e19 : V 19 = .bool false := HV 19 _ rfl (hW 19 rfl)
    have e21 : V 21 = .slice (some ⟨g7, 24, none⟩) 8 (c7 - 24) := HV 21 _ rfl (hW 21 rfl)
    have u19 : (upd V 24 (.bool true)) 19 = .bool false := e19
    have u21 : (upd V 24 (.bool true)) 21 = .slice (some ⟨g7, 24, none⟩) 8 (c7 - 24) := e21
    have b1 := f23 (hW 23 rfl)
    have HU := Lib.hid (show (upd V 24 (.bool true)) 19 = .bool false ∧ (upd V 24 (.bool true)) 21 = .slice (some ⟨g7, 24, none⟩) 8 (c7 - 24) from ⟨u19, u21⟩)
    clear u19 u21
    have H := Lib.hid (show ∀ W', Ext W W' → K (fr (upd V 24 (.bool true))) W' from fun W' he => hK _ _ ⟨upd V 24 (.bool true), rfl, HS.ext he, HV.up 24 _ (fun x hx => Option.some.inj hx), Bs.ext x0 he, fun h => Bs.ext (f23 (more_ne h rfl)) he⟩)
    clear hK hC hW hL HV f23
    rw [HFR.out]
    rw [e19, e21]
    clear e19 e21
    go_wp2_with fail
    refine (sliceEqual_same _ _ _ _ (HX.out _ x0) b1 (hi8_pos a)).mono ?_
    rintro e wx ⟨rfl, he⟩
    have := H.out _ he
    clear H
    go_wp2_with fail
    show K _ _
    rw [HFR.out] at this
    obtain ⟨u19, u21⟩ := HU.out
    rw [u19, u21] at this
    exact this
  · rintro L A W K hL hC hW ⟨V, rfl, HS, HV, x0, f23⟩ hK
    have e19 : V 19 = .bool false := HV 19 _ rfl (hW 19 rfl)
    have e24 : V 24 = .bool true := HV 24 _ rfl (hW 24 rfl)
    have u19 : (upd V 25 (.bool false)) 19 = .bool false := e19
    have u24 : (upd V 25 (.bool false)) 24 = .bool true := e24
    have HU := Lib.hid (show (upd V 25 (.bool false)) 19 = .bool false ∧ (upd V 25 (.bool false)) 24 = .bool true from ⟨u19, u24⟩)
    clear u19 u24
    have H := Lib.hid (show ∀ W', Ext W W' → K (fr (upd V 25 (.bool false))) W' from fun W' he => hK _ _ ⟨upd V 25 (.bool false), rfl, HS.ext he, HV.up 25 _ (fun x hx => Option.some.inj hx), Bs.ext x0 he, fun h => Bs.ext (f23 (more_ne h rfl)) he⟩)
    clear hK hC hW hL HV f23
    rw [HFR.out]
    rw [e19, e24]
    clear e19 e24
    go_wp2_with fail
    show K _ _
    have := H.out _ (Ext.refl _)
    rw [HFR.out] at this
    obtain ⟨u19, u24⟩ := HU.out
    rw [u19, u24] at this
    exact this
  · rintro L A W K hL hC hW ⟨V, rfl, HS, HV, x0, f23⟩ hK
    have e19 : V 19 = .bool false := HV 19 _ rfl (hW 19 rfl)
    have e25 : V 25 = .bool false := HV 25 _ rfl (hW 25 rfl)
    have u19 : (upd V 26 (.bool false)) 19 = .bool false := e19
    have u25 : (upd V 26 (.bool false)) 25 = .bool false := e25
    have HU := Lib.hid (show (upd V 26 (.bool false)) 19 = .bool false ∧ (upd V 26 (.bool false)) 25 = .bool false from ⟨u19, u25⟩)
    clear u19 u25
    have H := Lib.hid (show ∀ W', Ext W W' → K (fr (upd V 26 (.bool false))) W' from fun W' he => hK _ _ ⟨upd V 26 (.bool false), rfl, HS.ext he, HV.up 26 _ (fun x hx => Option.some.inj hx), Bs.ext x0 he, fun h => Bs.ext (f23 (more_ne h rfl)) he⟩)
    clear hK hC hW hL HV f23
    rw [HFR.out]
    rw [e19, e25]
    clear e19 e25
    go_wp2_with fail
    show K _ _
    have := H.out _ (Ext.refl _)
    rw [HFR.out] at this
    obtain ⟨u19, u25⟩ := HU.out
    rw [u19, u25] at this
    exact this
  · rintro L A W hL ⟨V, rfl, HS, HV, x0, f23⟩
    have e0 : V 0 = .int .u64 (a : Int) := HV 0 _ rfl (hL 0 (by simp))
    have e1 : V 1 = wv a := HV 1 _ rfl (hL 1 (by simp))
    have e2 : V 2 = .int .u64 (a : Int) := HV 2 _ rfl (hL 2 (by simp))
    have e3 : V 3 = .int .u64 (a : Int) := HV 3 _ rfl (hL 3 (by simp))
    have e4 : V 4 = .bool false := HV 4 _ rfl (hL 4 (by simp))
    have e5 : V 5 = .bool false := HV 5 _ rfl (hL 5 (by simp))
    have e6 : V 6 = .int .i64 0 := HV 6 _ rfl (hL 6 (by simp))
    have e7 : V 7 = .bool false := HV 7 _ rfl (hL 7 (by simp))
    have e8 : V 8 = .bool false := HV 8 _ rfl (hL 8 (by simp))
    have e9 : V 9 = .bool false := HV 9 _ rfl (hL 9 (by simp))
    have e10 : V 10 = .int .u64 (a : Int) := HV 10 _ rfl (hL 10 (by simp))
    have e11 : V 11 = .int .u64 (a : Int) := HV 11 _ rfl (hL 11 (by simp))
    have e12 : V 12 = .bool false := HV 12 _ rfl (hL 12 (by simp))
    have e13 : V 13 = .bool false := HV 13 _ rfl (hL 13 (by simp))
    have e14 : V 14 = .bool false := HV 14 _ rfl (hL 14 (by simp))
    have e15 : V 15 = .slice (some ⟨g7, 0, none⟩) 32 c7 := HV 15 _ rfl (hL 15 (by simp))
    have e16 : V 16 = .int .i64 32 := HV 16 _ rfl (hL 16 (by simp))
    have e17 : V 17 = .bool false := HV 17 _ rfl (hL 17 (by simp))
    have e18 : V 18 = .bool false := HV 18 _ rfl (hL 18 (by simp))
    have e19 : V 19 = .bool false := HV 19 _ rfl (hL 19 (by simp))
    have e20 : V 20 = .slice (some ⟨g7, 0, none⟩) 32 c7 := HV 20 _ rfl (hL 20 (by simp))
    have e21 : V 21 = .slice (some ⟨g7, 24, none⟩) 8 (c7 - 24) := HV 21 _ rfl (hL 21 (by simp))
    have e22 : V 22 = .int .u64 (a : Int) := HV 22 _ rfl (hL 22 (by simp))
    have e24 : V 24 = .bool true := HV 24 _ rfl (hL 24 (by simp))
    have e25 : V 25 = .bool false := HV 25 _ rfl (hL 25 (by simp))
    have e26 : V 26 = .bool false := HV 26 _ rfl (hL 26 (by simp))
    have q42 := f23 (hL 23 (by simp))
    rw [HFR.out]
    rw [e0, e1, e2, e3, e4, e5, e6, e7, e8, e9, e10, e11, e12, e13, e14, e15, e16, e17, e18, e19, e20, e21, e22, e24, e25, e26]
    clear hL HV e0 e1 e2 e3 e4 e5 e6 e7 e8 e9 e10 e11 e12 e13 e14 e15 e16 e17 e18 e19 e20 e21 e22 e24 e25 e26 f23
    clear HFR HX HC7 x0
    have hxa := HEB.out.2.2
    have hbb : (eb == eb) = true := beq_self_eq_true eb
    go_wp2_with fail
    refine (HB1.out _).mono ?_
    rintro e w5 ⟨v5, rfl, ho, he⟩
    have HO5 := Lib.hid (Own.bs ho)
    have HS := HS.ext he
    clear ho he
    go_wp2_with fail
    refine (HB2.out _).mono ?_
    rintro e w6 ⟨v6, rfl, ho, he⟩
    have HO6 := Lib.hid (Own.bs ho)
    have HO5 := Lib.hid (HO5.out.ext he)
    have HS := HS.ext he
    clear ho he
    go_wp2_with fail
    refine (sliceEqual_any v5 v6 (hi8 a) (hi8 b) _ HO5.out HO6.out (hi8_pos a) (hi8_pos b)).mono ?_
    rintro e w7 ⟨rfl, he⟩
    rw [HEB.out.2.1]
    have HS := HS.ext he
    clear he HO5 HO6
    go_wp2_with fail
    refine (HW1.out _).mono ?_
    rintro e w8 ⟨rfl, he⟩
    have HS := HS.ext he
    clear he
    go_wp2_with fail
    refine (HW2.out _).mono ?_
    rintro e w9 ⟨rfl, he⟩
    have HS := HS.ext he
    clear he
    have hxw := HEB.out.1
    go_wp2_with ((with_reducible refine wpList_eql_word ?_ (.tmp 57) (.tmp 59) rfl a b HMA.out HMB.out ?_ ?_ ?_); (exact rfl); (exact rfl); (exact rfl); rw [hxw])
    go_ret
    exact ⟨rfl, HS.2⟩

set_option maxRecDepth 100000 in
theorem back_told (W : World) (args : Array Value) (h : Told Try.f12 W args) : Calls Try.prog 12 args W (RetT W) := by
  obtain ⟨H, enc, base, ds, p, hval, hA⟩ := h
  rw [Try.params12] at hA hval
  obtain ⟨v0, v1, d0, d1, p0, p1, ha, rfl, rfl, h0, h1⟩ := trodAll_two hA
  obtain rfl : args = #[v0, v1] := by apply Array.toList_inj.1; rw [ha]
  obtain ⟨a, rfl, hx⟩ := u64_came Try.underlying56 (hval 0 _ _ rfl rfl) h0
  obtain ⟨b, rfl, hy⟩ := u64_came Try.underlying56 (hval 1 _ _ rfl rfl) h1
  exact back_any a b W hx hy

set_option maxRecDepth 100000 in
theorem back_spec (H : Type) : ∀ ds : List (DataW H), ds.length = Try.f12.params.toList.length → Rows.addrBackSpec.fn H ds = { results := [.lit (.bool true)], args := ds }
  | [_, _], _ => rfl
  | [], h | [_], h | _ :: _ :: _ :: _, h => by rw [Try.params12] at h; simp at h

set_option maxRecDepth 100000 in
theorem addrBack_holds : Rows.AddrBackSaid :=
  OpenClaim.holds_of_wide 12 Try.f12 rfl rfl rfl rfl rfl rfl rfl ⟨rfl, rfl, rfl, rfl, rfl⟩ rfl rfl rfl rfl rfl (by kernel_rfl) Try.func12 (by kernel_rfl)
    (of_decide_eq_true (by kernel_rfl)) (by unfold Func.isWrapper; first | (rw [if_pos (by decide +kernel)]; kernel_rfl) | (rw [if_neg (by decide +kernel)]; exact ⟨rfl, rfl⟩))
    (fun os started H enc _ => law_lifted started (by kernel_rfl) Try.func12 rfl rfl (back_spec H) (of_decide_eq_true (by kernel_rfl))
      (ChangeSpec.witness6 (enc := enc) (C := Try.checked) false ⟨#[], #[.int .u64 0, .int .u64 0], []⟩ 8 (by kernel_rfl) (by kernel_rfl) (by kernel_rfl) (by kernel_rfl)) back_told)
end Go.Proofs.Ytdkjpoodfkkmlaa
