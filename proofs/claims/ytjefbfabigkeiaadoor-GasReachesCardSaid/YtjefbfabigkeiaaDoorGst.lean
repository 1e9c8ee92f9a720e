/- Package gas: tierOf, Base; the document's Base. -/
import Derived.Test.YtjefbfabigkeiaaDoorGsn
import Derived.Test.YtjefbfabigkeiaaDoorGsp
namespace Go.Proofs.YtjefbfabigkeiaaDoor
open Go.ChangeShapes Go.WideShapes Go.ChangeAt Go.RowKit

/-- The tier of an operation. -/
def tierG (c : Nat) : Nat :=
  if [49, 84, 85, 241, 244, 250, 245, 0, 243, 253, 254].contains c then 0
  else if c = 91 then 1
  else if [48, 50, 51, 52, 54, 61, 66, 67, 72, 80, 90].contains c then 2
  else if [2, 4, 6, 71].contains c then 4
  else if c = 86 then 5
  else if c = 87 then 6
  else if [92, 93].contains c then 7
  else if c = 32 then 8
  else 3
set_option maxRecDepth 100000 in
theorem tierG_lt : ∀ c : Nat, c < 256 → tierG c < 9 := by decide +kernel
def tierS : List Nat := [49, 84, 85, 241, 244, 250, 245, 0, 243, 253, 254, 91, 48, 50, 51, 52, 54, 61, 66, 67, 72, 80, 90, 2, 4, 6, 71, 86, 87, 92, 93, 32]
set_option maxRecDepth 100000 in
theorem tierG_low : ∀ c : Nat, c < 256 → c ∉ tierS → tierG c = 3 := by decide +kernel
set_option maxRecDepth 100000 in
theorem tier_leaf {c : Nat} {k v : Int} (h : ((c : Int) == k) = true) (hv : v = (tierG k.toNat : Nat)) : v = (tierG c : Nat) := by
  have e := congrArg Int.toNat (eq_of_beq h)
  rw [Int.toNat_natCast] at e
  rw [hv, e]
set_option maxRecDepth 100000 in
set_option maxHeartbeats 4000000 in
theorem tierG_any (c : Nat) (w : World) (hc : c < 256) : Calls Tryd.prog 43 #[.int .u8 (c : Nat)] w fun e w' => e = .returned (.int .i64 (tierG c : Nat)) ∧ w' = w := by
  go_enter Tryd.func43, Tryd.ntmps43
  go_wp2
  all_goals
    go_ret
    refine ⟨ret_int ?_, rfl⟩
    first
      | (apply tier_leaf
         · assumption
         · rfl)
      | (have hk : c ∉ tierS := by
           intro hm
           simp only [tierS, List.mem_cons, List.not_mem_nil, or_false] at hm
           simp only [beq_eq_false_iff_ne, ne_eq] at *
           omega
         rw [tierG_low c hc hk]
         rfl)
set_option maxRecDepth 100000 in
theorem tier_cost : ∀ c : Nat, c < 256 → ttV tierL (tierG c) < 31 := by decide +kernel
/-- What an operation costs, and whether there is one. -/
def baseG (c : Nat) : Nat := if (ofF c).isSome then ttV tierL (tierG c) else 0
def baseE (c : Nat) : Nat := if (ofF c).isSome then 0 else 220
set_option maxRecDepth 100000 in
theorem baseG_any (c : Nat) (w : World) (hT : Tb w) (hc : c < 256) : Calls Tryd.prog 12 #[.int .u8 (c : Nat)] w fun e w' => e = .returned (.tuple #[.int .u64 (baseG c : Nat), .int .i64 (baseE c : Nat)]) ∧ Ext w w' := by
  have hlt := tierG_lt c hc
  have HB := Lib.hid (show baseG c = if (ofF c).isSome then ttV tierL (tierG c) else 0 from rfl)
  have HB2 := Lib.hid (show baseE c = if (ofF c).isSome then 0 else 220 from rfl)
  have HE' := Lib.hid (show ofE c = if (ofF c).isSome then 0 else 4 from rfl)
  go_enter Tryd.func12, Tryd.ntmps12
  go_wp2_with fail
  refine (ofC_any c w hT hc).mono ?_
  rintro e w1 ⟨rfl, HE1⟩
  generalize ofV c = p at *
  have HZ : Cs (w1.alloc (.cells #[.int .u8 0, .string { data := #[] }, .int .i64 0, .int .i64 0, .int .i64 0] 64)) w1.heap.size 64 #[.int .u8 0, .string { data := #[] }, .int .i64 0, .int .i64 0, .int .i64 0] := Cs.new _ _ _ _ rfl
  have HX := Lib.hid (HE1.alloc (.cells #[.int .u8 0, .string { data := #[] }, .int .i64 0, .int .i64 0, .int .i64 0] 64))
  go_upto_region 2 with ((with_reducible refine wpList_storeOp ?_ ?_ (.tmp 4) (.tmp 9) ?_ w1.heap.size _ p ?_ ?_ HZ rfl ?_); (exact rfl); (exact rfl); (exact rfl); (exact rfl); (exact rfl); intro w5 k5 b5)
  have HX5 := Lib.hid (HX.out.grown b5 HE1.size)
  clear HZ HX k5 b5
  rcases Bool.eq_false_or_eq_true (ofF c).isSome with hs | hs
  · rw [hs] at HB HB2 HE'
    have he : ofE c = 0 := HE'.out
    have HR := Lib.hid (show baseG c = ttV tierL (tierG c) from HB.out)
    have HR2 := Lib.hid (show baseE c = 0 from HB2.out)
    rw [he]
    clear he hs HB HB2
    go_wp2_with fail
    refine (tiers_any w5).mono ?_
    rintro e w6 ⟨rfl, HM, HE6⟩
    go_wp2_with fail
    refine (tierG_any c w6 hc).mono ?_
    rintro e w7 ⟨rfl, rfl⟩
    go_wp2_with ((with_reducible refine wpList_tier_get ?_ (.tmp 13) (.tmp 15) ?_ w5.heap.size tierL HM (tierG c) ?_ ?_ ?_ ?_); (exact rfl); (exact rfl); (exact Nat.lt_trans hlt (by decide)); (exact rfl); (exact rfl))
    go_ret2
    refine ⟨?_, HX5.out.trans HE6⟩
    rw [HR.out, HR2.out]
    rfl
  · rw [hs] at HB HB2 HE'
    have he : ofE c = 4 := HE'.out
    have HR := Lib.hid (show baseG c = 0 from HB.out)
    have HR2 := Lib.hid (show baseE c = 220 from HB2.out)
    rw [he]
    go_wp2
    go_ret2
    refine ⟨?_, HX5.out⟩
    rw [HR.out, HR2.out]
    rfl
/-! ### The document's -/
def inL (l : List UInt8) (c : Nat) : Bool := l.any fun x => x.toNat == c
def bL1 : List UInt8 := [0, 243, 253, 254, 49, 84, 85, 241, 244, 245, 250]
def bL2 : List UInt8 := [48, 50, 51, 52, 54, 61, 66, 67, 72, 80, 90]
def bL3 : List UInt8 := [1, 3, 16, 17, 20, 21, 22, 23, 24, 25, 27, 28, 53, 55, 62, 81, 82, 83]
def bL5 : List UInt8 := [2, 4, 6, 71]
def bL10 : List UInt8 := [87, 92, 93]
def refBG (c : Nat) : Option Nat :=
  if 96 ≤ c && c ≤ 159 then some 3 else if inL bL1 c then some 0 else if c = 91 then some 1 else if inL bL2 c then some 2
  else if inL bL3 c then some 3 else if inL bL5 c then some 5 else if c = 86 then some 8 else if inL bL10 c then some 10 else if c = 32 then some 30 else none
set_option maxRecDepth 100000 in
theorem refBG_eq : ∀ c : Nat, c < 256 → refBG c = if (ofF c).isSome then some (baseG c) else none := by decide +kernel
set_option maxRecDepth 100000 in
theorem inNew (c : Nat) (L : List UInt8) (n : Nat) (w0 w : World) (hn : L.length = n) (h0 : 0 < n) (hm : n < 1000) (hc : c < 256) (hE : Ext w0 w) : Calls Tryd.prog 44 #[.int .u8 (c : Nat), .slice (some ⟨w.heap.size, 0, none⟩) n n] (w.alloc (.cells (L.map bv).toArray 5)) fun e w' => e = .returned (.bool (inL L c)) ∧ Ext w0 w' := by
  subst hn
  have hB : Bs (w.alloc (.cells (L.map bv).toArray 5)) (.slice (some ⟨w.heap.size, 0, none⟩) L.length L.length) L :=
    ⟨_, _, rfl, Nat.le_refl _, by unfold maxLen; omega, fun _ => ⟨_, 0, rfl, fun i hi => by
      rw [Nat.zero_add, World.cell?_alloc_new]
      simp [List.getD, hi]⟩⟩
  refine (inG_any c _ L _ hB hc).mono ?_
  rintro e w' ⟨rfl, rfl⟩
  exact ⟨rfl, hE.alloc _⟩
set_option maxRecDepth 100000 in
set_option maxHeartbeats 4000000 in
theorem refBaseG_any (c : Nat) (w : World) (hc : c < 256) : Calls Tryd.prog 13 #[.int .u8 (c : Nat)] w fun e w' => e = .returned (.tuple #[.int .u64 ((refBG c).getD 0 : Nat), .bool (refBG c).isSome]) ∧ Ext w w' := by
  have HD := Lib.hid (show refBG c = if 96 ≤ c && c ≤ 159 then some 3 else if inL bL1 c then some 0 else if c = 91 then some 1 else if inL bL2 c then some 2
    else if inL bL3 c then some 3 else if inL bL5 c then some 5 else if c = 86 then some 8 else if inL bL10 c then some 10 else if c = 32 then some 30 else none from rfl)
  generalize refBG c = r at *
  have HE0 := Lib.hid (Ext.refl w)
  go_enter Tryd.func13, Tryd.ntmps13
  go_wp2_with fail
  · go_ret2
    have hr := HD.out
    rw [if_pos (by simp; omega)] at hr
    subst hr
    exact ⟨rfl, HE0.out⟩
  all_goals
    replace HD := Lib.hid (HD.out.trans (if_neg (by simp; omega)))

    refine (inNew c bL1 11 w w rfl (by decide) (by decide) hc HE0.out).mono ?_
    rintro e w1 ⟨rfl, hE1⟩
    have HE1 := Lib.hid hE1
    clear hE1 HE0
    rcases Bool.eq_false_or_eq_true (inL bL1 c) with hb1 | hb1
    · rw [hb1]
      replace HD := HD.out.trans (if_pos hb1)
      subst HD
      clear hb1
      go_wp2
      go_ret2
      exact ⟨rfl, HE1.out⟩
    rw [hb1]
    replace HD := Lib.hid (HD.out.trans (if_neg (by rw [hb1]; exact Bool.false_ne_true)))
    clear hb1
    by_cases hq : c = 91
    · have hb2 : ((c : Int) == 91) = true := by rw [hq]; rfl
      replace HD := HD.out.trans (if_pos hq)
      subst HD
      clear hq
      go_wp2
      go_ret2
      exact ⟨rfl, HE1.out⟩
    have hb2 : ((c : Int) == 91) = false := by simp; omega
    replace HD := Lib.hid (HD.out.trans (if_neg hq))
    clear hq
    go_wp2_with fail
    clear hb2
    refine (inNew c bL2 11 w w1 rfl (by decide) (by decide) hc HE1.out).mono ?_
    rintro e w3 ⟨rfl, hE3⟩
    have HE3 := Lib.hid hE3
    clear hE3 HE1
    rcases Bool.eq_false_or_eq_true (inL bL2 c) with hb3 | hb3
    · rw [hb3]
      replace HD := HD.out.trans (if_pos hb3)
      subst HD
      clear hb3
      go_wp2
      go_ret2
      exact ⟨rfl, HE3.out⟩
    rw [hb3]
    replace HD := Lib.hid (HD.out.trans (if_neg (by rw [hb3]; exact Bool.false_ne_true)))
    clear hb3
    go_wp2_with fail
    refine (inNew c bL3 18 w w3 rfl (by decide) (by decide) hc HE3.out).mono ?_
    rintro e w4 ⟨rfl, hE4⟩
    have HE4 := Lib.hid hE4
    clear hE4 HE3
    rcases Bool.eq_false_or_eq_true (inL bL3 c) with hb4 | hb4
    · rw [hb4]
      replace HD := HD.out.trans (if_pos hb4)
      subst HD
      clear hb4
      go_wp2
      go_ret2
      exact ⟨rfl, HE4.out⟩
    rw [hb4]
    replace HD := Lib.hid (HD.out.trans (if_neg (by rw [hb4]; exact Bool.false_ne_true)))
    clear hb4
    go_wp2_with fail
    refine (inNew c bL5 4 w w4 rfl (by decide) (by decide) hc HE4.out).mono ?_
    rintro e w5 ⟨rfl, hE5⟩
    have HE5 := Lib.hid hE5
    clear hE5 HE4
    rcases Bool.eq_false_or_eq_true (inL bL5 c) with hb5 | hb5
    · rw [hb5]
      replace HD := HD.out.trans (if_pos hb5)
      subst HD
      clear hb5
      go_wp2
      go_ret2
      exact ⟨rfl, HE5.out⟩
    rw [hb5]
    replace HD := Lib.hid (HD.out.trans (if_neg (by rw [hb5]; exact Bool.false_ne_true)))
    clear hb5
    by_cases hq : c = 86
    · have hb6 : ((c : Int) == 86) = true := by rw [hq]; rfl
      replace HD := HD.out.trans (if_pos hq)
      subst HD
      clear hq
      go_wp2
      go_ret2
      exact ⟨rfl, HE5.out⟩
    have hb6 : ((c : Int) == 86) = false := by simp; omega
    replace HD := Lib.hid (HD.out.trans (if_neg hq))
    clear hq
    go_wp2_with fail
    clear hb6
    refine (inNew c bL10 3 w w5 rfl (by decide) (by decide) hc HE5.out).mono ?_
    rintro e w7 ⟨rfl, hE7⟩
    have HE7 := Lib.hid hE7
    clear hE7 HE5
    rcases Bool.eq_false_or_eq_true (inL bL10 c) with hb7 | hb7
    · rw [hb7]
      replace HD := HD.out.trans (if_pos hb7)
      subst HD
      clear hb7
      go_wp2
      go_ret2
      exact ⟨rfl, HE7.out⟩
    rw [hb7]
    replace HD := Lib.hid (HD.out.trans (if_neg (by rw [hb7]; exact Bool.false_ne_true)))
    clear hb7
    by_cases hq : c = 32
    · have hb8 : ((c : Int) == 32) = true := by rw [hq]; rfl
      replace HD := HD.out.trans (if_pos hq)
      subst HD
      clear hq
      go_wp2
      go_ret2
      exact ⟨rfl, HE7.out⟩
    have hb8 : ((c : Int) == 32) = false := by simp; omega
    replace HD := HD.out.trans (if_neg hq)
    subst HD
    clear hq
    go_wp2
    go_ret2
    exact ⟨rfl, HE7.out⟩
end Go.Proofs.YtjefbfabigkeiaaDoor
