/- Package ledger: which rows may be; tellers. -/
import Derived.Test.YtepggbhibpjkpaaLha
namespace Go.Proofs.Ytepggbhibpjkpaa
open Go.ChangeShapes Go.WideShapes Go.ChangeAt Go.RowKit Go.Shelf

/-- A row may be, but for its address. -/
def Hd.rowB (h : Hd) : Bool := if h.stk = 0 then decide (h.dep ≠ 0) && (decide (h.dly = 0) && decide (h.fre = 0)) else decide (0 < h.dly) && (decide (h.dly ≤ 1073741824) && decide (h.fre ≤ 1100585369600))
set_option maxRecDepth 100000 in
set_option maxHeartbeats 1000000 in
theorem mayBeH_any (h : Hd) (w : World) (hok : h.ok) : Calls Try.prog 166 #[.agg (hdc h)] w fun e w' => e = .returned (.bool h.rowB) ∧ Ext w w' := by
  have HK : Hid (Hb (w.alloc (.cells (hdc h) 97)) w.heap.size h) := Lib.hid (Cs.new _ _ _ _ rfl)
  have HE := Lib.hid ((Ext.refl w).alloc (.cells (hdc h) 97))
  have hc9 := HK.out.dly
  have hc10 := HK.out.fre
  have HD := Lib.hid HK.out.dep
  have HS := Lib.hid HK.out.stk
  have HM : Hid (h.rowB = if h.stk = 0 then decide (h.dep ≠ 0) && (decide (h.dly = 0) && decide (h.fre = 0)) else decide (0 < h.dly) && (decide (h.dly ≤ 1073741824) && decide (h.fre ≤ 1100585369600))) := Lib.hid rfl
  obtain ⟨_, o1, o2, _, _⟩ := hok
  have HO1 := Lib.hid o1
  have HO2 := Lib.hid o2
  obtain ⟨cs, hcs⟩ : ∃ cs, hdc h = cs := ⟨_, rfl⟩
  rw [hcs] at hc9 hc10 HD HS HE HK ⊢
  clear hcs o1 o2
  obtain ⟨addr, dep, stk, dly, fre⟩ := h
  dsimp only at *
  go_enter Try.func166, Try.ntmps166
  by_cases c0 : stk = 0
  · have f0_0 : (stk == 0) = true := by rw [beq_iff_eq]; exact c0
    have C0 := Lib.hid c0
    clear c0
    by_cases c1 : dep = 0
    · have f1_0 : (dep == 0) = true := by rw [beq_iff_eq]; exact c1
      have f1_1 : (dep != 0) = false := by rw [c1]; rfl
      have C1 := Lib.hid c1
      clear c1
      go_wp2_with (first
        | ((with_reducible refine wpList_load_wordIn ?_ (.tmp 3) ?_ w.heap.size 5 (stk) ?_ ?_ ?_); (exact rfl); (exact rfl); (exact rfl); (exact HS.out))
        | ((with_reducible refine wpList_eql_word ?_ (.tmp 4) (.tmp 5) ?_ (stk) (0) HO2.out (by decide) ?_ ?_ ?_); (exact rfl); (exact rfl); (exact rfl); (exact rfl))
        | ((with_reducible refine wpList_load_wordIn ?_ (.tmp 7) ?_ w.heap.size 1 (dep) ?_ ?_ ?_); (exact rfl); (exact rfl); (exact rfl); (exact HD.out))
        | ((with_reducible refine wpList_neq_word ?_ (.tmp 8) (.tmp 9) ?_ (dep) (0) HO1.out (by decide) ?_ ?_ ?_); (exact rfl); (exact rfl); (exact rfl); (exact rfl)))
      go_ret
      exact ⟨by rw [HM.out]; simp [C0.out, C1.out], HE.out⟩
    · have f1_0 : (dep == 0) = false := by rw [beq_eq_false_iff_ne]; exact c1
      have f1_1 : (dep != 0) = true := by simpa using c1
      have C1 := Lib.hid c1
      clear c1
      by_cases c2 : dly = 0
      · have f2_0 : (((dly : Nat) : Int) == 0) = true := by rw [beq_iff_eq]; omega
        have f2_1 : (dly == 0) = true := by rw [beq_iff_eq]; exact c2
        have C2 := Lib.hid c2
        clear c2
        by_cases c3 : fre = 0
        · have f3_0 : (((fre : Nat) : Int) == 0) = true := by rw [beq_iff_eq]; omega
          have f3_1 : (fre == 0) = true := by rw [beq_iff_eq]; exact c3
          have C3 := Lib.hid c3
          clear c3
          go_wp2_with (first
            | ((with_reducible refine wpList_load_wordIn ?_ (.tmp 3) ?_ w.heap.size 5 (stk) ?_ ?_ ?_); (exact rfl); (exact rfl); (exact rfl); (exact HS.out))
            | ((with_reducible refine wpList_eql_word ?_ (.tmp 4) (.tmp 5) ?_ (stk) (0) HO2.out (by decide) ?_ ?_ ?_); (exact rfl); (exact rfl); (exact rfl); (exact rfl))
            | ((with_reducible refine wpList_load_wordIn ?_ (.tmp 7) ?_ w.heap.size 1 (dep) ?_ ?_ ?_); (exact rfl); (exact rfl); (exact rfl); (exact HD.out))
            | ((with_reducible refine wpList_neq_word ?_ (.tmp 8) (.tmp 9) ?_ (dep) (0) HO1.out (by decide) ?_ ?_ ?_); (exact rfl); (exact rfl); (exact rfl); (exact rfl)))
          go_ret
          exact ⟨by rw [HM.out]; simp [C0.out, C1.out, C2.out, C3.out], HE.out⟩
        · have f3_0 : (((fre : Nat) : Int) == 0) = false := by rw [beq_eq_false_iff_ne]; omega
          have f3_1 : (fre == 0) = false := by rw [beq_eq_false_iff_ne]; exact c3
          have C3 := Lib.hid c3
          clear c3
          go_wp2_with (first
            | ((with_reducible refine wpList_load_wordIn ?_ (.tmp 3) ?_ w.heap.size 5 (stk) ?_ ?_ ?_); (exact rfl); (exact rfl); (exact rfl); (exact HS.out))
            | ((with_reducible refine wpList_eql_word ?_ (.tmp 4) (.tmp 5) ?_ (stk) (0) HO2.out (by decide) ?_ ?_ ?_); (exact rfl); (exact rfl); (exact rfl); (exact rfl))
            | ((with_reducible refine wpList_load_wordIn ?_ (.tmp 7) ?_ w.heap.size 1 (dep) ?_ ?_ ?_); (exact rfl); (exact rfl); (exact rfl); (exact HD.out))
            | ((with_reducible refine wpList_neq_word ?_ (.tmp 8) (.tmp 9) ?_ (dep) (0) HO1.out (by decide) ?_ ?_ ?_); (exact rfl); (exact rfl); (exact rfl); (exact rfl)))
          go_ret
          exact ⟨by rw [HM.out]; simp [C0.out, C1.out, C2.out, C3.out], HE.out⟩
      · have f2_0 : (((dly : Nat) : Int) == 0) = false := by rw [beq_eq_false_iff_ne]; omega
        have f2_1 : (dly == 0) = false := by rw [beq_eq_false_iff_ne]; exact c2
        have C2 := Lib.hid c2
        clear c2
        go_wp2_with (first
          | ((with_reducible refine wpList_load_wordIn ?_ (.tmp 3) ?_ w.heap.size 5 (stk) ?_ ?_ ?_); (exact rfl); (exact rfl); (exact rfl); (exact HS.out))
          | ((with_reducible refine wpList_eql_word ?_ (.tmp 4) (.tmp 5) ?_ (stk) (0) HO2.out (by decide) ?_ ?_ ?_); (exact rfl); (exact rfl); (exact rfl); (exact rfl))
          | ((with_reducible refine wpList_load_wordIn ?_ (.tmp 7) ?_ w.heap.size 1 (dep) ?_ ?_ ?_); (exact rfl); (exact rfl); (exact rfl); (exact HD.out))
          | ((with_reducible refine wpList_neq_word ?_ (.tmp 8) (.tmp 9) ?_ (dep) (0) HO1.out (by decide) ?_ ?_ ?_); (exact rfl); (exact rfl); (exact rfl); (exact rfl)))
        go_ret
        exact ⟨by rw [HM.out]; simp [C0.out, C1.out, C2.out], HE.out⟩
  · have f0_0 : (stk == 0) = false := by rw [beq_eq_false_iff_ne]; exact c0
    have C0 := Lib.hid c0
    clear c0
    by_cases c1 : 0 < dly
    · have f1_0 : (decide ((0 : Int) < ((dly : Nat) : Int))) = true := decide_eq_true (by omega)
      have f1_1 : (decide (0 < dly)) = true := decide_eq_true (by omega)
      have C1 := Lib.hid c1
      clear c1
      by_cases c2 : dly ≤ 1073741824
      · have f2_0 : (decide (((dly : Nat) : Int) ≤ 1073741824)) = true := decide_eq_true (by omega)
        have f2_1 : (decide (dly ≤ 1073741824)) = true := decide_eq_true (by omega)
        have C2 := Lib.hid c2
        clear c2
        by_cases c3 : fre ≤ 1100585369600
        · have f3_0 : (decide (((fre : Nat) : Int) ≤ 1100585369600)) = true := decide_eq_true (by omega)
          have f3_1 : (decide (fre ≤ 1100585369600)) = true := decide_eq_true (by omega)
          have C3 := Lib.hid c3
          clear c3
          go_wp2_with (first
            | ((with_reducible refine wpList_load_wordIn ?_ (.tmp 3) ?_ w.heap.size 5 (stk) ?_ ?_ ?_); (exact rfl); (exact rfl); (exact rfl); (exact HS.out))
            | ((with_reducible refine wpList_eql_word ?_ (.tmp 4) (.tmp 5) ?_ (stk) (0) HO2.out (by decide) ?_ ?_ ?_); (exact rfl); (exact rfl); (exact rfl); (exact rfl))
            | ((with_reducible refine wpList_load_wordIn ?_ (.tmp 7) ?_ w.heap.size 1 (dep) ?_ ?_ ?_); (exact rfl); (exact rfl); (exact rfl); (exact HD.out))
            | ((with_reducible refine wpList_neq_word ?_ (.tmp 8) (.tmp 9) ?_ (dep) (0) HO1.out (by decide) ?_ ?_ ?_); (exact rfl); (exact rfl); (exact rfl); (exact rfl)))
          go_ret
          exact ⟨by rw [HM.out]; simp [C0.out, C1.out, C2.out, C3.out], HE.out⟩
        · have f3_0 : (decide (((fre : Nat) : Int) ≤ 1100585369600)) = false := decide_eq_false (by omega)
          have f3_1 : (decide (fre ≤ 1100585369600)) = false := decide_eq_false (by omega)
          have C3 := Lib.hid c3
          clear c3
          go_wp2_with (first
            | ((with_reducible refine wpList_load_wordIn ?_ (.tmp 3) ?_ w.heap.size 5 (stk) ?_ ?_ ?_); (exact rfl); (exact rfl); (exact rfl); (exact HS.out))
            | ((with_reducible refine wpList_eql_word ?_ (.tmp 4) (.tmp 5) ?_ (stk) (0) HO2.out (by decide) ?_ ?_ ?_); (exact rfl); (exact rfl); (exact rfl); (exact rfl))
            | ((with_reducible refine wpList_load_wordIn ?_ (.tmp 7) ?_ w.heap.size 1 (dep) ?_ ?_ ?_); (exact rfl); (exact rfl); (exact rfl); (exact HD.out))
            | ((with_reducible refine wpList_neq_word ?_ (.tmp 8) (.tmp 9) ?_ (dep) (0) HO1.out (by decide) ?_ ?_ ?_); (exact rfl); (exact rfl); (exact rfl); (exact rfl)))
          go_ret
          exact ⟨by rw [HM.out]; simp [C0.out, C1.out, C2.out, C3.out], HE.out⟩
      · have f2_0 : (decide (((dly : Nat) : Int) ≤ 1073741824)) = false := decide_eq_false (by omega)
        have f2_1 : (decide (dly ≤ 1073741824)) = false := decide_eq_false (by omega)
        have C2 := Lib.hid c2
        clear c2
        go_wp2_with (first
          | ((with_reducible refine wpList_load_wordIn ?_ (.tmp 3) ?_ w.heap.size 5 (stk) ?_ ?_ ?_); (exact rfl); (exact rfl); (exact rfl); (exact HS.out))
          | ((with_reducible refine wpList_eql_word ?_ (.tmp 4) (.tmp 5) ?_ (stk) (0) HO2.out (by decide) ?_ ?_ ?_); (exact rfl); (exact rfl); (exact rfl); (exact rfl))
          | ((with_reducible refine wpList_load_wordIn ?_ (.tmp 7) ?_ w.heap.size 1 (dep) ?_ ?_ ?_); (exact rfl); (exact rfl); (exact rfl); (exact HD.out))
          | ((with_reducible refine wpList_neq_word ?_ (.tmp 8) (.tmp 9) ?_ (dep) (0) HO1.out (by decide) ?_ ?_ ?_); (exact rfl); (exact rfl); (exact rfl); (exact rfl)))
        go_ret
        exact ⟨by rw [HM.out]; simp [C0.out, C1.out, C2.out], HE.out⟩
    · have f1_0 : (decide ((0 : Int) < ((dly : Nat) : Int))) = false := decide_eq_false (by omega)
      have f1_1 : (decide (0 < dly)) = false := decide_eq_false (by omega)
      have C1 := Lib.hid c1
      clear c1
      go_wp2_with (first
        | ((with_reducible refine wpList_load_wordIn ?_ (.tmp 3) ?_ w.heap.size 5 (stk) ?_ ?_ ?_); (exact rfl); (exact rfl); (exact rfl); (exact HS.out))
        | ((with_reducible refine wpList_eql_word ?_ (.tmp 4) (.tmp 5) ?_ (stk) (0) HO2.out (by decide) ?_ ?_ ?_); (exact rfl); (exact rfl); (exact rfl); (exact rfl))
        | ((with_reducible refine wpList_load_wordIn ?_ (.tmp 7) ?_ w.heap.size 1 (dep) ?_ ?_ ?_); (exact rfl); (exact rfl); (exact rfl); (exact HD.out))
        | ((with_reducible refine wpList_neq_word ?_ (.tmp 8) (.tmp 9) ?_ (dep) (0) HO1.out (by decide) ?_ ?_ ?_); (exact rfl); (exact rfl); (exact rfl); (exact rfl)))
      go_ret
      exact ⟨by rw [HM.out]; simp [C0.out, C1.out], HE.out⟩
set_option maxRecDepth 100000 in
theorem lit_hd (a : Nat) : Value.agg #[.int .u64 (a : Int), .int .u64 0, .int .u64 0, .int .u64 0, .int .u64 0, .int .u64 0, .int .u64 0, .int .u64 0, .int .u64 0, .int .u64 0, .int .u64 0] = .agg (hdc ⟨a, 0, 0, 0, 0⟩) := by simp [hdc, lv, lb]
set_option maxRecDepth 100000 in
theorem M256_pos : 0 < M256 := by decide
/-- There is a stake; it is locked; the row holds something. -/
def Hd.stkB (h : Hd) : Bool := h.stk != 0
def Hd.lckB (h : Hd) : Bool := h.stkB && h.fre == 0
def Hd.hasB (h : Hd) : Bool := !h.eqB ⟨h.addr, 0, 0, 0, 0⟩
set_option maxRecDepth 100000 in
set_option maxHeartbeats 1000000 in
theorem staked_any (h : Hd) (v : Value) (w : World) (hok : h.ok) (_hv : v.oneCell' = true) : Calls Try.prog 128 #[.agg (tlc h v)] w fun e w' => e = .returned (.bool h.stkB) ∧ Ext w w' := by
  have HK : Hid (Tl (w.alloc (.cells (tlc h v) 165)) w.heap.size h v) := Lib.hid (Cs.new _ _ _ _ rfl)
  have HE := Lib.hid ((Ext.refl w).alloc (.cells (tlc h v) 165))
  have HOK := Lib.hid hok
  have HO1 := Lib.hid hok.2.2.1
  have HS := Lib.hid HK.out.stk
  have HH := Lib.hid HK.out.hd
  obtain ⟨cs, hcs⟩ : ∃ cs, tlc h v = cs := ⟨_, rfl⟩
  have HCS := Lib.hid hcs
  rw [hcs] at HE HK HS HH ⊢
  clear hcs hok
  go_enter Try.func128, Try.ntmps128
  go_wp2_with (first
    | ((with_reducible refine wpList_load_wordIn ?_ (.tmp 4) ?_ w.heap.size 5 (h.stk) ?_ ?_ ?_); (exact rfl); (exact rfl); (exact rfl); (exact HS.out))
    | ((with_reducible refine wpList_neq_word ?_ (.tmp 5) (.tmp 6) ?_ (h.stk) (0) HO1.out (by decide) ?_ ?_ ?_); (exact rfl); (exact rfl); (exact rfl); (exact rfl)))
  go_ret
  exact ⟨rfl, HE.out⟩
set_option maxRecDepth 100000 in
set_option maxHeartbeats 1000000 in
theorem holds_any (h : Hd) (v : Value) (w : World) (hok : h.ok) (_hv : v.oneCell' = true) : Calls Try.prog 160 #[.agg (tlc h v)] w fun e w' => e = .returned (.bool h.hasB) ∧ Ext w w' := by
  have HK : Hid (Tl (w.alloc (.cells (tlc h v) 165)) w.heap.size h v) := Lib.hid (Cs.new _ _ _ _ rfl)
  have HE := Lib.hid ((Ext.refl w).alloc (.cells (tlc h v) 165))
  have HOK := Lib.hid hok
  have HO1 := Lib.hid hok.2.2.1
  have HS := Lib.hid HK.out.stk
  have HH := Lib.hid HK.out.hd
  have hc0 := HK.out.addr
  obtain ⟨cs, hcs⟩ : ∃ cs, tlc h v = cs := ⟨_, rfl⟩
  have HCS := Lib.hid hcs
  rw [hcs] at HE HK HS HH hc0 ⊢
  clear hcs hok
  go_enter Try.func160, Try.ntmps160
  have HO2 := Lib.hid (show (⟨h.addr, 0, 0, 0, 0⟩ : Hd).ok from ⟨HOK.out.1, M256_pos, M256_pos, Nat.zero_lt_succ _, Nat.zero_lt_succ _⟩)
  go_wp2_with (first
    | ((with_reducible refine wpList_load_hd ?_ (.tmp 3) ?_ (w.heap.size) (0) (h) ?_ ?_ ?_); (exact rfl); (exact rfl); (exact rfl); (exact HH.out))
    | ((with_reducible refine wpList_neq_hd ?_ (.tmp 4) (.tmp 8) ?_ h ⟨h.addr, 0, 0, 0, 0⟩ HOK.out HO2.out ?_ ?_ ?_); (exact rfl); (exact rfl); (exact rfl); (exact lit_hd _)))
  go_ret
  exact ⟨rfl, HE.out⟩
set_option maxRecDepth 100000 in
set_option maxHeartbeats 1000000 in
theorem locked_any (h : Hd) (v : Value) (w : World) (hok : h.ok) (_hv : v.oneCell' = true) : Calls Try.prog 132 #[.agg (tlc h v)] w fun e w' => e = .returned (.bool h.lckB) ∧ Ext w w' := by
  have HK : Hid (Tl (w.alloc (.cells (tlc h v) 165)) w.heap.size h v) := Lib.hid (Cs.new _ _ _ _ rfl)
  have HE := Lib.hid ((Ext.refl w).alloc (.cells (tlc h v) 165))
  have HOK := Lib.hid hok
  have HO1 := Lib.hid hok.2.2.1
  have HS := Lib.hid HK.out.stk
  have HH := Lib.hid HK.out.hd
  have hc10 := HK.out.fre
  obtain ⟨cs, hcs⟩ : ∃ cs, tlc h v = cs := ⟨_, rfl⟩
  have HCS := Lib.hid hcs
  rw [hcs] at HE HK HS HH hc10 ⊢
  clear hcs hok
  go_enter Try.func132, Try.ntmps132
  have HV := Lib.hid _hv
  clear _hv
  go_wp2_with ((with_reducible refine wpList_load_tl ?_ (.tmp 1) ?_ (w.heap.size) (h) (v) ?_ ?_ ?_); (exact rfl); (exact rfl); (exact rfl); (exact HK.out))
  refine (staked_any h v _ HOK.out HV.out).mono ?_
  rintro e w2 ⟨rfl, he⟩
  have HE2 := Lib.hid (HE.out.trans he)
  have hf := he.cell hc10
  have HL : Hid (h.lckB = (h.stkB && h.fre == 0)) := Lib.hid rfl
  clear he hc10
  cases hs : h.stkB with
  | false =>
    have HSF := Lib.hid hs
    clear hs
    go_wp2_with fail
    go_ret
    exact ⟨by rw [HL.out, HSF.out]; rfl, HE2.out⟩
  | true =>
    have HSF := Lib.hid hs
    clear hs
    go_wp2_with fail
    go_ret
    exact ⟨by rw [HL.out, HSF.out, Bool.true_and, ← int_beq]; rfl, HE2.out⟩
end Go.Proofs.Ytepggbhibpjkpaa
