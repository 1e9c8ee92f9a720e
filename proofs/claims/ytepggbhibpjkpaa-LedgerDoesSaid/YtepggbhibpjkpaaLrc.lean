/- The document's Right of layer 7. -/
import Derived.Test.YtepggbhibpjkpaaLrb
namespace Go.Proofs.Ytepggbhibpjkpaa
open Go.ChangeShapes Go.WideShapes Go.ChangeAt Go.RowKit Go.Shelf

set_option maxRecDepth 100000 in
theorem rightG_row {l : List Hd} (i : Nat) (hi : i < l.length) (h : rgB l i = false) : rightG l = false := by
  have : (List.range l.length).all (rgB l) = false := by
    cases hr : (List.range l.length).all (rgB l) with
    | false => rfl
    | true => rw [List.all_eq_true] at hr; rw [hr i (List.mem_range.2 hi)] at h; cases h
  unfold rightG
  rw [this, Bool.false_and, Bool.and_false]
set_option maxRecDepth 100000 in
theorem rightG_all {l : List Hd} (h : ∀ i, i < l.length → rgB l i = true) : rightG l = (decide (l.length ≤ 24) && !(sumW (flatH l)).2) := by
  have : (List.range l.length).all (rgB l) = true := by
    rw [List.all_eq_true]
    exact fun i hi => h i (List.mem_range.1 hi)
  unfold rightG
  rw [this, Bool.true_and]
set_option maxRecDepth 100000 in
theorem rgB_row {l : List Hd} {k : Nat} (h : (l.getD k hz0).rowB = false) : rgB l k = false := by unfold rgB; rw [h, Bool.and_false]
set_option maxRecDepth 100000 in
theorem rgB_last {l : List Hd} {k : Nat} (h : (l.getD k hz0).addr ≤ lastA l k) : rgB l k = false := by unfold rgB; rw [decide_eq_false (by omega), Bool.false_and]
set_option maxRecDepth 100000 in
theorem rgB_good {l : List Hd} {k : Nat} (h : lastA l k < (l.getD k hz0).addr) (h2 : (l.getD k hz0).rowB = true) : rgB l k = true := by unfold rgB; rw [h2, decide_eq_true h]; rfl
set_option maxRecDepth 100000 in
theorem rowB_long {p : Hd} (h : 1073741824 < p.dly) : p.rowB = false := by
  unfold Hd.rowB
  split
  · rw [decide_eq_false (show ¬ p.dly = 0 by omega)]; simp
  · rw [decide_eq_false (show ¬ p.dly ≤ 1073741824 by omega)]; simp
set_option maxRecDepth 100000 in
theorem rowB_late {p : Hd} (h : 1100585369600 < p.fre) : p.rowB = false := by
  unfold Hd.rowB
  split
  · rw [decide_eq_false (show ¬ p.fre = 0 by omega)]; simp
  · rw [decide_eq_false (show ¬ p.fre ≤ 1100585369600 by omega)]; simp
set_option maxRecDepth 100000 in
theorem rowB_none {p : Hd} (h : p.stk = 0) (hd : p.dep = 0 ∨ p.dly ≠ 0 ∨ p.fre ≠ 0) : p.rowB = false := by
  unfold Hd.rowB
  rw [if_pos h]
  rcases hd with h | h | h <;> simp [h]
set_option maxRecDepth 100000 in
theorem rowB_short {p : Hd} (h : p.stk ≠ 0) (hd : p.dly = 0) : p.rowB = false := by
  unfold Hd.rowB
  rw [if_neg h, hd]
  rfl
set_option maxRecDepth 100000 in
theorem rowB_bare {p : Hd} (h : p.stk = 0) (h1 : p.dep ≠ 0) (h2 : p.dly = 0) (h3 : p.fre = 0) : p.rowB = true := by
  unfold Hd.rowB
  rw [if_pos h, h2, h3]
  simpa using h1
set_option maxRecDepth 100000 in
theorem rowB_full {p : Hd} (h : p.stk ≠ 0) (h1 : p.dly ≠ 0) (h2 : p.dly ≤ 1073741824) (h3 : p.fre ≤ 1100585369600) : p.rowB = true := by
  unfold Hd.rowB
  rw [if_neg h, decide_eq_true h2, decide_eq_true h3, decide_eq_true (show 0 < p.dly by omega)]
  rfl
set_option maxRecDepth 100000 in
set_option maxHeartbeats 8000000 in
theorem refRight_any (v : Value) (l : List Hd) (w : World) (hs : Hds w v l) : Calls Try.prog 84 #[.agg #[v]] w fun e w' => e = .returned (.bool (rightG l)) ∧ Ext w w' := by
  have HS := Lib.hid hs
  obtain ⟨A1, c1, rfl, h1, h2⟩ := hs.len
  unfold maxLen at h2
  obtain ⟨w0, hw0⟩ : ∃ w0, w.alloc (.cells #[.slice A1 l.length c1] 88) = w0 := ⟨_, rfl⟩
  have HW0 := Lib.hid hw0
  have HG : Hid (Cs w0 w.heap.size 88 #[.slice A1 l.length c1]) := Lib.hid (by rw [← hw0]; exact Cs.new _ _ _ _ rfl)
  have HE0 : Hid (Ext w w0) := Lib.hid (by rw [← hw0]; exact (Ext.refl _).alloc _)
  clear hw0 hs
  go_enter Try.func84, Try.ntmps84
  go_upto_region 1 with fail
  rw [HW0.out]
  clear HW0
  obtain ⟨gL, hgL⟩ : ∃ g, w.heap.size = g := ⟨_, rfl⟩
  rw [hgL] at HG ⊢
  clear hgL
  go_wp2_with fail
  go_loopw [3] (fun iv wr => ∃ k : Nat, k ≤ l.length ∧ iv = .int .i64 k ∧ Hid ((∀ i, i < k → rgB l i = true) ∧ Ext w0 wr)) (fun iv _ => l.length - (intOf iv).toNat)
  case atStart => exact ⟨0, by omega, rfl, Lib.hid ⟨fun i hi => absurd hi (by omega), Ext.refl _⟩⟩
  case round =>
    obtain ⟨k, hk, rfl, HJ⟩ := hrel
    have HE := Lib.hid (HE0.out.trans HJ.out.2)
    have HL1 := Lib.hid (Cs.ext HG.out HJ.out.2)
    have qL := HL1.out.cell 0 _ rfl
    by_cases hlt : k < l.length
    · have hd : decide (k < l.length) = true := decide_eq_true hlt
      have hd2 : decide ((k : Int) < (l.length : Int)) = true := decide_eq_true (by omega)
      obtain ⟨bb, oo, rfl, hrg, hp⟩ := (HS.out.ext HE.out).at k hlt
      have HR := Lib.hid hrg
      have HOK := Lib.hid hp
      have HP1 := Lib.hid hp.2.1
      have HP2 := Lib.hid hp.2.2.1
      have HBAD := Lib.hid (rightG_row k hlt)
      have HB1 := Lib.hid (rgB_row (l := l) (k := k))
      have HB2 := Lib.hid (rgB_last (l := l) (k := k))
      have HB3 := Lib.hid (rgB_good (l := l) (k := k))
      have HNX := Lib.hid (show rgB l k = true → ∀ i, i < k + 1 → rgB l i = true from fun h i hi => by
        rcases Nat.lt_or_ge i k with h1 | h1
        · exact HJ.out.1 i h1
        · obtain rfl : i = k := by omega
          exact h)
      clear hrg hp
      generalize l.getD k hz0 = p at *
      have HPO := Lib.hid (hdc_one p)
      obtain ⟨pc, hpc⟩ : ∃ pc, hdc p = pc := ⟨_, rfl⟩
      have HPC := Lib.hid hpc
      have HPS := Lib.hid (show pc.size = 11 by rw [← hpc]; rfl)
      rw [hpc] at HPO
      clear hpc
      go_upto_region 5 with (first
        | (((with_reducible refine wpList_load_hd ?_ (.tmp 17) ?_ bb (oo + k * 11) p ?_ ?_ ?_); (exact rfl); (exact rfl); (exact rfl); (exact HR.out)); rw [HPC.out])
        | ((with_reducible refine wpList_store_agg ?_ ?_ 97 (.tmp 4) (.tmp 18) ?_ hdinfo wr.heap.size (hdc hz0) pc ?_ ?_ ?_ ?_ ?_ ?_ ?_); (exact rfl); (exact rfl); (exact rfl); (exact HPO.out); (exact rfl); (exact rfl); (exact Cs.new _ _ _ _ rfl); (exact rfl); (exact HPS.out); intro w4 k4 g4; have K4 := Lib.hid k4; have HX := Lib.hid (((Ext.refl wr).alloc (.cells (hdc hz0) 97)).grown g4 (Nat.le_refl _)); clear k4 g4))
      have HKB : Hid (Hb w4 wr.heap.size p) := Lib.hid (by unfold Hb; rw [HPC.out]; exact K4.out)
      obtain ⟨g4, hg4⟩ : ∃ g, wr.heap.size = g := ⟨_, rfl⟩
      rw [hg4] at HKB ⊢
      clear hg4 K4 HPC HPS HPO HR qL
      have q0 := Hb.addr HKB.out
      have q9 := Hb.dly HKB.out
      have q10 := Hb.fre HKB.out
      have KD := Lib.hid (Hb.dep HKB.out)
      have KS := Lib.hid (Hb.stk HKB.out)
      by_cases h0 : p.addr = 0
      · have za : ((p.addr : Int) == 0) = true := by rw [beq_iff_eq]; omega
        have zb : (p.addr == 0) = true := by rw [beq_iff_eq]; omega
        have zc : ((p.addr : Int) != 0) = false := by rw [bne_eq_false_iff_eq]; omega
        have zd : (p.addr != 0) = false := by rw [bne_eq_false_iff_eq]; omega
        have HF := Lib.hid (HBAD.out (HB2.out (by rw [h0]; exact Nat.zero_le _)))
        go_wp2_with fail
        go_ret
        exact ⟨by rw [HF.out]; rfl, HE.out.trans HX.out⟩
      have za : ((p.addr : Int) == 0) = false := by rw [beq_eq_false_iff_ne]; omega
      have zb : (p.addr == 0) = false := by rw [beq_eq_false_iff_ne]; omega
      have zc : ((p.addr : Int) != 0) = true := by rw [bne_iff_ne]; omega
      have zd : (p.addr != 0) = true := by rw [bne_iff_ne]; omega
      by_cases hd : 1073741824 < p.dly
      · have ya : decide ((p.dly : Int) > 1073741824) = true := decide_eq_true (by omega)
        have yb : decide (1073741824 < (p.dly : Int)) = true := decide_eq_true (by omega)
        have yc : decide (1073741824 < p.dly) = true := decide_eq_true (by omega)
        have HF := Lib.hid (HBAD.out (HB1.out (rowB_long hd)))
        go_wp2_with fail
        go_ret
        exact ⟨by rw [HF.out]; rfl, HE.out.trans HX.out⟩
      have ya : decide ((p.dly : Int) > 1073741824) = false := decide_eq_false (by omega)
      have yb : decide (1073741824 < (p.dly : Int)) = false := decide_eq_false (by omega)
      have yc : decide (1073741824 < p.dly) = false := decide_eq_false (by omega)
      by_cases hf : 1100585369600 < p.fre
      · have xa : decide ((p.fre : Int) > 1100585369600) = true := decide_eq_true (by omega)
        have xb : decide (1100585369600 < (p.fre : Int)) = true := decide_eq_true (by omega)
        have xc : decide (1100585369600 < p.fre) = true := decide_eq_true (by omega)
        have HF := Lib.hid (HBAD.out (HB1.out (rowB_late hf)))
        go_wp2_with fail
        go_ret
        exact ⟨by rw [HF.out]; rfl, HE.out.trans HX.out⟩
      have xa : decide ((p.fre : Int) > 1100585369600) = false := decide_eq_false (by omega)
      have xb : decide (1100585369600 < (p.fre : Int)) = false := decide_eq_false (by omega)
      have xc : decide (1100585369600 < p.fre) = false := decide_eq_false (by omega)
      go_wp2_with (first
        | ((with_reducible refine wpList_load_wordIn ?_ (.tmp 33) ?_ g4 1 (p.dep) ?_ ?_ ?_); (exact rfl); (exact rfl); (exact rfl); (exact KD.out))
        | ((with_reducible refine wpList_load_wordIn ?_ (.tmp 37) ?_ g4 5 (p.stk) ?_ ?_ ?_); (exact rfl); (exact rfl); (exact rfl); (exact KS.out))
        | ((with_reducible refine wpList_load_wordIn ?_ (.tmp 42) ?_ g4 5 (p.stk) ?_ ?_ ?_); (exact rfl); (exact rfl); (exact rfl); (exact KS.out))
        | ((with_reducible refine wpList_load_wordIn ?_ (.tmp 56) ?_ g4 5 (p.stk) ?_ ?_ ?_); (exact rfl); (exact rfl); (exact rfl); (exact KS.out)))
      by_cases hp : p.dep = 0
      · refine (refNone_any p.dep _ HP1.out).mono ?_
        rintro e w5 ⟨rfl, he⟩
        rw [show decide (p.dep = 0) = true from decide_eq_true (by first | assumption | exact HS0.out | omega)]
        replace HKB := Lib.hid (show Hb w5 g4 p from Cs.ext HKB.out he)
        replace HX := Lib.hid (HX.out.trans he)
        clear he
        clear q0 q9 q10 KD KS
        have q0 := Hb.addr HKB.out
        have q9 := Hb.dly HKB.out
        have q10 := Hb.fre HKB.out
        have KD := Lib.hid (Hb.dep HKB.out)
        have KS := Lib.hid (Hb.stk HKB.out)
        go_wp2_with (first
          | ((with_reducible refine wpList_load_wordIn ?_ (.tmp 33) ?_ g4 1 (p.dep) ?_ ?_ ?_); (exact rfl); (exact rfl); (exact rfl); (exact KD.out))
          | ((with_reducible refine wpList_load_wordIn ?_ (.tmp 37) ?_ g4 5 (p.stk) ?_ ?_ ?_); (exact rfl); (exact rfl); (exact rfl); (exact KS.out))
          | ((with_reducible refine wpList_load_wordIn ?_ (.tmp 42) ?_ g4 5 (p.stk) ?_ ?_ ?_); (exact rfl); (exact rfl); (exact rfl); (exact KS.out))
          | ((with_reducible refine wpList_load_wordIn ?_ (.tmp 56) ?_ g4 5 (p.stk) ?_ ?_ ?_); (exact rfl); (exact rfl); (exact rfl); (exact KS.out)))
        by_cases hs : p.stk = 0
        · refine (refNone_any p.stk _ HP2.out).mono ?_
          rintro e w6 ⟨rfl, he⟩
          rw [show decide (p.stk = 0) = true from decide_eq_true (by first | assumption | exact HS0.out | omega)]
          replace HKB := Lib.hid (show Hb w6 g4 p from Cs.ext HKB.out he)
          replace HX := Lib.hid (HX.out.trans he)
          clear he
          have HF := Lib.hid (HBAD.out (HB1.out (rowB_none hs (.inl hp))))
          go_wp2_with fail
          go_ret
          exact ⟨by rw [HF.out]; rfl, HE.out.trans HX.out⟩
        refine (refNone_any p.stk _ HP2.out).mono ?_
        rintro e w6 ⟨rfl, he⟩
        rw [show decide (p.stk = 0) = false from decide_eq_false (by first | assumption | exact HS0.out | omega)]
        replace HKB := Lib.hid (show Hb w6 g4 p from Cs.ext HKB.out he)
        replace HX := Lib.hid (HX.out.trans he)
        clear he
        clear q0 q9 q10 KD KS
        have q0 := Hb.addr HKB.out
        have q9 := Hb.dly HKB.out
        have q10 := Hb.fre HKB.out
        have KD := Lib.hid (Hb.dep HKB.out)
        have KS := Lib.hid (Hb.stk HKB.out)
        go_wp2_with (first
          | ((with_reducible refine wpList_load_wordIn ?_ (.tmp 33) ?_ g4 1 (p.dep) ?_ ?_ ?_); (exact rfl); (exact rfl); (exact rfl); (exact KD.out))
          | ((with_reducible refine wpList_load_wordIn ?_ (.tmp 37) ?_ g4 5 (p.stk) ?_ ?_ ?_); (exact rfl); (exact rfl); (exact rfl); (exact KS.out))
          | ((with_reducible refine wpList_load_wordIn ?_ (.tmp 42) ?_ g4 5 (p.stk) ?_ ?_ ?_); (exact rfl); (exact rfl); (exact rfl); (exact KS.out))
          | ((with_reducible refine wpList_load_wordIn ?_ (.tmp 56) ?_ g4 5 (p.stk) ?_ ?_ ?_); (exact rfl); (exact rfl); (exact rfl); (exact KS.out)))
        refine (refNone_any p.stk _ HP2.out).mono ?_
        rintro e w7 ⟨rfl, he⟩
        rw [show decide (p.stk = 0) = false from decide_eq_false (by first | assumption | exact HS0.out | omega)]
        replace HKB := Lib.hid (show Hb w7 g4 p from Cs.ext HKB.out he)
        replace HX := Lib.hid (HX.out.trans he)
        clear he
        clear q0 q9 q10 KD KS
        have q0 := Hb.addr HKB.out
        have q9 := Hb.dly HKB.out
        have q10 := Hb.fre HKB.out
        have KD := Lib.hid (Hb.dep HKB.out)
        have KS := Lib.hid (Hb.stk HKB.out)
        by_cases hl : p.dly = 0
        · have ua : ((p.dly : Int) == 0) = true := by rw [beq_iff_eq]; omega
          have ub : (p.dly == 0) = true := by rw [beq_iff_eq]; omega
          have uc : ((p.dly : Int) != 0) = false := by rw [bne_eq_false_iff_eq]; omega
          have ud : (p.dly != 0) = false := by rw [bne_eq_false_iff_eq]; omega
          go_wp2_with (first
            | ((with_reducible refine wpList_load_wordIn ?_ (.tmp 33) ?_ g4 1 (p.dep) ?_ ?_ ?_); (exact rfl); (exact rfl); (exact rfl); (exact KD.out))
            | ((with_reducible refine wpList_load_wordIn ?_ (.tmp 37) ?_ g4 5 (p.stk) ?_ ?_ ?_); (exact rfl); (exact rfl); (exact rfl); (exact KS.out))
            | ((with_reducible refine wpList_load_wordIn ?_ (.tmp 42) ?_ g4 5 (p.stk) ?_ ?_ ?_); (exact rfl); (exact rfl); (exact rfl); (exact KS.out))
            | ((with_reducible refine wpList_load_wordIn ?_ (.tmp 56) ?_ g4 5 (p.stk) ?_ ?_ ?_); (exact rfl); (exact rfl); (exact rfl); (exact KS.out)))
          refine (refNone_any p.stk _ HP2.out).mono ?_
          rintro e w8 ⟨rfl, he⟩
          rw [show decide (p.stk = 0) = false from decide_eq_false (by first | assumption | exact HS0.out | omega)]
          replace HKB := Lib.hid (show Hb w8 g4 p from Cs.ext HKB.out he)
          replace HX := Lib.hid (HX.out.trans he)
          clear he
          clear q0 q9 q10 KD KS
          have q0 := Hb.addr HKB.out
          have q9 := Hb.dly HKB.out
          have q10 := Hb.fre HKB.out
          have KD := Lib.hid (Hb.dep HKB.out)
          have KS := Lib.hid (Hb.stk HKB.out)
          have HF := Lib.hid (HBAD.out (HB1.out (rowB_short hs hl)))
          go_wp2_with fail
          go_ret
          exact ⟨by rw [HF.out]; rfl, HE.out.trans HX.out⟩
        have ua : ((p.dly : Int) == 0) = false := by rw [beq_eq_false_iff_ne]; omega
        have ub : (p.dly == 0) = false := by rw [beq_eq_false_iff_ne]; omega
        have uc : ((p.dly : Int) != 0) = true := by rw [bne_iff_ne]; omega
        have ud : (p.dly != 0) = true := by rw [bne_iff_ne]; omega
        go_wp2_with (first
          | ((with_reducible refine wpList_load_wordIn ?_ (.tmp 33) ?_ g4 1 (p.dep) ?_ ?_ ?_); (exact rfl); (exact rfl); (exact rfl); (exact KD.out))
          | ((with_reducible refine wpList_load_wordIn ?_ (.tmp 37) ?_ g4 5 (p.stk) ?_ ?_ ?_); (exact rfl); (exact rfl); (exact rfl); (exact KS.out))
          | ((with_reducible refine wpList_load_wordIn ?_ (.tmp 42) ?_ g4 5 (p.stk) ?_ ?_ ?_); (exact rfl); (exact rfl); (exact rfl); (exact KS.out))
          | ((with_reducible refine wpList_load_wordIn ?_ (.tmp 56) ?_ g4 5 (p.stk) ?_ ?_ ?_); (exact rfl); (exact rfl); (exact rfl); (exact KS.out)))
        refine (refNone_any p.stk _ HP2.out).mono ?_
        rintro e w8 ⟨rfl, he⟩
        rw [show decide (p.stk = 0) = false from decide_eq_false (by first | assumption | exact HS0.out | omega)]
        replace HKB := Lib.hid (show Hb w8 g4 p from Cs.ext HKB.out he)
        replace HX := Lib.hid (HX.out.trans he)
        clear he
        clear q0 q9 q10 KD KS
        have q0 := Hb.addr HKB.out
        have q9 := Hb.dly HKB.out
        have q10 := Hb.fre HKB.out
        have KD := Lib.hid (Hb.dep HKB.out)
        have KS := Lib.hid (Hb.stk HKB.out)
        have HGOOD := Lib.hid (rowB_full hs hl (by omega) (by omega))
        go_upto_region 9 with fail
        clear q0 q9 q10 KD KS za zb zc zd ya yb yc xa xb xc ua ub uc ud
        have HL8 := Lib.hid (Cs.ext HL1.out HX.out)
        by_cases hk0 : k = 0
        case pos =>
          have HN := Lib.hid (HNX.out (HB3.out (by unfold lastA; rw [if_pos hk0]; omega) HGOOD.out))
          have hga : decide ((k : Int) > 0) = false := decide_eq_false (by omega)
          have hgb : decide (0 < k) = false := decide_eq_false (by omega)
          have hgc : decide ((0 : Int) < (k : Int)) = false := decide_eq_false (by omega)
          clear hk0
          refine wp_named fun a0 ha0 => ?_
          obtain ⟨fr, hfr⟩ : ∃ fr : (Nat → Value) → Act, ∀ V, fr V = ((((((((((((((a0.put (some 66) (V 0)).put (some 67) (V 1)).put (some 68) (V 2)).put (some 69) (V 3)).put (some 70) (V 4)).put (some 71) (V 5)).put (some 72) (V 6)).put (some 73) (V 7)).put (some 74) (V 8)).put (some 75) (V 9)).put (some 76) (V 10)).put (some 77) (V 11)).put (some 78) (V 12)).put (some 79) (V 13)) := ⟨fun V => ((((((((((((((a0.put (some 66) (V 0)).put (some 67) (V 1)).put (some 68) (V 2)).put (some 69) (V 3)).put (some 70) (V 4)).put (some 71) (V 5)).put (some 72) (V 6)).put (some 73) (V 7)).put (some 74) (V 8)).put (some 75) (V 9)).put (some 76) (V 10)).put (some 77) (V 11)).put (some 78) (V 12)).put (some 79) (V 13)), fun _ => rfl⟩
          rw [ha0] at hfr
          simp only [Act.put, List.setIfInBounds_toArray, List.set_cons_zero, List.set_cons_succ] at hfr
          have HFR := Lib.hid hfr
          clear hfr
          refine wp_region_inv (by kernel_rfl) (by kernel_rfl) (fun L A W => ∃ V : Nat → Value, A = fr V ∧ Vals (fun j => ([some (.int .i64 k), some (.bool false), some (.bool false), some (undef), some (undef), some (undef), some (undef), some (undef), some (undef), some (undef), some (undef), some (undef), some (undef), some (.bool false)] : List (Option Value)).getD j none) L V ∧ (Ext w8 W)) ?_ ⟨?_, ?_, ?_, ?_, ?_, ?_, ?_, ?_, ?_, ?_, ?_, ?_, ?_, ?_, trivial⟩ ?_
          · refine ⟨fun j => a0.tmps.getD (([66, 67, 68, 69, 70, 71, 72, 73, 74, 75, 76, 77, 78, 79] : List Nat).getD j 0) undef, ?_, Vals.no _ _ _ (far_none _ _ rfl), (Ext.refl _).drew⟩
            rw [HFR.out, ha0]
            rfl
          all_goals clear ha0
          · rintro L A W K hL hC hW ⟨V, rfl, HV, s0⟩ hK
            have H := Lib.hid (show ∀ W', Ext W W' → K (fr (upd V 0 (.int .i64 k))) W' from fun W' he => hK _ _ ⟨upd V 0 (.int .i64 k), rfl, HV.up 0 _ (fun x hx => Option.some.inj hx), Ext.trans s0 he⟩)
            clear hK hC hW hL HV s0
            rw [HFR.out]
            go_wp2_with fail
            show K _ _
            have := H.out _ (Ext.refl _)
            rw [HFR.out] at this
            exact this
          · rintro L A W K hL hC hW ⟨V, rfl, HV, s0⟩ hK
            have e0 : V 0 = .int .i64 k := HV 0 _ rfl (hW 0 rfl)
            have H := Lib.hid (show ∀ W', Ext W W' → K (fr (upd V 1 (.bool false))) W' from fun W' he => hK _ _ ⟨upd V 1 (.bool false), rfl, HV.up 1 _ (fun x hx => Option.some.inj hx), Ext.trans s0 he⟩)
            have HU := Lib.hid (show (upd V 1 (.bool false)) 0 = .int .i64 k from e0)
            clear hK hC hW hL HV s0
            rw [HFR.out]
            rw [e0]
            clear e0
            go_wp2_with fail
            show K _ _
            have := H.out _ (Ext.refl _)
            rw [HFR.out] at this
            obtain u0 := HU.out
            rw [u0] at this
            exact this
          · rintro L A W K hL hC hW ⟨V, rfl, HV, s0⟩ hK
            have e1 : V 1 = .bool false := HV 1 _ rfl (hW 1 rfl)
            have H := Lib.hid (show ∀ W', Ext W W' → K (fr (upd V 2 (.bool false))) W' from fun W' he => hK _ _ ⟨upd V 2 (.bool false), rfl, HV.up 2 _ (fun x hx => Option.some.inj hx), Ext.trans s0 he⟩)
            have HU := Lib.hid (show (upd V 2 (.bool false)) 1 = .bool false from e1)
            clear hK hC hW hL HV s0
            rw [HFR.out]
            rw [e1]
            clear e1
            go_wp2_with fail
            show K _ _
            have := H.out _ (Ext.refl _)
            rw [HFR.out] at this
            obtain u1 := HU.out
            rw [u1] at this
            exact this
          · rintro L A W K hL hC hW ⟨V, rfl, HV, s0⟩ hK
            have e2 : V 2 = .bool false := HV 2 _ rfl (hW 2 rfl)
            have H := Lib.hid (show ∀ W', Ext W W' → K (fr (upd V 3 (undef))) W' from fun W' he => hK _ _ ⟨upd V 3 (undef), rfl, HV.up 3 _ (fun x hx => Option.some.inj hx), Ext.trans s0 he⟩)
            have HU := Lib.hid (show (upd V 3 (undef)) 2 = .bool false from e2)
            clear hK hC hW hL HV s0
            rw [HFR.out]
            rw [e2]
            clear e2
            go_wp2_with fail
            show K _ _
            have := H.out _ (Ext.refl _)
            rw [HFR.out] at this
            obtain u2 := HU.out
            rw [u2] at this
            exact this
          · rintro L A W K hL hC hW ⟨V, rfl, HV, s0⟩ hK
            have e2 : V 2 = .bool false := HV 2 _ rfl (hW 2 rfl)
            have e3 : V 3 = undef := HV 3 _ rfl (hW 3 rfl)
            have H := Lib.hid (show ∀ W', Ext W W' → K (fr (upd V 4 (undef))) W' from fun W' he => hK _ _ ⟨upd V 4 (undef), rfl, HV.up 4 _ (fun x hx => Option.some.inj hx), Ext.trans s0 he⟩)
            have HU := Lib.hid (show (upd V 4 (undef)) 2 = .bool false ∧ (upd V 4 (undef)) 3 = undef from ⟨e2, e3⟩)
            clear hK hC hW hL HV s0
            rw [HFR.out]
            rw [e2, e3]
            clear e2 e3
            go_wp2_with fail
            show K _ _
            have := H.out _ (Ext.refl _)
            rw [HFR.out] at this
            obtain ⟨u2, u3⟩ := HU.out
            rw [u2, u3] at this
            exact this
          · rintro L A W K hL hC hW ⟨V, rfl, HV, s0⟩ hK
            have e2 : V 2 = .bool false := HV 2 _ rfl (hW 2 rfl)
            have H := Lib.hid (show ∀ W', Ext W W' → K (fr (upd V 5 (undef))) W' from fun W' he => hK _ _ ⟨upd V 5 (undef), rfl, HV.up 5 _ (fun x hx => Option.some.inj hx), Ext.trans s0 he⟩)
            have HU := Lib.hid (show (upd V 5 (undef)) 2 = .bool false from e2)
            clear hK hC hW hL HV s0
            rw [HFR.out]
            rw [e2]
            clear e2
            go_wp2_with fail
            show K _ _
            have := H.out _ (Ext.refl _)
            rw [HFR.out] at this
            obtain u2 := HU.out
            rw [u2] at this
            exact this
          · rintro L A W K hL hC hW ⟨V, rfl, HV, s0⟩ hK
            have e2 : V 2 = .bool false := HV 2 _ rfl (hW 2 rfl)
            have e5 : V 5 = undef := HV 5 _ rfl (hW 5 rfl)
            have H := Lib.hid (show ∀ W', Ext W W' → K (fr (upd V 6 (undef))) W' from fun W' he => hK _ _ ⟨upd V 6 (undef), rfl, HV.up 6 _ (fun x hx => Option.some.inj hx), Ext.trans s0 he⟩)
            have HU := Lib.hid (show (upd V 6 (undef)) 2 = .bool false ∧ (upd V 6 (undef)) 5 = undef from ⟨e2, e5⟩)
            clear hK hC hW hL HV s0
            rw [HFR.out]
            rw [e2, e5]
            clear e2 e5
            go_wp2_with fail
            show K _ _
            have := H.out _ (Ext.refl _)
            rw [HFR.out] at this
            obtain ⟨u2, u5⟩ := HU.out
            rw [u2, u5] at this
            exact this
          · rintro L A W K hL hC hW ⟨V, rfl, HV, s0⟩ hK
            have e2 : V 2 = .bool false := HV 2 _ rfl (hW 2 rfl)
            have e4 : V 4 = undef := HV 4 _ rfl (hW 4 rfl)
            have e6 : V 6 = undef := HV 6 _ rfl (hW 6 rfl)
            have H := Lib.hid (show ∀ W', Ext W W' → K (fr (upd V 7 (undef))) W' from fun W' he => hK _ _ ⟨upd V 7 (undef), rfl, HV.up 7 _ (fun x hx => Option.some.inj hx), Ext.trans s0 he⟩)
            have HU := Lib.hid (show (upd V 7 (undef)) 2 = .bool false ∧ (upd V 7 (undef)) 4 = undef ∧ (upd V 7 (undef)) 6 = undef from ⟨e2, e4, e6⟩)
            clear hK hC hW hL HV s0
            rw [HFR.out]
            rw [e2, e4, e6]
            clear e2 e4 e6
            go_wp2_with fail
            show K _ _
            have := H.out _ (Ext.refl _)
            rw [HFR.out] at this
            obtain ⟨u2, u4, u6⟩ := HU.out
            rw [u2, u4, u6] at this
            exact this
          · rintro L A W K hL hC hW ⟨V, rfl, HV, s0⟩ hK
            have e2 : V 2 = .bool false := HV 2 _ rfl (hW 2 rfl)
            have e7 : V 7 = undef := HV 7 _ rfl (hW 7 rfl)
            have H := Lib.hid (show ∀ W', Ext W W' → K (fr (upd V 8 (undef))) W' from fun W' he => hK _ _ ⟨upd V 8 (undef), rfl, HV.up 8 _ (fun x hx => Option.some.inj hx), Ext.trans s0 he⟩)
            have HU := Lib.hid (show (upd V 8 (undef)) 2 = .bool false ∧ (upd V 8 (undef)) 7 = undef from ⟨e2, e7⟩)
            clear hK hC hW hL HV s0
            rw [HFR.out]
            rw [e2, e7]
            clear e2 e7
            go_wp2_with fail
            show K _ _
            have := H.out _ (Ext.refl _)
            rw [HFR.out] at this
            obtain ⟨u2, u7⟩ := HU.out
            rw [u2, u7] at this
            exact this
          · rintro L A W K hL hC hW ⟨V, rfl, HV, s0⟩ hK
            have e2 : V 2 = .bool false := HV 2 _ rfl (hW 2 rfl)
            have e8 : V 8 = undef := HV 8 _ rfl (hW 8 rfl)
            have H := Lib.hid (show ∀ W', Ext W W' → K (fr (upd V 9 (undef))) W' from fun W' he => hK _ _ ⟨upd V 9 (undef), rfl, HV.up 9 _ (fun x hx => Option.some.inj hx), Ext.trans s0 he⟩)
            have HU := Lib.hid (show (upd V 9 (undef)) 2 = .bool false ∧ (upd V 9 (undef)) 8 = undef from ⟨e2, e8⟩)
            clear hK hC hW hL HV s0
            rw [HFR.out]
            rw [e2, e8]
            clear e2 e8
            go_wp2_with fail
            show K _ _
            have := H.out _ (Ext.refl _)
            rw [HFR.out] at this
            obtain ⟨u2, u8⟩ := HU.out
            rw [u2, u8] at this
            exact this
          · rintro L A W K hL hC hW ⟨V, rfl, HV, s0⟩ hK
            have e2 : V 2 = .bool false := HV 2 _ rfl (hW 2 rfl)
            have H := Lib.hid (show ∀ W', Ext W W' → K (fr (upd V 10 (undef))) W' from fun W' he => hK _ _ ⟨upd V 10 (undef), rfl, HV.up 10 _ (fun x hx => Option.some.inj hx), Ext.trans s0 he⟩)
            have HU := Lib.hid (show (upd V 10 (undef)) 2 = .bool false from e2)
            clear hK hC hW hL HV s0
            rw [HFR.out]
            rw [e2]
            clear e2
            go_wp2_with fail
            show K _ _
            have := H.out _ (Ext.refl _)
            rw [HFR.out] at this
            obtain u2 := HU.out
            rw [u2] at this
            exact this
          · rintro L A W K hL hC hW ⟨V, rfl, HV, s0⟩ hK
            have e2 : V 2 = .bool false := HV 2 _ rfl (hW 2 rfl)
            have e10 : V 10 = undef := HV 10 _ rfl (hW 10 rfl)
            have H := Lib.hid (show ∀ W', Ext W W' → K (fr (upd V 11 (undef))) W' from fun W' he => hK _ _ ⟨upd V 11 (undef), rfl, HV.up 11 _ (fun x hx => Option.some.inj hx), Ext.trans s0 he⟩)
            have HU := Lib.hid (show (upd V 11 (undef)) 2 = .bool false ∧ (upd V 11 (undef)) 10 = undef from ⟨e2, e10⟩)
            clear hK hC hW hL HV s0
            rw [HFR.out]
            rw [e2, e10]
            clear e2 e10
            go_wp2_with fail
            show K _ _
            have := H.out _ (Ext.refl _)
            rw [HFR.out] at this
            obtain ⟨u2, u10⟩ := HU.out
            rw [u2, u10] at this
            exact this
          · rintro L A W K hL hC hW ⟨V, rfl, HV, s0⟩ hK
            have e2 : V 2 = .bool false := HV 2 _ rfl (hW 2 rfl)
            have e9 : V 9 = undef := HV 9 _ rfl (hW 9 rfl)
            have e11 : V 11 = undef := HV 11 _ rfl (hW 11 rfl)
            have H := Lib.hid (show ∀ W', Ext W W' → K (fr (upd V 12 (undef))) W' from fun W' he => hK _ _ ⟨upd V 12 (undef), rfl, HV.up 12 _ (fun x hx => Option.some.inj hx), Ext.trans s0 he⟩)
            have HU := Lib.hid (show (upd V 12 (undef)) 2 = .bool false ∧ (upd V 12 (undef)) 9 = undef ∧ (upd V 12 (undef)) 11 = undef from ⟨e2, e9, e11⟩)
            clear hK hC hW hL HV s0
            rw [HFR.out]
            rw [e2, e9, e11]
            clear e2 e9 e11
            go_wp2_with fail
            show K _ _
            have := H.out _ (Ext.refl _)
            rw [HFR.out] at this
            obtain ⟨u2, u9, u11⟩ := HU.out
            rw [u2, u9, u11] at this
            exact this
          · rintro L A W K hL hC hW ⟨V, rfl, HV, s0⟩ hK
            have e2 : V 2 = .bool false := HV 2 _ rfl (hW 2 rfl)
            have e12 : V 12 = undef := HV 12 _ rfl (hW 12 rfl)
            have H := Lib.hid (show ∀ W', Ext W W' → K (fr (upd V 13 (.bool false))) W' from fun W' he => hK _ _ ⟨upd V 13 (.bool false), rfl, HV.up 13 _ (fun x hx => Option.some.inj hx), Ext.trans s0 he⟩)
            have HU := Lib.hid (show (upd V 13 (.bool false)) 2 = .bool false ∧ (upd V 13 (.bool false)) 12 = undef from ⟨e2, e12⟩)
            clear hK hC hW hL HV s0
            rw [HFR.out]
            rw [e2, e12]
            clear e2 e12
            go_wp2_with fail
            show K _ _
            have := H.out _ (Ext.refl _)
            rw [HFR.out] at this
            obtain ⟨u2, u12⟩ := HU.out
            rw [u2, u12] at this
            exact this
          · rintro L A W hL ⟨V, rfl, HV, s0⟩
            have e0 : V 0 = .int .i64 k := HV 0 _ rfl (hL 0 (by simp))
            have e1 : V 1 = .bool false := HV 1 _ rfl (hL 1 (by simp))
            have e2 : V 2 = .bool false := HV 2 _ rfl (hL 2 (by simp))
            have e3 : V 3 = undef := HV 3 _ rfl (hL 3 (by simp))
            have e4 : V 4 = undef := HV 4 _ rfl (hL 4 (by simp))
            have e5 : V 5 = undef := HV 5 _ rfl (hL 5 (by simp))
            have e6 : V 6 = undef := HV 6 _ rfl (hL 6 (by simp))
            have e7 : V 7 = undef := HV 7 _ rfl (hL 7 (by simp))
            have e8 : V 8 = undef := HV 8 _ rfl (hL 8 (by simp))
            have e9 : V 9 = undef := HV 9 _ rfl (hL 9 (by simp))
            have e10 : V 10 = undef := HV 10 _ rfl (hL 10 (by simp))
            have e11 : V 11 = undef := HV 11 _ rfl (hL 11 (by simp))
            have e12 : V 12 = undef := HV 12 _ rfl (hL 12 (by simp))
            have e13 : V 13 = .bool false := HV 13 _ rfl (hL 13 (by simp))
            have hA := s0
            rw [HFR.out]
            rw [e0, e1, e2, e3, e4, e5, e6, e7, e8, e9, e10, e11, e12, e13]
            clear hL HV HFR e0 e1 e2 e3 e4 e5 e6 e7 e8 e9 e10 e11 e12 e13 s0
            have HA4 := Lib.hid hA
            clear hA
            go_wp2_with fail
            exact ⟨⟨k + 1, by omega, by go_num, Lib.hid ⟨HN.out, HJ.out.2.trans (HX.out.trans HA4.out)⟩⟩, by simp [intOf]; omega⟩
        have hga : decide ((k : Int) > 0) = true := decide_eq_true (by omega)
        have hgb : decide (0 < k) = true := decide_eq_true (by omega)
        have hgc : decide ((0 : Int) < (k : Int)) = true := decide_eq_true (by omega)
        obtain ⟨b', o', e', x0, hp0⟩ := (HS.out.ext (HE.out.trans HX.out)).at (k - 1) (by omega)
        injection e' with e'
        injection e' with e1' e2' _
        subst e1' e2'
        have X0 := Lib.hid (hd_addr x0)
        have HLA := Lib.hid (show lastA l k = (l.getD (k - 1) hz0).addr by unfold lastA; rw [if_neg hk0])
        generalize l.getD (k - 1) hz0 = p0 at *
        obtain ⟨m, hm⟩ : ∃ m, k - 1 = m := ⟨_, rfl⟩
        rw [hm] at X0
        have hsub : ((k : Nat) : Int) - 1 = (m : Int) := by omega
        have hmb : m < l.length := by omega
        have hmb2 : decide (m < l.length) = true := decide_eq_true hmb
        have hmb3 : decide ((m : Int) < (l.length : Int)) = true := decide_eq_true (by omega)
        have hp01 := hp0.1
        clear x0 hm hp0 hk0
        by_cases hlt2 : p0.addr < p.addr
        · have hgd : decide ((p0.addr : Int) ≥ (p.addr : Int)) = false := decide_eq_false (by omega)
          have hge : decide ((p.addr : Int) ≤ (p0.addr : Int)) = false := decide_eq_false (by omega)
          have hgf : decide (p.addr ≤ p0.addr) = false := decide_eq_false (by omega)
          have HN := Lib.hid (HNX.out (HB3.out (by rw [HLA.out]; exact hlt2) HGOOD.out))
          clear hlt2
          refine wp_named fun a0 ha0 => ?_
          obtain ⟨fr, hfr⟩ : ∃ fr : (Nat → Value) → Act, ∀ V, fr V = ((((((((((((((a0.put (some 66) (V 0)).put (some 67) (V 1)).put (some 68) (V 2)).put (some 69) (V 3)).put (some 70) (V 4)).put (some 71) (V 5)).put (some 72) (V 6)).put (some 73) (V 7)).put (some 74) (V 8)).put (some 75) (V 9)).put (some 76) (V 10)).put (some 77) (V 11)).put (some 78) (V 12)).put (some 79) (V 13)) := ⟨fun V => ((((((((((((((a0.put (some 66) (V 0)).put (some 67) (V 1)).put (some 68) (V 2)).put (some 69) (V 3)).put (some 70) (V 4)).put (some 71) (V 5)).put (some 72) (V 6)).put (some 73) (V 7)).put (some 74) (V 8)).put (some 75) (V 9)).put (some 76) (V 10)).put (some 77) (V 11)).put (some 78) (V 12)).put (some 79) (V 13)), fun _ => rfl⟩
          rw [ha0] at hfr
          simp only [Act.put, List.setIfInBounds_toArray, List.set_cons_zero, List.set_cons_succ] at hfr
          have HFR := Lib.hid hfr
          clear hfr
          refine wp_region_inv (by kernel_rfl) (by kernel_rfl) (fun L A W => ∃ V : Nat → Value, A = fr V ∧ Vals (fun j => ([some (.int .i64 k), some (.bool true), some (.bool true), some (.pointer (some ⟨gL, 0, none⟩)), some (.slice (some ⟨bb, oo, none⟩) l.length c1), some (.int .i64 k), some (.int .i64 m), some (.pointer (some ⟨bb, oo + m * 11, none⟩)), some (.pointer (some ⟨bb, oo + m * 11, none⟩)), some (.int .u64 (p0.addr : Nat)), some (.pointer (some ⟨g4, 0, none⟩)), some (.int .u64 (p.addr : Nat)), some (.bool false), some (.bool false)] : List (Option Value)).getD j none) L V ∧ (Ext w8 W)) ?_ ⟨?_, ?_, ?_, ?_, ?_, ?_, ?_, ?_, ?_, ?_, ?_, ?_, ?_, ?_, trivial⟩ ?_
          · refine ⟨fun j => a0.tmps.getD (([66, 67, 68, 69, 70, 71, 72, 73, 74, 75, 76, 77, 78, 79] : List Nat).getD j 0) undef, ?_, Vals.no _ _ _ (far_none _ _ rfl), (Ext.refl _).drew⟩
            rw [HFR.out, ha0]
            rfl
          all_goals clear ha0
          · rintro L A W K hL hC hW ⟨V, rfl, HV, s0⟩ hK
            have H := Lib.hid (show ∀ W', Ext W W' → K (fr (upd V 0 (.int .i64 k))) W' from fun W' he => hK _ _ ⟨upd V 0 (.int .i64 k), rfl, HV.up 0 _ (fun x hx => Option.some.inj hx), Ext.trans s0 he⟩)
            clear hK hC hW hL HV s0
            rw [HFR.out]
            go_wp2_with fail
            show K _ _
            have := H.out _ (Ext.refl _)
            rw [HFR.out] at this
            exact this
          · rintro L A W K hL hC hW ⟨V, rfl, HV, s0⟩ hK
            have e0 : V 0 = .int .i64 k := HV 0 _ rfl (hW 0 rfl)
            have H := Lib.hid (show ∀ W', Ext W W' → K (fr (upd V 1 (.bool true))) W' from fun W' he => hK _ _ ⟨upd V 1 (.bool true), rfl, HV.up 1 _ (fun x hx => Option.some.inj hx), Ext.trans s0 he⟩)
            have HU := Lib.hid (show (upd V 1 (.bool true)) 0 = .int .i64 k from e0)
            clear hK hC hW hL HV s0
            rw [HFR.out]
            rw [e0]
            clear e0
            go_wp2_with fail
            show K _ _
            have := H.out _ (Ext.refl _)
            rw [HFR.out] at this
            obtain u0 := HU.out
            rw [u0] at this
            exact this
          · rintro L A W K hL hC hW ⟨V, rfl, HV, s0⟩ hK
            have e1 : V 1 = .bool true := HV 1 _ rfl (hW 1 rfl)
            have H := Lib.hid (show ∀ W', Ext W W' → K (fr (upd V 2 (.bool true))) W' from fun W' he => hK _ _ ⟨upd V 2 (.bool true), rfl, HV.up 2 _ (fun x hx => Option.some.inj hx), Ext.trans s0 he⟩)
            have HU := Lib.hid (show (upd V 2 (.bool true)) 1 = .bool true from e1)
            clear hK hC hW hL HV s0
            rw [HFR.out]
            rw [e1]
            clear e1
            go_wp2_with fail
            show K _ _
            have := H.out _ (Ext.refl _)
            rw [HFR.out] at this
            obtain u1 := HU.out
            rw [u1] at this
            exact this
          · rintro L A W K hL hC hW ⟨V, rfl, HV, s0⟩ hK
            have e2 : V 2 = .bool true := HV 2 _ rfl (hW 2 rfl)
            have H := Lib.hid (show ∀ W', Ext W W' → K (fr (upd V 3 (.pointer (some ⟨gL, 0, none⟩)))) W' from fun W' he => hK _ _ ⟨upd V 3 (.pointer (some ⟨gL, 0, none⟩)), rfl, HV.up 3 _ (fun x hx => Option.some.inj hx), Ext.trans s0 he⟩)
            have HU := Lib.hid (show (upd V 3 (.pointer (some ⟨gL, 0, none⟩))) 2 = .bool true from e2)
            clear hK hC hW hL HV s0
            rw [HFR.out]
            rw [e2]
            clear e2
            go_wp2_with fail
            show K _ _
            have := H.out _ (Ext.refl _)
            rw [HFR.out] at this
            obtain u2 := HU.out
            rw [u2] at this
            exact this
          · rintro L A W K hL hC hW ⟨V, rfl, HV, s0⟩ hK
            have e2 : V 2 = .bool true := HV 2 _ rfl (hW 2 rfl)
            have e3 : V 3 = .pointer (some ⟨gL, 0, none⟩) := HV 3 _ rfl (hW 3 rfl)
            have hB := s0
            have H := Lib.hid (show ∀ W', Ext W W' → K (fr (upd V 4 (.slice (some ⟨bb, oo, none⟩) l.length c1))) W' from fun W' he => hK _ _ ⟨upd V 4 (.slice (some ⟨bb, oo, none⟩) l.length c1), rfl, HV.up 4 _ (fun x hx => Option.some.inj hx), Ext.trans s0 he⟩)
            have HU := Lib.hid (show (upd V 4 (.slice (some ⟨bb, oo, none⟩) l.length c1)) 2 = .bool true ∧ (upd V 4 (.slice (some ⟨bb, oo, none⟩) l.length c1)) 3 = .pointer (some ⟨gL, 0, none⟩) from ⟨e2, e3⟩)
            clear hK hC hW hL HV s0
            rw [HFR.out]
            rw [e2, e3]
            clear e2 e3
            have hcl := (Cs.ext HL8.out hB).cell 0 _ rfl
            clear hB
            go_wp2_with fail
            show K _ _
            have := H.out _ (Ext.refl _)
            rw [HFR.out] at this
            obtain ⟨u2, u3⟩ := HU.out
            rw [u2, u3] at this
            exact this
          · rintro L A W K hL hC hW ⟨V, rfl, HV, s0⟩ hK
            have e2 : V 2 = .bool true := HV 2 _ rfl (hW 2 rfl)
            have H := Lib.hid (show ∀ W', Ext W W' → K (fr (upd V 5 (.int .i64 k))) W' from fun W' he => hK _ _ ⟨upd V 5 (.int .i64 k), rfl, HV.up 5 _ (fun x hx => Option.some.inj hx), Ext.trans s0 he⟩)
            have HU := Lib.hid (show (upd V 5 (.int .i64 k)) 2 = .bool true from e2)
            clear hK hC hW hL HV s0
            rw [HFR.out]
            rw [e2]
            clear e2
            go_wp2_with fail
            show K _ _
            have := H.out _ (Ext.refl _)
            rw [HFR.out] at this
            obtain u2 := HU.out
            rw [u2] at this
            exact this
          · rintro L A W K hL hC hW ⟨V, rfl, HV, s0⟩ hK
            have e2 : V 2 = .bool true := HV 2 _ rfl (hW 2 rfl)
            have e5 : V 5 = .int .i64 k := HV 5 _ rfl (hW 5 rfl)
            have H := Lib.hid (show ∀ W', Ext W W' → K (fr (upd V 6 (.int .i64 m))) W' from fun W' he => hK _ _ ⟨upd V 6 (.int .i64 m), rfl, HV.up 6 _ (fun x hx => Option.some.inj hx), Ext.trans s0 he⟩)
            have HU := Lib.hid (show (upd V 6 (.int .i64 m)) 2 = .bool true ∧ (upd V 6 (.int .i64 m)) 5 = .int .i64 k from ⟨e2, e5⟩)
            clear hK hC hW hL HV s0
            rw [HFR.out]
            rw [e2, e5]
            clear e2 e5
            go_wp2_with fail
            show K _ _
            have := H.out _ (Ext.refl _)
            rw [HFR.out] at this
            obtain ⟨u2, u5⟩ := HU.out
            rw [u2, u5] at this
            exact this
          · rintro L A W K hL hC hW ⟨V, rfl, HV, s0⟩ hK
            have e2 : V 2 = .bool true := HV 2 _ rfl (hW 2 rfl)
            have e4 : V 4 = .slice (some ⟨bb, oo, none⟩) l.length c1 := HV 4 _ rfl (hW 4 rfl)
            have e6 : V 6 = .int .i64 m := HV 6 _ rfl (hW 6 rfl)
            have H := Lib.hid (show ∀ W', Ext W W' → K (fr (upd V 7 (.pointer (some ⟨bb, oo + m * 11, none⟩)))) W' from fun W' he => hK _ _ ⟨upd V 7 (.pointer (some ⟨bb, oo + m * 11, none⟩)), rfl, HV.up 7 _ (fun x hx => Option.some.inj hx), Ext.trans s0 he⟩)
            have HU := Lib.hid (show (upd V 7 (.pointer (some ⟨bb, oo + m * 11, none⟩))) 2 = .bool true ∧ (upd V 7 (.pointer (some ⟨bb, oo + m * 11, none⟩))) 4 = .slice (some ⟨bb, oo, none⟩) l.length c1 ∧ (upd V 7 (.pointer (some ⟨bb, oo + m * 11, none⟩))) 6 = .int .i64 m from ⟨e2, e4, e6⟩)
            clear hK hC hW hL HV s0
            rw [HFR.out]
            rw [e2, e4, e6]
            clear e2 e4 e6
            go_wp2_with fail
            show K _ _
            have := H.out _ (Ext.refl _)
            rw [HFR.out] at this
            obtain ⟨u2, u4, u6⟩ := HU.out
            rw [u2, u4, u6] at this
            exact this
          · rintro L A W K hL hC hW ⟨V, rfl, HV, s0⟩ hK
            have e2 : V 2 = .bool true := HV 2 _ rfl (hW 2 rfl)
            have e7 : V 7 = .pointer (some ⟨bb, oo + m * 11, none⟩) := HV 7 _ rfl (hW 7 rfl)
            have H := Lib.hid (show ∀ W', Ext W W' → K (fr (upd V 8 (.pointer (some ⟨bb, oo + m * 11, none⟩)))) W' from fun W' he => hK _ _ ⟨upd V 8 (.pointer (some ⟨bb, oo + m * 11, none⟩)), rfl, HV.up 8 _ (fun x hx => Option.some.inj hx), Ext.trans s0 he⟩)
            have HU := Lib.hid (show (upd V 8 (.pointer (some ⟨bb, oo + m * 11, none⟩))) 2 = .bool true ∧ (upd V 8 (.pointer (some ⟨bb, oo + m * 11, none⟩))) 7 = .pointer (some ⟨bb, oo + m * 11, none⟩) from ⟨e2, e7⟩)
            clear hK hC hW hL HV s0
            rw [HFR.out]
            rw [e2, e7]
            clear e2 e7
            go_wp2_with fail
            show K _ _
            have := H.out _ (Ext.refl _)
            rw [HFR.out] at this
            obtain ⟨u2, u7⟩ := HU.out
            rw [u2, u7] at this
            exact this
          · rintro L A W K hL hC hW ⟨V, rfl, HV, s0⟩ hK
            have e2 : V 2 = .bool true := HV 2 _ rfl (hW 2 rfl)
            have e8 : V 8 = .pointer (some ⟨bb, oo + m * 11, none⟩) := HV 8 _ rfl (hW 8 rfl)
            have hB := s0
            have H := Lib.hid (show ∀ W', Ext W W' → K (fr (upd V 9 (.int .u64 (p0.addr : Nat)))) W' from fun W' he => hK _ _ ⟨upd V 9 (.int .u64 (p0.addr : Nat)), rfl, HV.up 9 _ (fun x hx => Option.some.inj hx), Ext.trans s0 he⟩)
            have HU := Lib.hid (show (upd V 9 (.int .u64 (p0.addr : Nat))) 2 = .bool true ∧ (upd V 9 (.int .u64 (p0.addr : Nat))) 8 = .pointer (some ⟨bb, oo + m * 11, none⟩) from ⟨e2, e8⟩)
            clear hK hC hW hL HV s0
            rw [HFR.out]
            rw [e2, e8]
            clear e2 e8
            have hcl := hB.cell X0.out
            clear hB
            go_wp2_with fail
            show K _ _
            have := H.out _ (Ext.refl _)
            rw [HFR.out] at this
            obtain ⟨u2, u8⟩ := HU.out
            rw [u2, u8] at this
            exact this
          · rintro L A W K hL hC hW ⟨V, rfl, HV, s0⟩ hK
            have e2 : V 2 = .bool true := HV 2 _ rfl (hW 2 rfl)
            have H := Lib.hid (show ∀ W', Ext W W' → K (fr (upd V 10 (.pointer (some ⟨g4, 0, none⟩)))) W' from fun W' he => hK _ _ ⟨upd V 10 (.pointer (some ⟨g4, 0, none⟩)), rfl, HV.up 10 _ (fun x hx => Option.some.inj hx), Ext.trans s0 he⟩)
            have HU := Lib.hid (show (upd V 10 (.pointer (some ⟨g4, 0, none⟩))) 2 = .bool true from e2)
            clear hK hC hW hL HV s0
            rw [HFR.out]
            rw [e2]
            clear e2
            go_wp2_with fail
            show K _ _
            have := H.out _ (Ext.refl _)
            rw [HFR.out] at this
            obtain u2 := HU.out
            rw [u2] at this
            exact this
          · rintro L A W K hL hC hW ⟨V, rfl, HV, s0⟩ hK
            have e2 : V 2 = .bool true := HV 2 _ rfl (hW 2 rfl)
            have e10 : V 10 = .pointer (some ⟨g4, 0, none⟩) := HV 10 _ rfl (hW 10 rfl)
            have hB := s0
            have H := Lib.hid (show ∀ W', Ext W W' → K (fr (upd V 11 (.int .u64 (p.addr : Nat)))) W' from fun W' he => hK _ _ ⟨upd V 11 (.int .u64 (p.addr : Nat)), rfl, HV.up 11 _ (fun x hx => Option.some.inj hx), Ext.trans s0 he⟩)
            have HU := Lib.hid (show (upd V 11 (.int .u64 (p.addr : Nat))) 2 = .bool true ∧ (upd V 11 (.int .u64 (p.addr : Nat))) 10 = .pointer (some ⟨g4, 0, none⟩) from ⟨e2, e10⟩)
            clear hK hC hW hL HV s0
            rw [HFR.out]
            rw [e2, e10]
            clear e2 e10
            have hcl := Hb.addr (show Hb W g4 p from Cs.ext HKB.out hB)
            clear hB
            go_wp2_with fail
            show K _ _
            have := H.out _ (Ext.refl _)
            rw [HFR.out] at this
            obtain ⟨u2, u10⟩ := HU.out
            rw [u2, u10] at this
            exact this
          · rintro L A W K hL hC hW ⟨V, rfl, HV, s0⟩ hK
            have e2 : V 2 = .bool true := HV 2 _ rfl (hW 2 rfl)
            have e9 : V 9 = .int .u64 (p0.addr : Nat) := HV 9 _ rfl (hW 9 rfl)
            have e11 : V 11 = .int .u64 (p.addr : Nat) := HV 11 _ rfl (hW 11 rfl)
            have H := Lib.hid (show ∀ W', Ext W W' → K (fr (upd V 12 (.bool false))) W' from fun W' he => hK _ _ ⟨upd V 12 (.bool false), rfl, HV.up 12 _ (fun x hx => Option.some.inj hx), Ext.trans s0 he⟩)
            have HU := Lib.hid (show (upd V 12 (.bool false)) 2 = .bool true ∧ (upd V 12 (.bool false)) 9 = .int .u64 (p0.addr : Nat) ∧ (upd V 12 (.bool false)) 11 = .int .u64 (p.addr : Nat) from ⟨e2, e9, e11⟩)
            clear hK hC hW hL HV s0
            rw [HFR.out]
            rw [e2, e9, e11]
            clear e2 e9 e11
            go_wp2_with fail
            show K _ _
            have := H.out _ (Ext.refl _)
            rw [HFR.out] at this
            obtain ⟨u2, u9, u11⟩ := HU.out
            rw [u2, u9, u11] at this
            exact this
          · rintro L A W K hL hC hW ⟨V, rfl, HV, s0⟩ hK
            have e2 : V 2 = .bool true := HV 2 _ rfl (hW 2 rfl)
            have e12 : V 12 = .bool false := HV 12 _ rfl (hW 12 rfl)
            have H := Lib.hid (show ∀ W', Ext W W' → K (fr (upd V 13 (.bool false))) W' from fun W' he => hK _ _ ⟨upd V 13 (.bool false), rfl, HV.up 13 _ (fun x hx => Option.some.inj hx), Ext.trans s0 he⟩)
            have HU := Lib.hid (show (upd V 13 (.bool false)) 2 = .bool true ∧ (upd V 13 (.bool false)) 12 = .bool false from ⟨e2, e12⟩)
            clear hK hC hW hL HV s0
            rw [HFR.out]
            rw [e2, e12]
            clear e2 e12
            go_wp2_with fail
            show K _ _
            have := H.out _ (Ext.refl _)
            rw [HFR.out] at this
            obtain ⟨u2, u12⟩ := HU.out
            rw [u2, u12] at this
            exact this
          · rintro L A W hL ⟨V, rfl, HV, s0⟩
            have e0 : V 0 = .int .i64 k := HV 0 _ rfl (hL 0 (by simp))
            have e1 : V 1 = .bool true := HV 1 _ rfl (hL 1 (by simp))
            have e2 : V 2 = .bool true := HV 2 _ rfl (hL 2 (by simp))
            have e3 : V 3 = .pointer (some ⟨gL, 0, none⟩) := HV 3 _ rfl (hL 3 (by simp))
            have e4 : V 4 = .slice (some ⟨bb, oo, none⟩) l.length c1 := HV 4 _ rfl (hL 4 (by simp))
            have e5 : V 5 = .int .i64 k := HV 5 _ rfl (hL 5 (by simp))
            have e6 : V 6 = .int .i64 m := HV 6 _ rfl (hL 6 (by simp))
            have e7 : V 7 = .pointer (some ⟨bb, oo + m * 11, none⟩) := HV 7 _ rfl (hL 7 (by simp))
            have e8 : V 8 = .pointer (some ⟨bb, oo + m * 11, none⟩) := HV 8 _ rfl (hL 8 (by simp))
            have e9 : V 9 = .int .u64 (p0.addr : Nat) := HV 9 _ rfl (hL 9 (by simp))
            have e10 : V 10 = .pointer (some ⟨g4, 0, none⟩) := HV 10 _ rfl (hL 10 (by simp))
            have e11 : V 11 = .int .u64 (p.addr : Nat) := HV 11 _ rfl (hL 11 (by simp))
            have e12 : V 12 = .bool false := HV 12 _ rfl (hL 12 (by simp))
            have e13 : V 13 = .bool false := HV 13 _ rfl (hL 13 (by simp))
            have hA := s0
            rw [HFR.out]
            rw [e0, e1, e2, e3, e4, e5, e6, e7, e8, e9, e10, e11, e12, e13]
            clear hL HV HFR e0 e1 e2 e3 e4 e5 e6 e7 e8 e9 e10 e11 e12 e13 s0
            have HA4 := Lib.hid hA
            clear hA
            go_wp2_with fail
            exact ⟨⟨k + 1, by omega, by go_num, Lib.hid ⟨HN.out, HJ.out.2.trans (HX.out.trans HA4.out)⟩⟩, by simp [intOf]; omega⟩
        · have hgd : decide ((p0.addr : Int) ≥ (p.addr : Int)) = true := decide_eq_true (by omega)
          have hge : decide ((p.addr : Int) ≤ (p0.addr : Int)) = true := decide_eq_true (by omega)
          have hgf : decide (p.addr ≤ p0.addr) = true := decide_eq_true (by omega)
          have HF := Lib.hid (HBAD.out (HB2.out (by rw [HLA.out]; omega)))
          clear hlt2
          refine wp_named fun a0 ha0 => ?_
          obtain ⟨fr, hfr⟩ : ∃ fr : (Nat → Value) → Act, ∀ V, fr V = ((((((((((((((a0.put (some 66) (V 0)).put (some 67) (V 1)).put (some 68) (V 2)).put (some 69) (V 3)).put (some 70) (V 4)).put (some 71) (V 5)).put (some 72) (V 6)).put (some 73) (V 7)).put (some 74) (V 8)).put (some 75) (V 9)).put (some 76) (V 10)).put (some 77) (V 11)).put (some 78) (V 12)).put (some 79) (V 13)) := ⟨fun V => ((((((((((((((a0.put (some 66) (V 0)).put (some 67) (V 1)).put (some 68) (V 2)).put (some 69) (V 3)).put (some 70) (V 4)).put (some 71) (V 5)).put (some 72) (V 6)).put (some 73) (V 7)).put (some 74) (V 8)).put (some 75) (V 9)).put (some 76) (V 10)).put (some 77) (V 11)).put (some 78) (V 12)).put (some 79) (V 13)), fun _ => rfl⟩
          rw [ha0] at hfr
          simp only [Act.put, List.setIfInBounds_toArray, List.set_cons_zero, List.set_cons_succ] at hfr
          have HFR := Lib.hid hfr
          clear hfr
          refine wp_region_inv (by kernel_rfl) (by kernel_rfl) (fun L A W => ∃ V : Nat → Value, A = fr V ∧ Vals (fun j => ([some (.int .i64 k), some (.bool true), some (.bool true), some (.pointer (some ⟨gL, 0, none⟩)), some (.slice (some ⟨bb, oo, none⟩) l.length c1), some (.int .i64 k), some (.int .i64 m), some (.pointer (some ⟨bb, oo + m * 11, none⟩)), some (.pointer (some ⟨bb, oo + m * 11, none⟩)), some (.int .u64 (p0.addr : Nat)), some (.pointer (some ⟨g4, 0, none⟩)), some (.int .u64 (p.addr : Nat)), some (.bool true), some (.bool true)] : List (Option Value)).getD j none) L V ∧ (Ext w8 W)) ?_ ⟨?_, ?_, ?_, ?_, ?_, ?_, ?_, ?_, ?_, ?_, ?_, ?_, ?_, ?_, trivial⟩ ?_
          · refine ⟨fun j => a0.tmps.getD (([66, 67, 68, 69, 70, 71, 72, 73, 74, 75, 76, 77, 78, 79] : List Nat).getD j 0) undef, ?_, Vals.no _ _ _ (far_none _ _ rfl), (Ext.refl _).drew⟩
            rw [HFR.out, ha0]
            rfl
          all_goals clear ha0
          · rintro L A W K hL hC hW ⟨V, rfl, HV, s0⟩ hK
            have H := Lib.hid (show ∀ W', Ext W W' → K (fr (upd V 0 (.int .i64 k))) W' from fun W' he => hK _ _ ⟨upd V 0 (.int .i64 k), rfl, HV.up 0 _ (fun x hx => Option.some.inj hx), Ext.trans s0 he⟩)
            clear hK hC hW hL HV s0
            rw [HFR.out]
            go_wp2_with fail
            show K _ _
            have := H.out _ (Ext.refl _)
            rw [HFR.out] at this
            exact this
          · rintro L A W K hL hC hW ⟨V, rfl, HV, s0⟩ hK
            have e0 : V 0 = .int .i64 k := HV 0 _ rfl (hW 0 rfl)
            have H := Lib.hid (show ∀ W', Ext W W' → K (fr (upd V 1 (.bool true))) W' from fun W' he => hK _ _ ⟨upd V 1 (.bool true), rfl, HV.up 1 _ (fun x hx => Option.some.inj hx), Ext.trans s0 he⟩)
            have HU := Lib.hid (show (upd V 1 (.bool true)) 0 = .int .i64 k from e0)
            clear hK hC hW hL HV s0
            rw [HFR.out]
            rw [e0]
            clear e0
            go_wp2_with fail
            show K _ _
            have := H.out _ (Ext.refl _)
            rw [HFR.out] at this
            obtain u0 := HU.out
            rw [u0] at this
            exact this
          · rintro L A W K hL hC hW ⟨V, rfl, HV, s0⟩ hK
            have e1 : V 1 = .bool true := HV 1 _ rfl (hW 1 rfl)
            have H := Lib.hid (show ∀ W', Ext W W' → K (fr (upd V 2 (.bool true))) W' from fun W' he => hK _ _ ⟨upd V 2 (.bool true), rfl, HV.up 2 _ (fun x hx => Option.some.inj hx), Ext.trans s0 he⟩)
            have HU := Lib.hid (show (upd V 2 (.bool true)) 1 = .bool true from e1)
            clear hK hC hW hL HV s0
            rw [HFR.out]
            rw [e1]
            clear e1
            go_wp2_with fail
            show K _ _
            have := H.out _ (Ext.refl _)
            rw [HFR.out] at this
            obtain u1 := HU.out
            rw [u1] at this
            exact this
          · rintro L A W K hL hC hW ⟨V, rfl, HV, s0⟩ hK
            have e2 : V 2 = .bool true := HV 2 _ rfl (hW 2 rfl)
            have H := Lib.hid (show ∀ W', Ext W W' → K (fr (upd V 3 (.pointer (some ⟨gL, 0, none⟩)))) W' from fun W' he => hK _ _ ⟨upd V 3 (.pointer (some ⟨gL, 0, none⟩)), rfl, HV.up 3 _ (fun x hx => Option.some.inj hx), Ext.trans s0 he⟩)
            have HU := Lib.hid (show (upd V 3 (.pointer (some ⟨gL, 0, none⟩))) 2 = .bool true from e2)
            clear hK hC hW hL HV s0
            rw [HFR.out]
            rw [e2]
            clear e2
            go_wp2_with fail
            show K _ _
            have := H.out _ (Ext.refl _)
            rw [HFR.out] at this
            obtain u2 := HU.out
            rw [u2] at this
            exact this
          · rintro L A W K hL hC hW ⟨V, rfl, HV, s0⟩ hK
            have e2 : V 2 = .bool true := HV 2 _ rfl (hW 2 rfl)
            have e3 : V 3 = .pointer (some ⟨gL, 0, none⟩) := HV 3 _ rfl (hW 3 rfl)
            have hB := s0
            have H := Lib.hid (show ∀ W', Ext W W' → K (fr (upd V 4 (.slice (some ⟨bb, oo, none⟩) l.length c1))) W' from fun W' he => hK _ _ ⟨upd V 4 (.slice (some ⟨bb, oo, none⟩) l.length c1), rfl, HV.up 4 _ (fun x hx => Option.some.inj hx), Ext.trans s0 he⟩)
            have HU := Lib.hid (show (upd V 4 (.slice (some ⟨bb, oo, none⟩) l.length c1)) 2 = .bool true ∧ (upd V 4 (.slice (some ⟨bb, oo, none⟩) l.length c1)) 3 = .pointer (some ⟨gL, 0, none⟩) from ⟨e2, e3⟩)
            clear hK hC hW hL HV s0
            rw [HFR.out]
            rw [e2, e3]
            clear e2 e3
            have hcl := (Cs.ext HL8.out hB).cell 0 _ rfl
            clear hB
            go_wp2_with fail
            show K _ _
            have := H.out _ (Ext.refl _)
            rw [HFR.out] at this
            obtain ⟨u2, u3⟩ := HU.out
            rw [u2, u3] at this
            exact this
          · rintro L A W K hL hC hW ⟨V, rfl, HV, s0⟩ hK
            have e2 : V 2 = .bool true := HV 2 _ rfl (hW 2 rfl)
            have H := Lib.hid (show ∀ W', Ext W W' → K (fr (upd V 5 (.int .i64 k))) W' from fun W' he => hK _ _ ⟨upd V 5 (.int .i64 k), rfl, HV.up 5 _ (fun x hx => Option.some.inj hx), Ext.trans s0 he⟩)
            have HU := Lib.hid (show (upd V 5 (.int .i64 k)) 2 = .bool true from e2)
            clear hK hC hW hL HV s0
            rw [HFR.out]
            rw [e2]
            clear e2
            go_wp2_with fail
            show K _ _
            have := H.out _ (Ext.refl _)
            rw [HFR.out] at this
            obtain u2 := HU.out
            rw [u2] at this
            exact this
          · rintro L A W K hL hC hW ⟨V, rfl, HV, s0⟩ hK
            have e2 : V 2 = .bool true := HV 2 _ rfl (hW 2 rfl)
            have e5 : V 5 = .int .i64 k := HV 5 _ rfl (hW 5 rfl)
            have H := Lib.hid (show ∀ W', Ext W W' → K (fr (upd V 6 (.int .i64 m))) W' from fun W' he => hK _ _ ⟨upd V 6 (.int .i64 m), rfl, HV.up 6 _ (fun x hx => Option.some.inj hx), Ext.trans s0 he⟩)
            have HU := Lib.hid (show (upd V 6 (.int .i64 m)) 2 = .bool true ∧ (upd V 6 (.int .i64 m)) 5 = .int .i64 k from ⟨e2, e5⟩)
            clear hK hC hW hL HV s0
            rw [HFR.out]
            rw [e2, e5]
            clear e2 e5
            go_wp2_with fail
            show K _ _
            have := H.out _ (Ext.refl _)
            rw [HFR.out] at this
            obtain ⟨u2, u5⟩ := HU.out
            rw [u2, u5] at this
            exact this
          · rintro L A W K hL hC hW ⟨V, rfl, HV, s0⟩ hK
            have e2 : V 2 = .bool true := HV 2 _ rfl (hW 2 rfl)
            have e4 : V 4 = .slice (some ⟨bb, oo, none⟩) l.length c1 := HV 4 _ rfl (hW 4 rfl)
            have e6 : V 6 = .int .i64 m := HV 6 _ rfl (hW 6 rfl)
            have H := Lib.hid (show ∀ W', Ext W W' → K (fr (upd V 7 (.pointer (some ⟨bb, oo + m * 11, none⟩)))) W' from fun W' he => hK _ _ ⟨upd V 7 (.pointer (some ⟨bb, oo + m * 11, none⟩)), rfl, HV.up 7 _ (fun x hx => Option.some.inj hx), Ext.trans s0 he⟩)
            have HU := Lib.hid (show (upd V 7 (.pointer (some ⟨bb, oo + m * 11, none⟩))) 2 = .bool true ∧ (upd V 7 (.pointer (some ⟨bb, oo + m * 11, none⟩))) 4 = .slice (some ⟨bb, oo, none⟩) l.length c1 ∧ (upd V 7 (.pointer (some ⟨bb, oo + m * 11, none⟩))) 6 = .int .i64 m from ⟨e2, e4, e6⟩)
            clear hK hC hW hL HV s0
            rw [HFR.out]
            rw [e2, e4, e6]
            clear e2 e4 e6
            go_wp2_with fail
            show K _ _
            have := H.out _ (Ext.refl _)
            rw [HFR.out] at this
            obtain ⟨u2, u4, u6⟩ := HU.out
            rw [u2, u4, u6] at this
            exact this
          · rintro L A W K hL hC hW ⟨V, rfl, HV, s0⟩ hK
            have e2 : V 2 = .bool true := HV 2 _ rfl (hW 2 rfl)
            have e7 : V 7 = .pointer (some ⟨bb, oo + m * 11, none⟩) := HV 7 _ rfl (hW 7 rfl)
            have H := Lib.hid (show ∀ W', Ext W W' → K (fr (upd V 8 (.pointer (some ⟨bb, oo + m * 11, none⟩)))) W' from fun W' he => hK _ _ ⟨upd V 8 (.pointer (some ⟨bb, oo + m * 11, none⟩)), rfl, HV.up 8 _ (fun x hx => Option.some.inj hx), Ext.trans s0 he⟩)
            have HU := Lib.hid (show (upd V 8 (.pointer (some ⟨bb, oo + m * 11, none⟩))) 2 = .bool true ∧ (upd V 8 (.pointer (some ⟨bb, oo + m * 11, none⟩))) 7 = .pointer (some ⟨bb, oo + m * 11, none⟩) from ⟨e2, e7⟩)
            clear hK hC hW hL HV s0
            rw [HFR.out]
            rw [e2, e7]
            clear e2 e7
            go_wp2_with fail
            show K _ _
            have := H.out _ (Ext.refl _)
            rw [HFR.out] at this
            obtain ⟨u2, u7⟩ := HU.out
            rw [u2, u7] at this
            exact this
          · rintro L A W K hL hC hW ⟨V, rfl, HV, s0⟩ hK
            have e2 : V 2 = .bool true := HV 2 _ rfl (hW 2 rfl)
            have e8 : V 8 = .pointer (some ⟨bb, oo + m * 11, none⟩) := HV 8 _ rfl (hW 8 rfl)
            have hB := s0
            have H := Lib.hid (show ∀ W', Ext W W' → K (fr (upd V 9 (.int .u64 (p0.addr : Nat)))) W' from fun W' he => hK _ _ ⟨upd V 9 (.int .u64 (p0.addr : Nat)), rfl, HV.up 9 _ (fun x hx => Option.some.inj hx), Ext.trans s0 he⟩)
            have HU := Lib.hid (show (upd V 9 (.int .u64 (p0.addr : Nat))) 2 = .bool true ∧ (upd V 9 (.int .u64 (p0.addr : Nat))) 8 = .pointer (some ⟨bb, oo + m * 11, none⟩) from ⟨e2, e8⟩)
            clear hK hC hW hL HV s0
            rw [HFR.out]
            rw [e2, e8]
            clear e2 e8
            have hcl := hB.cell X0.out
            clear hB
            go_wp2_with fail
            show K _ _
            have := H.out _ (Ext.refl _)
            rw [HFR.out] at this
            obtain ⟨u2, u8⟩ := HU.out
            rw [u2, u8] at this
            exact this
          · rintro L A W K hL hC hW ⟨V, rfl, HV, s0⟩ hK
            have e2 : V 2 = .bool true := HV 2 _ rfl (hW 2 rfl)
            have H := Lib.hid (show ∀ W', Ext W W' → K (fr (upd V 10 (.pointer (some ⟨g4, 0, none⟩)))) W' from fun W' he => hK _ _ ⟨upd V 10 (.pointer (some ⟨g4, 0, none⟩)), rfl, HV.up 10 _ (fun x hx => Option.some.inj hx), Ext.trans s0 he⟩)
            have HU := Lib.hid (show (upd V 10 (.pointer (some ⟨g4, 0, none⟩))) 2 = .bool true from e2)
            clear hK hC hW hL HV s0
            rw [HFR.out]
            rw [e2]
            clear e2
            go_wp2_with fail
            show K _ _
            have := H.out _ (Ext.refl _)
            rw [HFR.out] at this
            obtain u2 := HU.out
            rw [u2] at this
            exact this
          · rintro L A W K hL hC hW ⟨V, rfl, HV, s0⟩ hK
            have e2 : V 2 = .bool true := HV 2 _ rfl (hW 2 rfl)
            have e10 : V 10 = .pointer (some ⟨g4, 0, none⟩) := HV 10 _ rfl (hW 10 rfl)
            have hB := s0
            have H := Lib.hid (show ∀ W', Ext W W' → K (fr (upd V 11 (.int .u64 (p.addr : Nat)))) W' from fun W' he => hK _ _ ⟨upd V 11 (.int .u64 (p.addr : Nat)), rfl, HV.up 11 _ (fun x hx => Option.some.inj hx), Ext.trans s0 he⟩)
            have HU := Lib.hid (show (upd V 11 (.int .u64 (p.addr : Nat))) 2 = .bool true ∧ (upd V 11 (.int .u64 (p.addr : Nat))) 10 = .pointer (some ⟨g4, 0, none⟩) from ⟨e2, e10⟩)
            clear hK hC hW hL HV s0
            rw [HFR.out]
            rw [e2, e10]
            clear e2 e10
            have hcl := Hb.addr (show Hb W g4 p from Cs.ext HKB.out hB)
            clear hB
            go_wp2_with fail
            show K _ _
            have := H.out _ (Ext.refl _)
            rw [HFR.out] at this
            obtain ⟨u2, u10⟩ := HU.out
            rw [u2, u10] at this
            exact this
          · rintro L A W K hL hC hW ⟨V, rfl, HV, s0⟩ hK
            have e2 : V 2 = .bool true := HV 2 _ rfl (hW 2 rfl)
            have e9 : V 9 = .int .u64 (p0.addr : Nat) := HV 9 _ rfl (hW 9 rfl)
            have e11 : V 11 = .int .u64 (p.addr : Nat) := HV 11 _ rfl (hW 11 rfl)
            have H := Lib.hid (show ∀ W', Ext W W' → K (fr (upd V 12 (.bool true))) W' from fun W' he => hK _ _ ⟨upd V 12 (.bool true), rfl, HV.up 12 _ (fun x hx => Option.some.inj hx), Ext.trans s0 he⟩)
            have HU := Lib.hid (show (upd V 12 (.bool true)) 2 = .bool true ∧ (upd V 12 (.bool true)) 9 = .int .u64 (p0.addr : Nat) ∧ (upd V 12 (.bool true)) 11 = .int .u64 (p.addr : Nat) from ⟨e2, e9, e11⟩)
            clear hK hC hW hL HV s0
            rw [HFR.out]
            rw [e2, e9, e11]
            clear e2 e9 e11
            go_wp2_with fail
            show K _ _
            have := H.out _ (Ext.refl _)
            rw [HFR.out] at this
            obtain ⟨u2, u9, u11⟩ := HU.out
            rw [u2, u9, u11] at this
            exact this
          · rintro L A W K hL hC hW ⟨V, rfl, HV, s0⟩ hK
            have e2 : V 2 = .bool true := HV 2 _ rfl (hW 2 rfl)
            have e12 : V 12 = .bool true := HV 12 _ rfl (hW 12 rfl)
            have H := Lib.hid (show ∀ W', Ext W W' → K (fr (upd V 13 (.bool true))) W' from fun W' he => hK _ _ ⟨upd V 13 (.bool true), rfl, HV.up 13 _ (fun x hx => Option.some.inj hx), Ext.trans s0 he⟩)
            have HU := Lib.hid (show (upd V 13 (.bool true)) 2 = .bool true ∧ (upd V 13 (.bool true)) 12 = .bool true from ⟨e2, e12⟩)
            clear hK hC hW hL HV s0
            rw [HFR.out]
            rw [e2, e12]
            clear e2 e12
            go_wp2_with fail
            show K _ _
            have := H.out _ (Ext.refl _)
            rw [HFR.out] at this
            obtain ⟨u2, u12⟩ := HU.out
            rw [u2, u12] at this
            exact this
          · rintro L A W hL ⟨V, rfl, HV, s0⟩
            have e0 : V 0 = .int .i64 k := HV 0 _ rfl (hL 0 (by simp))
            have e1 : V 1 = .bool true := HV 1 _ rfl (hL 1 (by simp))
            have e2 : V 2 = .bool true := HV 2 _ rfl (hL 2 (by simp))
            have e3 : V 3 = .pointer (some ⟨gL, 0, none⟩) := HV 3 _ rfl (hL 3 (by simp))
            have e4 : V 4 = .slice (some ⟨bb, oo, none⟩) l.length c1 := HV 4 _ rfl (hL 4 (by simp))
            have e5 : V 5 = .int .i64 k := HV 5 _ rfl (hL 5 (by simp))
            have e6 : V 6 = .int .i64 m := HV 6 _ rfl (hL 6 (by simp))
            have e7 : V 7 = .pointer (some ⟨bb, oo + m * 11, none⟩) := HV 7 _ rfl (hL 7 (by simp))
            have e8 : V 8 = .pointer (some ⟨bb, oo + m * 11, none⟩) := HV 8 _ rfl (hL 8 (by simp))
            have e9 : V 9 = .int .u64 (p0.addr : Nat) := HV 9 _ rfl (hL 9 (by simp))
            have e10 : V 10 = .pointer (some ⟨g4, 0, none⟩) := HV 10 _ rfl (hL 10 (by simp))
            have e11 : V 11 = .int .u64 (p.addr : Nat) := HV 11 _ rfl (hL 11 (by simp))
            have e12 : V 12 = .bool true := HV 12 _ rfl (hL 12 (by simp))
            have e13 : V 13 = .bool true := HV 13 _ rfl (hL 13 (by simp))
            have hA := s0
            rw [HFR.out]
            rw [e0, e1, e2, e3, e4, e5, e6, e7, e8, e9, e10, e11, e12, e13]
            clear hL HV HFR e0 e1 e2 e3 e4 e5 e6 e7 e8 e9 e10 e11 e12 e13 s0
            have HA4 := Lib.hid hA
            clear hA
            go_wp2_with fail
            go_ret
            exact ⟨by rw [HF.out]; rfl, HE.out.trans (HX.out.trans HA4.out)⟩
      · refine (refNone_any p.dep _ HP1.out).mono ?_
        rintro e w5 ⟨rfl, he⟩
        rw [show decide (p.dep = 0) = false from decide_eq_false (by first | assumption | exact HS0.out | omega)]
        replace HKB := Lib.hid (show Hb w5 g4 p from Cs.ext HKB.out he)
        replace HX := Lib.hid (HX.out.trans he)
        clear he
        clear q0 q9 q10 KD KS
        have q0 := Hb.addr HKB.out
        have q9 := Hb.dly HKB.out
        have q10 := Hb.fre HKB.out
        have KD := Lib.hid (Hb.dep HKB.out)
        have KS := Lib.hid (Hb.stk HKB.out)
        by_cases hs : p.stk = 0
        · have HS0 := Lib.hid hs
          clear hs
          go_wp2_with (first
            | ((with_reducible refine wpList_load_wordIn ?_ (.tmp 33) ?_ g4 1 (p.dep) ?_ ?_ ?_); (exact rfl); (exact rfl); (exact rfl); (exact KD.out))
            | ((with_reducible refine wpList_load_wordIn ?_ (.tmp 37) ?_ g4 5 (p.stk) ?_ ?_ ?_); (exact rfl); (exact rfl); (exact rfl); (exact KS.out))
            | ((with_reducible refine wpList_load_wordIn ?_ (.tmp 42) ?_ g4 5 (p.stk) ?_ ?_ ?_); (exact rfl); (exact rfl); (exact rfl); (exact KS.out))
            | ((with_reducible refine wpList_load_wordIn ?_ (.tmp 56) ?_ g4 5 (p.stk) ?_ ?_ ?_); (exact rfl); (exact rfl); (exact rfl); (exact KS.out)))
          refine (refNone_any p.stk _ HP2.out).mono ?_
          rintro e w6 ⟨rfl, he⟩
          rw [show decide (p.stk = 0) = true from decide_eq_true (by first | assumption | exact HS0.out | omega)]
          replace HKB := Lib.hid (show Hb w6 g4 p from Cs.ext HKB.out he)
          replace HX := Lib.hid (HX.out.trans he)
          clear he
          clear q0 q9 q10 KD KS
          have q0 := Hb.addr HKB.out
          have q9 := Hb.dly HKB.out
          have q10 := Hb.fre HKB.out
          have KD := Lib.hid (Hb.dep HKB.out)
          have KS := Lib.hid (Hb.stk HKB.out)
          by_cases hl : p.dly = 0
          case neg =>
            have ua : ((p.dly : Int) == 0) = false := by rw [beq_eq_false_iff_ne]; omega
            have ub : (p.dly == 0) = false := by rw [beq_eq_false_iff_ne]; omega
            have uc : ((p.dly : Int) != 0) = true := by rw [bne_iff_ne]; omega
            have ud : (p.dly != 0) = true := by rw [bne_iff_ne]; omega
            have HF := Lib.hid (HBAD.out (HB1.out (rowB_none HS0.out (.inr (.inl hl)))))
            go_wp2_with fail
            go_ret
            exact ⟨by rw [HF.out]; rfl, HE.out.trans HX.out⟩
          have ua : ((p.dly : Int) == 0) = true := by rw [beq_iff_eq]; omega
          have ub : (p.dly == 0) = true := by rw [beq_iff_eq]; omega
          have uc : ((p.dly : Int) != 0) = false := by rw [bne_eq_false_iff_eq]; omega
          have ud : (p.dly != 0) = false := by rw [bne_eq_false_iff_eq]; omega
          by_cases hq : p.fre = 0
          case neg =>
            have ta : ((p.fre : Int) == 0) = false := by rw [beq_eq_false_iff_ne]; omega
            have tb : (p.fre == 0) = false := by rw [beq_eq_false_iff_ne]; omega
            have tc : ((p.fre : Int) != 0) = true := by rw [bne_iff_ne]; omega
            have td : (p.fre != 0) = true := by rw [bne_iff_ne]; omega
            have HF := Lib.hid (HBAD.out (HB1.out (rowB_none HS0.out (.inr (.inr hq)))))
            go_wp2_with fail
            go_ret
            exact ⟨by rw [HF.out]; rfl, HE.out.trans HX.out⟩
          have ta : ((p.fre : Int) == 0) = true := by rw [beq_iff_eq]; omega
          have tb : (p.fre == 0) = true := by rw [beq_iff_eq]; omega
          have tc : ((p.fre : Int) != 0) = false := by rw [bne_eq_false_iff_eq]; omega
          have td : (p.fre != 0) = false := by rw [bne_eq_false_iff_eq]; omega
          go_wp2_with (first
            | ((with_reducible refine wpList_load_wordIn ?_ (.tmp 33) ?_ g4 1 (p.dep) ?_ ?_ ?_); (exact rfl); (exact rfl); (exact rfl); (exact KD.out))
            | ((with_reducible refine wpList_load_wordIn ?_ (.tmp 37) ?_ g4 5 (p.stk) ?_ ?_ ?_); (exact rfl); (exact rfl); (exact rfl); (exact KS.out))
            | ((with_reducible refine wpList_load_wordIn ?_ (.tmp 42) ?_ g4 5 (p.stk) ?_ ?_ ?_); (exact rfl); (exact rfl); (exact rfl); (exact KS.out))
            | ((with_reducible refine wpList_load_wordIn ?_ (.tmp 56) ?_ g4 5 (p.stk) ?_ ?_ ?_); (exact rfl); (exact rfl); (exact rfl); (exact KS.out)))
          refine (refNone_any p.stk _ HP2.out).mono ?_
          rintro e w7 ⟨rfl, he⟩
          rw [show decide (p.stk = 0) = true from decide_eq_true (by first | assumption | exact HS0.out | omega)]
          replace HKB := Lib.hid (show Hb w7 g4 p from Cs.ext HKB.out he)
          replace HX := Lib.hid (HX.out.trans he)
          clear he
          clear q0 q9 q10 KD KS
          have q0 := Hb.addr HKB.out
          have q9 := Hb.dly HKB.out
          have q10 := Hb.fre HKB.out
          have KD := Lib.hid (Hb.dep HKB.out)
          have KS := Lib.hid (Hb.stk HKB.out)
          clear ta tb tc td
          have HGOOD := Lib.hid (rowB_bare HS0.out hp hl hq)
          go_upto_region 9 with fail
          clear q0 q9 q10 KD KS za zb zc zd ya yb yc xa xb xc ua ub uc ud
          have HL8 := Lib.hid (Cs.ext HL1.out HX.out)
          by_cases hk0 : k = 0
          case pos =>
            have HN := Lib.hid (HNX.out (HB3.out (by unfold lastA; rw [if_pos hk0]; omega) HGOOD.out))
            have hga : decide ((k : Int) > 0) = false := decide_eq_false (by omega)
            have hgb : decide (0 < k) = false := decide_eq_false (by omega)
            have hgc : decide ((0 : Int) < (k : Int)) = false := decide_eq_false (by omega)
            clear hk0
            refine wp_named fun a0 ha0 => ?_
            obtain ⟨fr, hfr⟩ : ∃ fr : (Nat → Value) → Act, ∀ V, fr V = ((((((((((((((a0.put (some 66) (V 0)).put (some 67) (V 1)).put (some 68) (V 2)).put (some 69) (V 3)).put (some 70) (V 4)).put (some 71) (V 5)).put (some 72) (V 6)).put (some 73) (V 7)).put (some 74) (V 8)).put (some 75) (V 9)).put (some 76) (V 10)).put (some 77) (V 11)).put (some 78) (V 12)).put (some 79) (V 13)) := ⟨fun V => ((((((((((((((a0.put (some 66) (V 0)).put (some 67) (V 1)).put (some 68) (V 2)).put (some 69) (V 3)).put (some 70) (V 4)).put (some 71) (V 5)).put (some 72) (V 6)).put (some 73) (V 7)).put (some 74) (V 8)).put (some 75) (V 9)).put (some 76) (V 10)).put (some 77) (V 11)).put (some 78) (V 12)).put (some 79) (V 13)), fun _ => rfl⟩
            rw [ha0] at hfr
            simp only [Act.put, List.setIfInBounds_toArray, List.set_cons_zero, List.set_cons_succ] at hfr
            have HFR := Lib.hid hfr
            clear hfr
            refine wp_region_inv (by kernel_rfl) (by kernel_rfl) (fun L A W => ∃ V : Nat → Value, A = fr V ∧ Vals (fun j => ([some (.int .i64 k), some (.bool false), some (.bool false), some (undef), some (undef), some (undef), some (undef), some (undef), some (undef), some (undef), some (undef), some (undef), some (undef), some (.bool false)] : List (Option Value)).getD j none) L V ∧ (Ext w7 W)) ?_ ⟨?_, ?_, ?_, ?_, ?_, ?_, ?_, ?_, ?_, ?_, ?_, ?_, ?_, ?_, trivial⟩ ?_
            · refine ⟨fun j => a0.tmps.getD (([66, 67, 68, 69, 70, 71, 72, 73, 74, 75, 76, 77, 78, 79] : List Nat).getD j 0) undef, ?_, Vals.no _ _ _ (far_none _ _ rfl), (Ext.refl _).drew⟩
              rw [HFR.out, ha0]
              rfl
            all_goals clear ha0
            · rintro L A W K hL hC hW ⟨V, rfl, HV, s0⟩ hK
              have H := Lib.hid (show ∀ W', Ext W W' → K (fr (upd V 0 (.int .i64 k))) W' from fun W' he => hK _ _ ⟨upd V 0 (.int .i64 k), rfl, HV.up 0 _ (fun x hx => Option.some.inj hx), Ext.trans s0 he⟩)
              clear hK hC hW hL HV s0
              rw [HFR.out]
              go_wp2_with fail
              show K _ _
              have := H.out _ (Ext.refl _)
              rw [HFR.out] at this
              exact this
            · rintro L A W K hL hC hW ⟨V, rfl, HV, s0⟩ hK
              have e0 : V 0 = .int .i64 k := HV 0 _ rfl (hW 0 rfl)
              have H := Lib.hid (show ∀ W', Ext W W' → K (fr (upd V 1 (.bool false))) W' from fun W' he => hK _ _ ⟨upd V 1 (.bool false), rfl, HV.up 1 _ (fun x hx => Option.some.inj hx), Ext.trans s0 he⟩)
              have HU := Lib.hid (show (upd V 1 (.bool false)) 0 = .int .i64 k from e0)
              clear hK hC hW hL HV s0
              rw [HFR.out]
              rw [e0]
              clear e0
              go_wp2_with fail
              show K _ _
              have := H.out _ (Ext.refl _)
              rw [HFR.out] at this
              obtain u0 := HU.out
              rw [u0] at this
              exact this
            · rintro L A W K hL hC hW ⟨V, rfl, HV, s0⟩ hK
              have e1 : V 1 = .bool false := HV 1 _ rfl (hW 1 rfl)
              have H := Lib.hid (show ∀ W', Ext W W' → K (fr (upd V 2 (.bool false))) W' from fun W' he => hK _ _ ⟨upd V 2 (.bool false), rfl, HV.up 2 _ (fun x hx => Option.some.inj hx), Ext.trans s0 he⟩)
              have HU := Lib.hid (show (upd V 2 (.bool false)) 1 = .bool false from e1)
              clear hK hC hW hL HV s0
              rw [HFR.out]
              rw [e1]
              clear e1
              go_wp2_with fail
              show K _ _
              have := H.out _ (Ext.refl _)
              rw [HFR.out] at this
              obtain u1 := HU.out
              rw [u1] at this
              exact this
            · rintro L A W K hL hC hW ⟨V, rfl, HV, s0⟩ hK
              have e2 : V 2 = .bool false := HV 2 _ rfl (hW 2 rfl)
              have H := Lib.hid (show ∀ W', Ext W W' → K (fr (upd V 3 (undef))) W' from fun W' he => hK _ _ ⟨upd V 3 (undef), rfl, HV.up 3 _ (fun x hx => Option.some.inj hx), Ext.trans s0 he⟩)
              have HU := Lib.hid (show (upd V 3 (undef)) 2 = .bool false from e2)
              clear hK hC hW hL HV s0
              rw [HFR.out]
              rw [e2]
              clear e2
              go_wp2_with fail
              show K _ _
              have := H.out _ (Ext.refl _)
              rw [HFR.out] at this
              obtain u2 := HU.out
              rw [u2] at this
              exact this
            · rintro L A W K hL hC hW ⟨V, rfl, HV, s0⟩ hK
              have e2 : V 2 = .bool false := HV 2 _ rfl (hW 2 rfl)
              have e3 : V 3 = undef := HV 3 _ rfl (hW 3 rfl)
              have H := Lib.hid (show ∀ W', Ext W W' → K (fr (upd V 4 (undef))) W' from fun W' he => hK _ _ ⟨upd V 4 (undef), rfl, HV.up 4 _ (fun x hx => Option.some.inj hx), Ext.trans s0 he⟩)
              have HU := Lib.hid (show (upd V 4 (undef)) 2 = .bool false ∧ (upd V 4 (undef)) 3 = undef from ⟨e2, e3⟩)
              clear hK hC hW hL HV s0
              rw [HFR.out]
              rw [e2, e3]
              clear e2 e3
              go_wp2_with fail
              show K _ _
              have := H.out _ (Ext.refl _)
              rw [HFR.out] at this
              obtain ⟨u2, u3⟩ := HU.out
              rw [u2, u3] at this
              exact this
            · rintro L A W K hL hC hW ⟨V, rfl, HV, s0⟩ hK
              have e2 : V 2 = .bool false := HV 2 _ rfl (hW 2 rfl)
              have H := Lib.hid (show ∀ W', Ext W W' → K (fr (upd V 5 (undef))) W' from fun W' he => hK _ _ ⟨upd V 5 (undef), rfl, HV.up 5 _ (fun x hx => Option.some.inj hx), Ext.trans s0 he⟩)
              have HU := Lib.hid (show (upd V 5 (undef)) 2 = .bool false from e2)
              clear hK hC hW hL HV s0
              rw [HFR.out]
              rw [e2]
              clear e2
              go_wp2_with fail
              show K _ _
              have := H.out _ (Ext.refl _)
              rw [HFR.out] at this
              obtain u2 := HU.out
              rw [u2] at this
              exact this
            · rintro L A W K hL hC hW ⟨V, rfl, HV, s0⟩ hK
              have e2 : V 2 = .bool false := HV 2 _ rfl (hW 2 rfl)
              have e5 : V 5 = undef := HV 5 _ rfl (hW 5 rfl)
              have H := Lib.hid (show ∀ W', Ext W W' → K (fr (upd V 6 (undef))) W' from fun W' he => hK _ _ ⟨upd V 6 (undef), rfl, HV.up 6 _ (fun x hx => Option.some.inj hx), Ext.trans s0 he⟩)
              have HU := Lib.hid (show (upd V 6 (undef)) 2 = .bool false ∧ (upd V 6 (undef)) 5 = undef from ⟨e2, e5⟩)
              clear hK hC hW hL HV s0
              rw [HFR.out]
              rw [e2, e5]
              clear e2 e5
              go_wp2_with fail
              show K _ _
              have := H.out _ (Ext.refl _)
              rw [HFR.out] at this
              obtain ⟨u2, u5⟩ := HU.out
              rw [u2, u5] at this
              exact this
            · rintro L A W K hL hC hW ⟨V, rfl, HV, s0⟩ hK
              have e2 : V 2 = .bool false := HV 2 _ rfl (hW 2 rfl)
              have e4 : V 4 = undef := HV 4 _ rfl (hW 4 rfl)
              have e6 : V 6 = undef := HV 6 _ rfl (hW 6 rfl)
              have H := Lib.hid (show ∀ W', Ext W W' → K (fr (upd V 7 (undef))) W' from fun W' he => hK _ _ ⟨upd V 7 (undef), rfl, HV.up 7 _ (fun x hx => Option.some.inj hx), Ext.trans s0 he⟩)
              have HU := Lib.hid (show (upd V 7 (undef)) 2 = .bool false ∧ (upd V 7 (undef)) 4 = undef ∧ (upd V 7 (undef)) 6 = undef from ⟨e2, e4, e6⟩)
              clear hK hC hW hL HV s0
              rw [HFR.out]
              rw [e2, e4, e6]
              clear e2 e4 e6
              go_wp2_with fail
              show K _ _
              have := H.out _ (Ext.refl _)
              rw [HFR.out] at this
              obtain ⟨u2, u4, u6⟩ := HU.out
              rw [u2, u4, u6] at this
              exact this
            · rintro L A W K hL hC hW ⟨V, rfl, HV, s0⟩ hK
              have e2 : V 2 = .bool false := HV 2 _ rfl (hW 2 rfl)
              have e7 : V 7 = undef := HV 7 _ rfl (hW 7 rfl)
              have H := Lib.hid (show ∀ W', Ext W W' → K (fr (upd V 8 (undef))) W' from fun W' he => hK _ _ ⟨upd V 8 (undef), rfl, HV.up 8 _ (fun x hx => Option.some.inj hx), Ext.trans s0 he⟩)
              have HU := Lib.hid (show (upd V 8 (undef)) 2 = .bool false ∧ (upd V 8 (undef)) 7 = undef from ⟨e2, e7⟩)
              clear hK hC hW hL HV s0
              rw [HFR.out]
              rw [e2, e7]
              clear e2 e7
              go_wp2_with fail
              show K _ _
              have := H.out _ (Ext.refl _)
              rw [HFR.out] at this
              obtain ⟨u2, u7⟩ := HU.out
              rw [u2, u7] at this
              exact this
            · rintro L A W K hL hC hW ⟨V, rfl, HV, s0⟩ hK
              have e2 : V 2 = .bool false := HV 2 _ rfl (hW 2 rfl)
              have e8 : V 8 = undef := HV 8 _ rfl (hW 8 rfl)
              have H := Lib.hid (show ∀ W', Ext W W' → K (fr (upd V 9 (undef))) W' from fun W' he => hK _ _ ⟨upd V 9 (undef), rfl, HV.up 9 _ (fun x hx => Option.some.inj hx), Ext.trans s0 he⟩)
              have HU := Lib.hid (show (upd V 9 (undef)) 2 = .bool false ∧ (upd V 9 (undef)) 8 = undef from ⟨e2, e8⟩)
              clear hK hC hW hL HV s0
              rw [HFR.out]
              rw [e2, e8]
              clear e2 e8
              go_wp2_with fail
              show K _ _
              have := H.out _ (Ext.refl _)
              rw [HFR.out] at this
              obtain ⟨u2, u8⟩ := HU.out
              rw [u2, u8] at this
              exact this
            · rintro L A W K hL hC hW ⟨V, rfl, HV, s0⟩ hK
              have e2 : V 2 = .bool false := HV 2 _ rfl (hW 2 rfl)
              have H := Lib.hid (show ∀ W', Ext W W' → K (fr (upd V 10 (undef))) W' from fun W' he => hK _ _ ⟨upd V 10 (undef), rfl, HV.up 10 _ (fun x hx => Option.some.inj hx), Ext.trans s0 he⟩)
              have HU := Lib.hid (show (upd V 10 (undef)) 2 = .bool false from e2)
              clear hK hC hW hL HV s0
              rw [HFR.out]
              rw [e2]
              clear e2
              go_wp2_with fail
              show K _ _
              have := H.out _ (Ext.refl _)
              rw [HFR.out] at this
              obtain u2 := HU.out
              rw [u2] at this
              exact this
            · rintro L A W K hL hC hW ⟨V, rfl, HV, s0⟩ hK
              have e2 : V 2 = .bool false := HV 2 _ rfl (hW 2 rfl)
              have e10 : V 10 = undef := HV 10 _ rfl (hW 10 rfl)
              have H := Lib.hid (show ∀ W', Ext W W' → K (fr (upd V 11 (undef))) W' from fun W' he => hK _ _ ⟨upd V 11 (undef), rfl, HV.up 11 _ (fun x hx => Option.some.inj hx), Ext.trans s0 he⟩)
              have HU := Lib.hid (show (upd V 11 (undef)) 2 = .bool false ∧ (upd V 11 (undef)) 10 = undef from ⟨e2, e10⟩)
              clear hK hC hW hL HV s0
              rw [HFR.out]
              rw [e2, e10]
              clear e2 e10
              go_wp2_with fail
              show K _ _
              have := H.out _ (Ext.refl _)
              rw [HFR.out] at this
              obtain ⟨u2, u10⟩ := HU.out
              rw [u2, u10] at this
              exact this
            · rintro L A W K hL hC hW ⟨V, rfl, HV, s0⟩ hK
              have e2 : V 2 = .bool false := HV 2 _ rfl (hW 2 rfl)
              have e9 : V 9 = undef := HV 9 _ rfl (hW 9 rfl)
              have e11 : V 11 = undef := HV 11 _ rfl (hW 11 rfl)
              have H := Lib.hid (show ∀ W', Ext W W' → K (fr (upd V 12 (undef))) W' from fun W' he => hK _ _ ⟨upd V 12 (undef), rfl, HV.up 12 _ (fun x hx => Option.some.inj hx), Ext.trans s0 he⟩)
              have HU := Lib.hid (show (upd V 12 (undef)) 2 = .bool false ∧ (upd V 12 (undef)) 9 = undef ∧ (upd V 12 (undef)) 11 = undef from ⟨e2, e9, e11⟩)
              clear hK hC hW hL HV s0
              rw [HFR.out]
              rw [e2, e9, e11]
              clear e2 e9 e11
              go_wp2_with fail
              show K _ _
              have := H.out _ (Ext.refl _)
              rw [HFR.out] at this
              obtain ⟨u2, u9, u11⟩ := HU.out
              rw [u2, u9, u11] at this
              exact this
            · rintro L A W K hL hC hW ⟨V, rfl, HV, s0⟩ hK
              have e2 : V 2 = .bool false := HV 2 _ rfl (hW 2 rfl)
              have e12 : V 12 = undef := HV 12 _ rfl (hW 12 rfl)
              have H := Lib.hid (show ∀ W', Ext W W' → K (fr (upd V 13 (.bool false))) W' from fun W' he => hK _ _ ⟨upd V 13 (.bool false), rfl, HV.up 13 _ (fun x hx => Option.some.inj hx), Ext.trans s0 he⟩)
              have HU := Lib.hid (show (upd V 13 (.bool false)) 2 = .bool false ∧ (upd V 13 (.bool false)) 12 = undef from ⟨e2, e12⟩)
              clear hK hC hW hL HV s0
              rw [HFR.out]
              rw [e2, e12]
              clear e2 e12
              go_wp2_with fail
              show K _ _
              have := H.out _ (Ext.refl _)
              rw [HFR.out] at this
              obtain ⟨u2, u12⟩ := HU.out
              rw [u2, u12] at this
              exact this
            · rintro L A W hL ⟨V, rfl, HV, s0⟩
              have e0 : V 0 = .int .i64 k := HV 0 _ rfl (hL 0 (by simp))
              have e1 : V 1 = .bool false := HV 1 _ rfl (hL 1 (by simp))
              have e2 : V 2 = .bool false := HV 2 _ rfl (hL 2 (by simp))
              have e3 : V 3 = undef := HV 3 _ rfl (hL 3 (by simp))
              have e4 : V 4 = undef := HV 4 _ rfl (hL 4 (by simp))
              have e5 : V 5 = undef := HV 5 _ rfl (hL 5 (by simp))
              have e6 : V 6 = undef := HV 6 _ rfl (hL 6 (by simp))
              have e7 : V 7 = undef := HV 7 _ rfl (hL 7 (by simp))
              have e8 : V 8 = undef := HV 8 _ rfl (hL 8 (by simp))
              have e9 : V 9 = undef := HV 9 _ rfl (hL 9 (by simp))
              have e10 : V 10 = undef := HV 10 _ rfl (hL 10 (by simp))
              have e11 : V 11 = undef := HV 11 _ rfl (hL 11 (by simp))
              have e12 : V 12 = undef := HV 12 _ rfl (hL 12 (by simp))
              have e13 : V 13 = .bool false := HV 13 _ rfl (hL 13 (by simp))
              have hA := s0
              rw [HFR.out]
              rw [e0, e1, e2, e3, e4, e5, e6, e7, e8, e9, e10, e11, e12, e13]
              clear hL HV HFR e0 e1 e2 e3 e4 e5 e6 e7 e8 e9 e10 e11 e12 e13 s0
              have HA4 := Lib.hid hA
              clear hA
              go_wp2_with fail
              exact ⟨⟨k + 1, by omega, by go_num, Lib.hid ⟨HN.out, HJ.out.2.trans (HX.out.trans HA4.out)⟩⟩, by simp [intOf]; omega⟩
          have hga : decide ((k : Int) > 0) = true := decide_eq_true (by omega)
          have hgb : decide (0 < k) = true := decide_eq_true (by omega)
          have hgc : decide ((0 : Int) < (k : Int)) = true := decide_eq_true (by omega)
          obtain ⟨b', o', e', x0, hp0⟩ := (HS.out.ext (HE.out.trans HX.out)).at (k - 1) (by omega)
          injection e' with e'
          injection e' with e1' e2' _
          subst e1' e2'
          have X0 := Lib.hid (hd_addr x0)
          have HLA := Lib.hid (show lastA l k = (l.getD (k - 1) hz0).addr by unfold lastA; rw [if_neg hk0])
          generalize l.getD (k - 1) hz0 = p0 at *
          obtain ⟨m, hm⟩ : ∃ m, k - 1 = m := ⟨_, rfl⟩
          rw [hm] at X0
          have hsub : ((k : Nat) : Int) - 1 = (m : Int) := by omega
          have hmb : m < l.length := by omega
          have hmb2 : decide (m < l.length) = true := decide_eq_true hmb
          have hmb3 : decide ((m : Int) < (l.length : Int)) = true := decide_eq_true (by omega)
          have hp01 := hp0.1
          clear x0 hm hp0 hk0
          by_cases hlt2 : p0.addr < p.addr
          · have hgd : decide ((p0.addr : Int) ≥ (p.addr : Int)) = false := decide_eq_false (by omega)
            have hge : decide ((p.addr : Int) ≤ (p0.addr : Int)) = false := decide_eq_false (by omega)
            have hgf : decide (p.addr ≤ p0.addr) = false := decide_eq_false (by omega)
            have HN := Lib.hid (HNX.out (HB3.out (by rw [HLA.out]; exact hlt2) HGOOD.out))
            clear hlt2
            refine wp_named fun a0 ha0 => ?_
            obtain ⟨fr, hfr⟩ : ∃ fr : (Nat → Value) → Act, ∀ V, fr V = ((((((((((((((a0.put (some 66) (V 0)).put (some 67) (V 1)).put (some 68) (V 2)).put (some 69) (V 3)).put (some 70) (V 4)).put (some 71) (V 5)).put (some 72) (V 6)).put (some 73) (V 7)).put (some 74) (V 8)).put (some 75) (V 9)).put (some 76) (V 10)).put (some 77) (V 11)).put (some 78) (V 12)).put (some 79) (V 13)) := ⟨fun V => ((((((((((((((a0.put (some 66) (V 0)).put (some 67) (V 1)).put (some 68) (V 2)).put (some 69) (V 3)).put (some 70) (V 4)).put (some 71) (V 5)).put (some 72) (V 6)).put (some 73) (V 7)).put (some 74) (V 8)).put (some 75) (V 9)).put (some 76) (V 10)).put (some 77) (V 11)).put (some 78) (V 12)).put (some 79) (V 13)), fun _ => rfl⟩
            rw [ha0] at hfr
            simp only [Act.put, List.setIfInBounds_toArray, List.set_cons_zero, List.set_cons_succ] at hfr
            have HFR := Lib.hid hfr
            clear hfr
            refine wp_region_inv (by kernel_rfl) (by kernel_rfl) (fun L A W => ∃ V : Nat → Value, A = fr V ∧ Vals (fun j => ([some (.int .i64 k), some (.bool true), some (.bool true), some (.pointer (some ⟨gL, 0, none⟩)), some (.slice (some ⟨bb, oo, none⟩) l.length c1), some (.int .i64 k), some (.int .i64 m), some (.pointer (some ⟨bb, oo + m * 11, none⟩)), some (.pointer (some ⟨bb, oo + m * 11, none⟩)), some (.int .u64 (p0.addr : Nat)), some (.pointer (some ⟨g4, 0, none⟩)), some (.int .u64 (p.addr : Nat)), some (.bool false), some (.bool false)] : List (Option Value)).getD j none) L V ∧ (Ext w7 W)) ?_ ⟨?_, ?_, ?_, ?_, ?_, ?_, ?_, ?_, ?_, ?_, ?_, ?_, ?_, ?_, trivial⟩ ?_
            · refine ⟨fun j => a0.tmps.getD (([66, 67, 68, 69, 70, 71, 72, 73, 74, 75, 76, 77, 78, 79] : List Nat).getD j 0) undef, ?_, Vals.no _ _ _ (far_none _ _ rfl), (Ext.refl _).drew⟩
              rw [HFR.out, ha0]
              rfl
            all_goals clear ha0
            · rintro L A W K hL hC hW ⟨V, rfl, HV, s0⟩ hK
              have H := Lib.hid (show ∀ W', Ext W W' → K (fr (upd V 0 (.int .i64 k))) W' from fun W' he => hK _ _ ⟨upd V 0 (.int .i64 k), rfl, HV.up 0 _ (fun x hx => Option.some.inj hx), Ext.trans s0 he⟩)
              clear hK hC hW hL HV s0
              rw [HFR.out]
              go_wp2_with fail
              show K _ _
              have := H.out _ (Ext.refl _)
              rw [HFR.out] at this
              exact this
            · rintro L A W K hL hC hW ⟨V, rfl, HV, s0⟩ hK
              have e0 : V 0 = .int .i64 k := HV 0 _ rfl (hW 0 rfl)
              have H := Lib.hid (show ∀ W', Ext W W' → K (fr (upd V 1 (.bool true))) W' from fun W' he => hK _ _ ⟨upd V 1 (.bool true), rfl, HV.up 1 _ (fun x hx => Option.some.inj hx), Ext.trans s0 he⟩)
              have HU := Lib.hid (show (upd V 1 (.bool true)) 0 = .int .i64 k from e0)
              clear hK hC hW hL HV s0
              rw [HFR.out]
              rw [e0]
              clear e0
              go_wp2_with fail
              show K _ _
              have := H.out _ (Ext.refl _)
              rw [HFR.out] at this
              obtain u0 := HU.out
              rw [u0] at this
              exact this
            · rintro L A W K hL hC hW ⟨V, rfl, HV, s0⟩ hK
              have e1 : V 1 = .bool true := HV 1 _ rfl (hW 1 rfl)
              have H := Lib.hid (show ∀ W', Ext W W' → K (fr (upd V 2 (.bool true))) W' from fun W' he => hK _ _ ⟨upd V 2 (.bool true), rfl, HV.up 2 _ (fun x hx => Option.some.inj hx), Ext.trans s0 he⟩)
              have HU := Lib.hid (show (upd V 2 (.bool true)) 1 = .bool true from e1)
              clear hK hC hW hL HV s0
              rw [HFR.out]
              rw [e1]
              clear e1
              go_wp2_with fail
              show K _ _
              have := H.out _ (Ext.refl _)
              rw [HFR.out] at this
              obtain u1 := HU.out
              rw [u1] at this
              exact this
            · rintro L A W K hL hC hW ⟨V, rfl, HV, s0⟩ hK
              have e2 : V 2 = .bool true := HV 2 _ rfl (hW 2 rfl)
              have H := Lib.hid (show ∀ W', Ext W W' → K (fr (upd V 3 (.pointer (some ⟨gL, 0, none⟩)))) W' from fun W' he => hK _ _ ⟨upd V 3 (.pointer (some ⟨gL, 0, none⟩)), rfl, HV.up 3 _ (fun x hx => Option.some.inj hx), Ext.trans s0 he⟩)
              have HU := Lib.hid (show (upd V 3 (.pointer (some ⟨gL, 0, none⟩))) 2 = .bool true from e2)
              clear hK hC hW hL HV s0
              rw [HFR.out]
              rw [e2]
              clear e2
              go_wp2_with fail
              show K _ _
              have := H.out _ (Ext.refl _)
              rw [HFR.out] at this
              obtain u2 := HU.out
              rw [u2] at this
              exact this
            · rintro L A W K hL hC hW ⟨V, rfl, HV, s0⟩ hK
              have e2 : V 2 = .bool true := HV 2 _ rfl (hW 2 rfl)
              have e3 : V 3 = .pointer (some ⟨gL, 0, none⟩) := HV 3 _ rfl (hW 3 rfl)
              have hB := s0
              have H := Lib.hid (show ∀ W', Ext W W' → K (fr (upd V 4 (.slice (some ⟨bb, oo, none⟩) l.length c1))) W' from fun W' he => hK _ _ ⟨upd V 4 (.slice (some ⟨bb, oo, none⟩) l.length c1), rfl, HV.up 4 _ (fun x hx => Option.some.inj hx), Ext.trans s0 he⟩)
              have HU := Lib.hid (show (upd V 4 (.slice (some ⟨bb, oo, none⟩) l.length c1)) 2 = .bool true ∧ (upd V 4 (.slice (some ⟨bb, oo, none⟩) l.length c1)) 3 = .pointer (some ⟨gL, 0, none⟩) from ⟨e2, e3⟩)
              clear hK hC hW hL HV s0
              rw [HFR.out]
              rw [e2, e3]
              clear e2 e3
              have hcl := (Cs.ext HL8.out hB).cell 0 _ rfl
              clear hB
              go_wp2_with fail
              show K _ _
              have := H.out _ (Ext.refl _)
              rw [HFR.out] at this
              obtain ⟨u2, u3⟩ := HU.out
              rw [u2, u3] at this
              exact this
            · rintro L A W K hL hC hW ⟨V, rfl, HV, s0⟩ hK
              have e2 : V 2 = .bool true := HV 2 _ rfl (hW 2 rfl)
              have H := Lib.hid (show ∀ W', Ext W W' → K (fr (upd V 5 (.int .i64 k))) W' from fun W' he => hK _ _ ⟨upd V 5 (.int .i64 k), rfl, HV.up 5 _ (fun x hx => Option.some.inj hx), Ext.trans s0 he⟩)
              have HU := Lib.hid (show (upd V 5 (.int .i64 k)) 2 = .bool true from e2)
              clear hK hC hW hL HV s0
              rw [HFR.out]
              rw [e2]
              clear e2
              go_wp2_with fail
              show K _ _
              have := H.out _ (Ext.refl _)
              rw [HFR.out] at this
              obtain u2 := HU.out
              rw [u2] at this
              exact this
            · rintro L A W K hL hC hW ⟨V, rfl, HV, s0⟩ hK
              have e2 : V 2 = .bool true := HV 2 _ rfl (hW 2 rfl)
              have e5 : V 5 = .int .i64 k := HV 5 _ rfl (hW 5 rfl)
              have H := Lib.hid (show ∀ W', Ext W W' → K (fr (upd V 6 (.int .i64 m))) W' from fun W' he => hK _ _ ⟨upd V 6 (.int .i64 m), rfl, HV.up 6 _ (fun x hx => Option.some.inj hx), Ext.trans s0 he⟩)
              have HU := Lib.hid (show (upd V 6 (.int .i64 m)) 2 = .bool true ∧ (upd V 6 (.int .i64 m)) 5 = .int .i64 k from ⟨e2, e5⟩)
              clear hK hC hW hL HV s0
              rw [HFR.out]
              rw [e2, e5]
              clear e2 e5
              go_wp2_with fail
              show K _ _
              have := H.out _ (Ext.refl _)
              rw [HFR.out] at this
              obtain ⟨u2, u5⟩ := HU.out
              rw [u2, u5] at this
              exact this
            · rintro L A W K hL hC hW ⟨V, rfl, HV, s0⟩ hK
              have e2 : V 2 = .bool true := HV 2 _ rfl (hW 2 rfl)
              have e4 : V 4 = .slice (some ⟨bb, oo, none⟩) l.length c1 := HV 4 _ rfl (hW 4 rfl)
              have e6 : V 6 = .int .i64 m := HV 6 _ rfl (hW 6 rfl)
              have H := Lib.hid (show ∀ W', Ext W W' → K (fr (upd V 7 (.pointer (some ⟨bb, oo + m * 11, none⟩)))) W' from fun W' he => hK _ _ ⟨upd V 7 (.pointer (some ⟨bb, oo + m * 11, none⟩)), rfl, HV.up 7 _ (fun x hx => Option.some.inj hx), Ext.trans s0 he⟩)
              have HU := Lib.hid (show (upd V 7 (.pointer (some ⟨bb, oo + m * 11, none⟩))) 2 = .bool true ∧ (upd V 7 (.pointer (some ⟨bb, oo + m * 11, none⟩))) 4 = .slice (some ⟨bb, oo, none⟩) l.length c1 ∧ (upd V 7 (.pointer (some ⟨bb, oo + m * 11, none⟩))) 6 = .int .i64 m from ⟨e2, e4, e6⟩)
              clear hK hC hW hL HV s0
              rw [HFR.out]
              rw [e2, e4, e6]
              clear e2 e4 e6
              go_wp2_with fail
              show K _ _
              have := H.out _ (Ext.refl _)
              rw [HFR.out] at this
              obtain ⟨u2, u4, u6⟩ := HU.out
              rw [u2, u4, u6] at this
              exact this
            · rintro L A W K hL hC hW ⟨V, rfl, HV, s0⟩ hK
              have e2 : V 2 = .bool true := HV 2 _ rfl (hW 2 rfl)
              have e7 : V 7 = .pointer (some ⟨bb, oo + m * 11, none⟩) := HV 7 _ rfl (hW 7 rfl)
              have H := Lib.hid (show ∀ W', Ext W W' → K (fr (upd V 8 (.pointer (some ⟨bb, oo + m * 11, none⟩)))) W' from fun W' he => hK _ _ ⟨upd V 8 (.pointer (some ⟨bb, oo + m * 11, none⟩)), rfl, HV.up 8 _ (fun x hx => Option.some.inj hx), Ext.trans s0 he⟩)
              have HU := Lib.hid (show (upd V 8 (.pointer (some ⟨bb, oo + m * 11, none⟩))) 2 = .bool true ∧ (upd V 8 (.pointer (some ⟨bb, oo + m * 11, none⟩))) 7 = .pointer (some ⟨bb, oo + m * 11, none⟩) from ⟨e2, e7⟩)
              clear hK hC hW hL HV s0
              rw [HFR.out]
              rw [e2, e7]
              clear e2 e7
              go_wp2_with fail
              show K _ _
              have := H.out _ (Ext.refl _)
              rw [HFR.out] at this
              obtain ⟨u2, u7⟩ := HU.out
              rw [u2, u7] at this
              exact this
            · rintro L A W K hL hC hW ⟨V, rfl, HV, s0⟩ hK
              have e2 : V 2 = .bool true := HV 2 _ rfl (hW 2 rfl)
              have e8 : V 8 = .pointer (some ⟨bb, oo + m * 11, none⟩) := HV 8 _ rfl (hW 8 rfl)
              have hB := s0
              have H := Lib.hid (show ∀ W', Ext W W' → K (fr (upd V 9 (.int .u64 (p0.addr : Nat)))) W' from fun W' he => hK _ _ ⟨upd V 9 (.int .u64 (p0.addr : Nat)), rfl, HV.up 9 _ (fun x hx => Option.some.inj hx), Ext.trans s0 he⟩)
              have HU := Lib.hid (show (upd V 9 (.int .u64 (p0.addr : Nat))) 2 = .bool true ∧ (upd V 9 (.int .u64 (p0.addr : Nat))) 8 = .pointer (some ⟨bb, oo + m * 11, none⟩) from ⟨e2, e8⟩)
              clear hK hC hW hL HV s0
              rw [HFR.out]
              rw [e2, e8]
              clear e2 e8
              have hcl := hB.cell X0.out
              clear hB
              go_wp2_with fail
              show K _ _
              have := H.out _ (Ext.refl _)
              rw [HFR.out] at this
              obtain ⟨u2, u8⟩ := HU.out
              rw [u2, u8] at this
              exact this
            · rintro L A W K hL hC hW ⟨V, rfl, HV, s0⟩ hK
              have e2 : V 2 = .bool true := HV 2 _ rfl (hW 2 rfl)
              have H := Lib.hid (show ∀ W', Ext W W' → K (fr (upd V 10 (.pointer (some ⟨g4, 0, none⟩)))) W' from fun W' he => hK _ _ ⟨upd V 10 (.pointer (some ⟨g4, 0, none⟩)), rfl, HV.up 10 _ (fun x hx => Option.some.inj hx), Ext.trans s0 he⟩)
              have HU := Lib.hid (show (upd V 10 (.pointer (some ⟨g4, 0, none⟩))) 2 = .bool true from e2)
              clear hK hC hW hL HV s0
              rw [HFR.out]
              rw [e2]
              clear e2
              go_wp2_with fail
              show K _ _
              have := H.out _ (Ext.refl _)
              rw [HFR.out] at this
              obtain u2 := HU.out
              rw [u2] at this
              exact this
            · rintro L A W K hL hC hW ⟨V, rfl, HV, s0⟩ hK
              have e2 : V 2 = .bool true := HV 2 _ rfl (hW 2 rfl)
              have e10 : V 10 = .pointer (some ⟨g4, 0, none⟩) := HV 10 _ rfl (hW 10 rfl)
              have hB := s0
              have H := Lib.hid (show ∀ W', Ext W W' → K (fr (upd V 11 (.int .u64 (p.addr : Nat)))) W' from fun W' he => hK _ _ ⟨upd V 11 (.int .u64 (p.addr : Nat)), rfl, HV.up 11 _ (fun x hx => Option.some.inj hx), Ext.trans s0 he⟩)
              have HU := Lib.hid (show (upd V 11 (.int .u64 (p.addr : Nat))) 2 = .bool true ∧ (upd V 11 (.int .u64 (p.addr : Nat))) 10 = .pointer (some ⟨g4, 0, none⟩) from ⟨e2, e10⟩)
              clear hK hC hW hL HV s0
              rw [HFR.out]
              rw [e2, e10]
              clear e2 e10
              have hcl := Hb.addr (show Hb W g4 p from Cs.ext HKB.out hB)
              clear hB
              go_wp2_with fail
              show K _ _
              have := H.out _ (Ext.refl _)
              rw [HFR.out] at this
              obtain ⟨u2, u10⟩ := HU.out
              rw [u2, u10] at this
              exact this
            · rintro L A W K hL hC hW ⟨V, rfl, HV, s0⟩ hK
              have e2 : V 2 = .bool true := HV 2 _ rfl (hW 2 rfl)
              have e9 : V 9 = .int .u64 (p0.addr : Nat) := HV 9 _ rfl (hW 9 rfl)
              have e11 : V 11 = .int .u64 (p.addr : Nat) := HV 11 _ rfl (hW 11 rfl)
              have H := Lib.hid (show ∀ W', Ext W W' → K (fr (upd V 12 (.bool false))) W' from fun W' he => hK _ _ ⟨upd V 12 (.bool false), rfl, HV.up 12 _ (fun x hx => Option.some.inj hx), Ext.trans s0 he⟩)
              have HU := Lib.hid (show (upd V 12 (.bool false)) 2 = .bool true ∧ (upd V 12 (.bool false)) 9 = .int .u64 (p0.addr : Nat) ∧ (upd V 12 (.bool false)) 11 = .int .u64 (p.addr : Nat) from ⟨e2, e9, e11⟩)
              clear hK hC hW hL HV s0
              rw [HFR.out]
              rw [e2, e9, e11]
              clear e2 e9 e11
              go_wp2_with fail
              show K _ _
              have := H.out _ (Ext.refl _)
              rw [HFR.out] at this
              obtain ⟨u2, u9, u11⟩ := HU.out
              rw [u2, u9, u11] at this
              exact this
            · rintro L A W K hL hC hW ⟨V, rfl, HV, s0⟩ hK
              have e2 : V 2 = .bool true := HV 2 _ rfl (hW 2 rfl)
              have e12 : V 12 = .bool false := HV 12 _ rfl (hW 12 rfl)
              have H := Lib.hid (show ∀ W', Ext W W' → K (fr (upd V 13 (.bool false))) W' from fun W' he => hK _ _ ⟨upd V 13 (.bool false), rfl, HV.up 13 _ (fun x hx => Option.some.inj hx), Ext.trans s0 he⟩)
              have HU := Lib.hid (show (upd V 13 (.bool false)) 2 = .bool true ∧ (upd V 13 (.bool false)) 12 = .bool false from ⟨e2, e12⟩)
              clear hK hC hW hL HV s0
              rw [HFR.out]
              rw [e2, e12]
              clear e2 e12
              go_wp2_with fail
              show K _ _
              have := H.out _ (Ext.refl _)
              rw [HFR.out] at this
              obtain ⟨u2, u12⟩ := HU.out
              rw [u2, u12] at this
              exact this
            · rintro L A W hL ⟨V, rfl, HV, s0⟩
              have e0 : V 0 = .int .i64 k := HV 0 _ rfl (hL 0 (by simp))
              have e1 : V 1 = .bool true := HV 1 _ rfl (hL 1 (by simp))
              have e2 : V 2 = .bool true := HV 2 _ rfl (hL 2 (by simp))
              have e3 : V 3 = .pointer (some ⟨gL, 0, none⟩) := HV 3 _ rfl (hL 3 (by simp))
              have e4 : V 4 = .slice (some ⟨bb, oo, none⟩) l.length c1 := HV 4 _ rfl (hL 4 (by simp))
              have e5 : V 5 = .int .i64 k := HV 5 _ rfl (hL 5 (by simp))
              have e6 : V 6 = .int .i64 m := HV 6 _ rfl (hL 6 (by simp))
              have e7 : V 7 = .pointer (some ⟨bb, oo + m * 11, none⟩) := HV 7 _ rfl (hL 7 (by simp))
              have e8 : V 8 = .pointer (some ⟨bb, oo + m * 11, none⟩) := HV 8 _ rfl (hL 8 (by simp))
              have e9 : V 9 = .int .u64 (p0.addr : Nat) := HV 9 _ rfl (hL 9 (by simp))
              have e10 : V 10 = .pointer (some ⟨g4, 0, none⟩) := HV 10 _ rfl (hL 10 (by simp))
              have e11 : V 11 = .int .u64 (p.addr : Nat) := HV 11 _ rfl (hL 11 (by simp))
              have e12 : V 12 = .bool false := HV 12 _ rfl (hL 12 (by simp))
              have e13 : V 13 = .bool false := HV 13 _ rfl (hL 13 (by simp))
              have hA := s0
              rw [HFR.out]
              rw [e0, e1, e2, e3, e4, e5, e6, e7, e8, e9, e10, e11, e12, e13]
              clear hL HV HFR e0 e1 e2 e3 e4 e5 e6 e7 e8 e9 e10 e11 e12 e13 s0
              have HA4 := Lib.hid hA
              clear hA
              go_wp2_with fail
              exact ⟨⟨k + 1, by omega, by go_num, Lib.hid ⟨HN.out, HJ.out.2.trans (HX.out.trans HA4.out)⟩⟩, by simp [intOf]; omega⟩
          · have hgd : decide ((p0.addr : Int) ≥ (p.addr : Int)) = true := decide_eq_true (by omega)
            have hge : decide ((p.addr : Int) ≤ (p0.addr : Int)) = true := decide_eq_true (by omega)
            have hgf : decide (p.addr ≤ p0.addr) = true := decide_eq_true (by omega)
            have HF := Lib.hid (HBAD.out (HB2.out (by rw [HLA.out]; omega)))
            clear hlt2
            refine wp_named fun a0 ha0 => ?_
            obtain ⟨fr, hfr⟩ : ∃ fr : (Nat → Value) → Act, ∀ V, fr V = ((((((((((((((a0.put (some 66) (V 0)).put (some 67) (V 1)).put (some 68) (V 2)).put (some 69) (V 3)).put (some 70) (V 4)).put (some 71) (V 5)).put (some 72) (V 6)).put (some 73) (V 7)).put (some 74) (V 8)).put (some 75) (V 9)).put (some 76) (V 10)).put (some 77) (V 11)).put (some 78) (V 12)).put (some 79) (V 13)) := ⟨fun V => ((((((((((((((a0.put (some 66) (V 0)).put (some 67) (V 1)).put (some 68) (V 2)).put (some 69) (V 3)).put (some 70) (V 4)).put (some 71) (V 5)).put (some 72) (V 6)).put (some 73) (V 7)).put (some 74) (V 8)).put (some 75) (V 9)).put (some 76) (V 10)).put (some 77) (V 11)).put (some 78) (V 12)).put (some 79) (V 13)), fun _ => rfl⟩
            rw [ha0] at hfr
            simp only [Act.put, List.setIfInBounds_toArray, List.set_cons_zero, List.set_cons_succ] at hfr
            have HFR := Lib.hid hfr
            clear hfr
            refine wp_region_inv (by kernel_rfl) (by kernel_rfl) (fun L A W => ∃ V : Nat → Value, A = fr V ∧ Vals (fun j => ([some (.int .i64 k), some (.bool true), some (.bool true), some (.pointer (some ⟨gL, 0, none⟩)), some (.slice (some ⟨bb, oo, none⟩) l.length c1), some (.int .i64 k), some (.int .i64 m), some (.pointer (some ⟨bb, oo + m * 11, none⟩)), some (.pointer (some ⟨bb, oo + m * 11, none⟩)), some (.int .u64 (p0.addr : Nat)), some (.pointer (some ⟨g4, 0, none⟩)), some (.int .u64 (p.addr : Nat)), some (.bool true), some (.bool true)] : List (Option Value)).getD j none) L V ∧ (Ext w7 W)) ?_ ⟨?_, ?_, ?_, ?_, ?_, ?_, ?_, ?_, ?_, ?_, ?_, ?_, ?_, ?_, trivial⟩ ?_
            · refine ⟨fun j => a0.tmps.getD (([66, 67, 68, 69, 70, 71, 72, 73, 74, 75, 76, 77, 78, 79] : List Nat).getD j 0) undef, ?_, Vals.no _ _ _ (far_none _ _ rfl), (Ext.refl _).drew⟩
              rw [HFR.out, ha0]
              rfl
            all_goals clear ha0
            · rintro L A W K hL hC hW ⟨V, rfl, HV, s0⟩ hK
              have H := Lib.hid (show ∀ W', Ext W W' → K (fr (upd V 0 (.int .i64 k))) W' from fun W' he => hK _ _ ⟨upd V 0 (.int .i64 k), rfl, HV.up 0 _ (fun x hx => Option.some.inj hx), Ext.trans s0 he⟩)
              clear hK hC hW hL HV s0
              rw [HFR.out]
              go_wp2_with fail
              show K _ _
              have := H.out _ (Ext.refl _)
              rw [HFR.out] at this
              exact this
            · rintro L A W K hL hC hW ⟨V, rfl, HV, s0⟩ hK
              have e0 : V 0 = .int .i64 k := HV 0 _ rfl (hW 0 rfl)
              have H := Lib.hid (show ∀ W', Ext W W' → K (fr (upd V 1 (.bool true))) W' from fun W' he => hK _ _ ⟨upd V 1 (.bool true), rfl, HV.up 1 _ (fun x hx => Option.some.inj hx), Ext.trans s0 he⟩)
              have HU := Lib.hid (show (upd V 1 (.bool true)) 0 = .int .i64 k from e0)
              clear hK hC hW hL HV s0
              rw [HFR.out]
              rw [e0]
              clear e0
              go_wp2_with fail
              show K _ _
              have := H.out _ (Ext.refl _)
              rw [HFR.out] at this
              obtain u0 := HU.out
              rw [u0] at this
              exact this
            · rintro L A W K hL hC hW ⟨V, rfl, HV, s0⟩ hK
              have e1 : V 1 = .bool true := HV 1 _ rfl (hW 1 rfl)
              have H := Lib.hid (show ∀ W', Ext W W' → K (fr (upd V 2 (.bool true))) W' from fun W' he => hK _ _ ⟨upd V 2 (.bool true), rfl, HV.up 2 _ (fun x hx => Option.some.inj hx), Ext.trans s0 he⟩)
              have HU := Lib.hid (show (upd V 2 (.bool true)) 1 = .bool true from e1)
              clear hK hC hW hL HV s0
              rw [HFR.out]
              rw [e1]
              clear e1
              go_wp2_with fail
              show K _ _
              have := H.out _ (Ext.refl _)
              rw [HFR.out] at this
              obtain u1 := HU.out
              rw [u1] at this
              exact this
            · rintro L A W K hL hC hW ⟨V, rfl, HV, s0⟩ hK
              have e2 : V 2 = .bool true := HV 2 _ rfl (hW 2 rfl)
              have H := Lib.hid (show ∀ W', Ext W W' → K (fr (upd V 3 (.pointer (some ⟨gL, 0, none⟩)))) W' from fun W' he => hK _ _ ⟨upd V 3 (.pointer (some ⟨gL, 0, none⟩)), rfl, HV.up 3 _ (fun x hx => Option.some.inj hx), Ext.trans s0 he⟩)
              have HU := Lib.hid (show (upd V 3 (.pointer (some ⟨gL, 0, none⟩))) 2 = .bool true from e2)
              clear hK hC hW hL HV s0
              rw [HFR.out]
              rw [e2]
              clear e2
              go_wp2_with fail
              show K _ _
              have := H.out _ (Ext.refl _)
              rw [HFR.out] at this
              obtain u2 := HU.out
              rw [u2] at this
              exact this
            · rintro L A W K hL hC hW ⟨V, rfl, HV, s0⟩ hK
              have e2 : V 2 = .bool true := HV 2 _ rfl (hW 2 rfl)
              have e3 : V 3 = .pointer (some ⟨gL, 0, none⟩) := HV 3 _ rfl (hW 3 rfl)
              have hB := s0
              have H := Lib.hid (show ∀ W', Ext W W' → K (fr (upd V 4 (.slice (some ⟨bb, oo, none⟩) l.length c1))) W' from fun W' he => hK _ _ ⟨upd V 4 (.slice (some ⟨bb, oo, none⟩) l.length c1), rfl, HV.up 4 _ (fun x hx => Option.some.inj hx), Ext.trans s0 he⟩)
              have HU := Lib.hid (show (upd V 4 (.slice (some ⟨bb, oo, none⟩) l.length c1)) 2 = .bool true ∧ (upd V 4 (.slice (some ⟨bb, oo, none⟩) l.length c1)) 3 = .pointer (some ⟨gL, 0, none⟩) from ⟨e2, e3⟩)
              clear hK hC hW hL HV s0
              rw [HFR.out]
              rw [e2, e3]
              clear e2 e3
              have hcl := (Cs.ext HL8.out hB).cell 0 _ rfl
              clear hB
              go_wp2_with fail
              show K _ _
              have := H.out _ (Ext.refl _)
              rw [HFR.out] at this
              obtain ⟨u2, u3⟩ := HU.out
              rw [u2, u3] at this
              exact this
            · rintro L A W K hL hC hW ⟨V, rfl, HV, s0⟩ hK
              have e2 : V 2 = .bool true := HV 2 _ rfl (hW 2 rfl)
              have H := Lib.hid (show ∀ W', Ext W W' → K (fr (upd V 5 (.int .i64 k))) W' from fun W' he => hK _ _ ⟨upd V 5 (.int .i64 k), rfl, HV.up 5 _ (fun x hx => Option.some.inj hx), Ext.trans s0 he⟩)
              have HU := Lib.hid (show (upd V 5 (.int .i64 k)) 2 = .bool true from e2)
              clear hK hC hW hL HV s0
              rw [HFR.out]
              rw [e2]
              clear e2
              go_wp2_with fail
              show K _ _
              have := H.out _ (Ext.refl _)
              rw [HFR.out] at this
              obtain u2 := HU.out
              rw [u2] at this
              exact this
            · rintro L A W K hL hC hW ⟨V, rfl, HV, s0⟩ hK
              have e2 : V 2 = .bool true := HV 2 _ rfl (hW 2 rfl)
              have e5 : V 5 = .int .i64 k := HV 5 _ rfl (hW 5 rfl)
              have H := Lib.hid (show ∀ W', Ext W W' → K (fr (upd V 6 (.int .i64 m))) W' from fun W' he => hK _ _ ⟨upd V 6 (.int .i64 m), rfl, HV.up 6 _ (fun x hx => Option.some.inj hx), Ext.trans s0 he⟩)
              have HU := Lib.hid (show (upd V 6 (.int .i64 m)) 2 = .bool true ∧ (upd V 6 (.int .i64 m)) 5 = .int .i64 k from ⟨e2, e5⟩)
              clear hK hC hW hL HV s0
              rw [HFR.out]
              rw [e2, e5]
              clear e2 e5
              go_wp2_with fail
              show K _ _
              have := H.out _ (Ext.refl _)
              rw [HFR.out] at this
              obtain ⟨u2, u5⟩ := HU.out
              rw [u2, u5] at this
              exact this
            · rintro L A W K hL hC hW ⟨V, rfl, HV, s0⟩ hK
              have e2 : V 2 = .bool true := HV 2 _ rfl (hW 2 rfl)
              have e4 : V 4 = .slice (some ⟨bb, oo, none⟩) l.length c1 := HV 4 _ rfl (hW 4 rfl)
              have e6 : V 6 = .int .i64 m := HV 6 _ rfl (hW 6 rfl)
              have H := Lib.hid (show ∀ W', Ext W W' → K (fr (upd V 7 (.pointer (some ⟨bb, oo + m * 11, none⟩)))) W' from fun W' he => hK _ _ ⟨upd V 7 (.pointer (some ⟨bb, oo + m * 11, none⟩)), rfl, HV.up 7 _ (fun x hx => Option.some.inj hx), Ext.trans s0 he⟩)
              have HU := Lib.hid (show (upd V 7 (.pointer (some ⟨bb, oo + m * 11, none⟩))) 2 = .bool true ∧ (upd V 7 (.pointer (some ⟨bb, oo + m * 11, none⟩))) 4 = .slice (some ⟨bb, oo, none⟩) l.length c1 ∧ (upd V 7 (.pointer (some ⟨bb, oo + m * 11, none⟩))) 6 = .int .i64 m from ⟨e2, e4, e6⟩)
              clear hK hC hW hL HV s0
              rw [HFR.out]
              rw [e2, e4, e6]
              clear e2 e4 e6
              go_wp2_with fail
              show K _ _
              have := H.out _ (Ext.refl _)
              rw [HFR.out] at this
              obtain ⟨u2, u4, u6⟩ := HU.out
              rw [u2, u4, u6] at this
              exact this
            · rintro L A W K hL hC hW ⟨V, rfl, HV, s0⟩ hK
              have e2 : V 2 = .bool true := HV 2 _ rfl (hW 2 rfl)
              have e7 : V 7 = .pointer (some ⟨bb, oo + m * 11, none⟩) := HV 7 _ rfl (hW 7 rfl)
              have H := Lib.hid (show ∀ W', Ext W W' → K (fr (upd V 8 (.pointer (some ⟨bb, oo + m * 11, none⟩)))) W' from fun W' he => hK _ _ ⟨upd V 8 (.pointer (some ⟨bb, oo + m * 11, none⟩)), rfl, HV.up 8 _ (fun x hx => Option.some.inj hx), Ext.trans s0 he⟩)
              have HU := Lib.hid (show (upd V 8 (.pointer (some ⟨bb, oo + m * 11, none⟩))) 2 = .bool true ∧ (upd V 8 (.pointer (some ⟨bb, oo + m * 11, none⟩))) 7 = .pointer (some ⟨bb, oo + m * 11, none⟩) from ⟨e2, e7⟩)
              clear hK hC hW hL HV s0
              rw [HFR.out]
              rw [e2, e7]
              clear e2 e7
              go_wp2_with fail
              show K _ _
              have := H.out _ (Ext.refl _)
              rw [HFR.out] at this
              obtain ⟨u2, u7⟩ := HU.out
              rw [u2, u7] at this
              exact this
            · rintro L A W K hL hC hW ⟨V, rfl, HV, s0⟩ hK
              have e2 : V 2 = .bool true := HV 2 _ rfl (hW 2 rfl)
              have e8 : V 8 = .pointer (some ⟨bb, oo + m * 11, none⟩) := HV 8 _ rfl (hW 8 rfl)
              have hB := s0
              have H := Lib.hid (show ∀ W', Ext W W' → K (fr (upd V 9 (.int .u64 (p0.addr : Nat)))) W' from fun W' he => hK _ _ ⟨upd V 9 (.int .u64 (p0.addr : Nat)), rfl, HV.up 9 _ (fun x hx => Option.some.inj hx), Ext.trans s0 he⟩)
              have HU := Lib.hid (show (upd V 9 (.int .u64 (p0.addr : Nat))) 2 = .bool true ∧ (upd V 9 (.int .u64 (p0.addr : Nat))) 8 = .pointer (some ⟨bb, oo + m * 11, none⟩) from ⟨e2, e8⟩)
              clear hK hC hW hL HV s0
              rw [HFR.out]
              rw [e2, e8]
              clear e2 e8
              have hcl := hB.cell X0.out
              clear hB
              go_wp2_with fail
              show K _ _
              have := H.out _ (Ext.refl _)
              rw [HFR.out] at this
              obtain ⟨u2, u8⟩ := HU.out
              rw [u2, u8] at this
              exact this
            · rintro L A W K hL hC hW ⟨V, rfl, HV, s0⟩ hK
              have e2 : V 2 = .bool true := HV 2 _ rfl (hW 2 rfl)
              have H := Lib.hid (show ∀ W', Ext W W' → K (fr (upd V 10 (.pointer (some ⟨g4, 0, none⟩)))) W' from fun W' he => hK _ _ ⟨upd V 10 (.pointer (some ⟨g4, 0, none⟩)), rfl, HV.up 10 _ (fun x hx => Option.some.inj hx), Ext.trans s0 he⟩)
              have HU := Lib.hid (show (upd V 10 (.pointer (some ⟨g4, 0, none⟩))) 2 = .bool true from e2)
              clear hK hC hW hL HV s0
              rw [HFR.out]
              rw [e2]
              clear e2
              go_wp2_with fail
              show K _ _
              have := H.out _ (Ext.refl _)
              rw [HFR.out] at this
              obtain u2 := HU.out
              rw [u2] at this
              exact this
            · rintro L A W K hL hC hW ⟨V, rfl, HV, s0⟩ hK
              have e2 : V 2 = .bool true := HV 2 _ rfl (hW 2 rfl)
              have e10 : V 10 = .pointer (some ⟨g4, 0, none⟩) := HV 10 _ rfl (hW 10 rfl)
              have hB := s0
              have H := Lib.hid (show ∀ W', Ext W W' → K (fr (upd V 11 (.int .u64 (p.addr : Nat)))) W' from fun W' he => hK _ _ ⟨upd V 11 (.int .u64 (p.addr : Nat)), rfl, HV.up 11 _ (fun x hx => Option.some.inj hx), Ext.trans s0 he⟩)
              have HU := Lib.hid (show (upd V 11 (.int .u64 (p.addr : Nat))) 2 = .bool true ∧ (upd V 11 (.int .u64 (p.addr : Nat))) 10 = .pointer (some ⟨g4, 0, none⟩) from ⟨e2, e10⟩)
              clear hK hC hW hL HV s0
              rw [HFR.out]
              rw [e2, e10]
              clear e2 e10
              have hcl := Hb.addr (show Hb W g4 p from Cs.ext HKB.out hB)
              clear hB
              go_wp2_with fail
              show K _ _
              have := H.out _ (Ext.refl _)
              rw [HFR.out] at this
              obtain ⟨u2, u10⟩ := HU.out
              rw [u2, u10] at this
              exact this
            · rintro L A W K hL hC hW ⟨V, rfl, HV, s0⟩ hK
              have e2 : V 2 = .bool true := HV 2 _ rfl (hW 2 rfl)
              have e9 : V 9 = .int .u64 (p0.addr : Nat) := HV 9 _ rfl (hW 9 rfl)
              have e11 : V 11 = .int .u64 (p.addr : Nat) := HV 11 _ rfl (hW 11 rfl)
              have H := Lib.hid (show ∀ W', Ext W W' → K (fr (upd V 12 (.bool true))) W' from fun W' he => hK _ _ ⟨upd V 12 (.bool true), rfl, HV.up 12 _ (fun x hx => Option.some.inj hx), Ext.trans s0 he⟩)
              have HU := Lib.hid (show (upd V 12 (.bool true)) 2 = .bool true ∧ (upd V 12 (.bool true)) 9 = .int .u64 (p0.addr : Nat) ∧ (upd V 12 (.bool true)) 11 = .int .u64 (p.addr : Nat) from ⟨e2, e9, e11⟩)
              clear hK hC hW hL HV s0
              rw [HFR.out]
              rw [e2, e9, e11]
              clear e2 e9 e11
              go_wp2_with fail
              show K _ _
              have := H.out _ (Ext.refl _)
              rw [HFR.out] at this
              obtain ⟨u2, u9, u11⟩ := HU.out
              rw [u2, u9, u11] at this
              exact this
            · rintro L A W K hL hC hW ⟨V, rfl, HV, s0⟩ hK
              have e2 : V 2 = .bool true := HV 2 _ rfl (hW 2 rfl)
              have e12 : V 12 = .bool true := HV 12 _ rfl (hW 12 rfl)
              have H := Lib.hid (show ∀ W', Ext W W' → K (fr (upd V 13 (.bool true))) W' from fun W' he => hK _ _ ⟨upd V 13 (.bool true), rfl, HV.up 13 _ (fun x hx => Option.some.inj hx), Ext.trans s0 he⟩)
              have HU := Lib.hid (show (upd V 13 (.bool true)) 2 = .bool true ∧ (upd V 13 (.bool true)) 12 = .bool true from ⟨e2, e12⟩)
              clear hK hC hW hL HV s0
              rw [HFR.out]
              rw [e2, e12]
              clear e2 e12
              go_wp2_with fail
              show K _ _
              have := H.out _ (Ext.refl _)
              rw [HFR.out] at this
              obtain ⟨u2, u12⟩ := HU.out
              rw [u2, u12] at this
              exact this
            · rintro L A W hL ⟨V, rfl, HV, s0⟩
              have e0 : V 0 = .int .i64 k := HV 0 _ rfl (hL 0 (by simp))
              have e1 : V 1 = .bool true := HV 1 _ rfl (hL 1 (by simp))
              have e2 : V 2 = .bool true := HV 2 _ rfl (hL 2 (by simp))
              have e3 : V 3 = .pointer (some ⟨gL, 0, none⟩) := HV 3 _ rfl (hL 3 (by simp))
              have e4 : V 4 = .slice (some ⟨bb, oo, none⟩) l.length c1 := HV 4 _ rfl (hL 4 (by simp))
              have e5 : V 5 = .int .i64 k := HV 5 _ rfl (hL 5 (by simp))
              have e6 : V 6 = .int .i64 m := HV 6 _ rfl (hL 6 (by simp))
              have e7 : V 7 = .pointer (some ⟨bb, oo + m * 11, none⟩) := HV 7 _ rfl (hL 7 (by simp))
              have e8 : V 8 = .pointer (some ⟨bb, oo + m * 11, none⟩) := HV 8 _ rfl (hL 8 (by simp))
              have e9 : V 9 = .int .u64 (p0.addr : Nat) := HV 9 _ rfl (hL 9 (by simp))
              have e10 : V 10 = .pointer (some ⟨g4, 0, none⟩) := HV 10 _ rfl (hL 10 (by simp))
              have e11 : V 11 = .int .u64 (p.addr : Nat) := HV 11 _ rfl (hL 11 (by simp))
              have e12 : V 12 = .bool true := HV 12 _ rfl (hL 12 (by simp))
              have e13 : V 13 = .bool true := HV 13 _ rfl (hL 13 (by simp))
              have hA := s0
              rw [HFR.out]
              rw [e0, e1, e2, e3, e4, e5, e6, e7, e8, e9, e10, e11, e12, e13]
              clear hL HV HFR e0 e1 e2 e3 e4 e5 e6 e7 e8 e9 e10 e11 e12 e13 s0
              have HA4 := Lib.hid hA
              clear hA
              go_wp2_with fail
              go_ret
              exact ⟨by rw [HF.out]; rfl, HE.out.trans (HX.out.trans HA4.out)⟩
        · go_wp2_with (first
            | ((with_reducible refine wpList_load_wordIn ?_ (.tmp 33) ?_ g4 1 (p.dep) ?_ ?_ ?_); (exact rfl); (exact rfl); (exact rfl); (exact KD.out))
            | ((with_reducible refine wpList_load_wordIn ?_ (.tmp 37) ?_ g4 5 (p.stk) ?_ ?_ ?_); (exact rfl); (exact rfl); (exact rfl); (exact KS.out))
            | ((with_reducible refine wpList_load_wordIn ?_ (.tmp 42) ?_ g4 5 (p.stk) ?_ ?_ ?_); (exact rfl); (exact rfl); (exact rfl); (exact KS.out))
            | ((with_reducible refine wpList_load_wordIn ?_ (.tmp 56) ?_ g4 5 (p.stk) ?_ ?_ ?_); (exact rfl); (exact rfl); (exact rfl); (exact KS.out)))
          refine (refNone_any p.stk _ HP2.out).mono ?_
          rintro e w6 ⟨rfl, he⟩
          rw [show decide (p.stk = 0) = false from decide_eq_false (by first | assumption | exact HS0.out | omega)]
          replace HKB := Lib.hid (show Hb w6 g4 p from Cs.ext HKB.out he)
          replace HX := Lib.hid (HX.out.trans he)
          clear he
          clear q0 q9 q10 KD KS
          have q0 := Hb.addr HKB.out
          have q9 := Hb.dly HKB.out
          have q10 := Hb.fre HKB.out
          have KD := Lib.hid (Hb.dep HKB.out)
          have KS := Lib.hid (Hb.stk HKB.out)
          by_cases hl : p.dly = 0
          · have ua : ((p.dly : Int) == 0) = true := by rw [beq_iff_eq]; omega
            have ub : (p.dly == 0) = true := by rw [beq_iff_eq]; omega
            have uc : ((p.dly : Int) != 0) = false := by rw [bne_eq_false_iff_eq]; omega
            have ud : (p.dly != 0) = false := by rw [bne_eq_false_iff_eq]; omega
            go_wp2_with (first
              | ((with_reducible refine wpList_load_wordIn ?_ (.tmp 33) ?_ g4 1 (p.dep) ?_ ?_ ?_); (exact rfl); (exact rfl); (exact rfl); (exact KD.out))
              | ((with_reducible refine wpList_load_wordIn ?_ (.tmp 37) ?_ g4 5 (p.stk) ?_ ?_ ?_); (exact rfl); (exact rfl); (exact rfl); (exact KS.out))
              | ((with_reducible refine wpList_load_wordIn ?_ (.tmp 42) ?_ g4 5 (p.stk) ?_ ?_ ?_); (exact rfl); (exact rfl); (exact rfl); (exact KS.out))
              | ((with_reducible refine wpList_load_wordIn ?_ (.tmp 56) ?_ g4 5 (p.stk) ?_ ?_ ?_); (exact rfl); (exact rfl); (exact rfl); (exact KS.out)))
            refine (refNone_any p.stk _ HP2.out).mono ?_
            rintro e w7 ⟨rfl, he⟩
            rw [show decide (p.stk = 0) = false from decide_eq_false (by first | assumption | exact HS0.out | omega)]
            replace HKB := Lib.hid (show Hb w7 g4 p from Cs.ext HKB.out he)
            replace HX := Lib.hid (HX.out.trans he)
            clear he
            clear q0 q9 q10 KD KS
            have q0 := Hb.addr HKB.out
            have q9 := Hb.dly HKB.out
            have q10 := Hb.fre HKB.out
            have KD := Lib.hid (Hb.dep HKB.out)
            have KS := Lib.hid (Hb.stk HKB.out)
            have HF := Lib.hid (HBAD.out (HB1.out (rowB_short hs hl)))
            go_wp2_with fail
            go_ret
            exact ⟨by rw [HF.out]; rfl, HE.out.trans HX.out⟩
          have ua : ((p.dly : Int) == 0) = false := by rw [beq_eq_false_iff_ne]; omega
          have ub : (p.dly == 0) = false := by rw [beq_eq_false_iff_ne]; omega
          have uc : ((p.dly : Int) != 0) = true := by rw [bne_iff_ne]; omega
          have ud : (p.dly != 0) = true := by rw [bne_iff_ne]; omega
          go_wp2_with (first
            | ((with_reducible refine wpList_load_wordIn ?_ (.tmp 33) ?_ g4 1 (p.dep) ?_ ?_ ?_); (exact rfl); (exact rfl); (exact rfl); (exact KD.out))
            | ((with_reducible refine wpList_load_wordIn ?_ (.tmp 37) ?_ g4 5 (p.stk) ?_ ?_ ?_); (exact rfl); (exact rfl); (exact rfl); (exact KS.out))
            | ((with_reducible refine wpList_load_wordIn ?_ (.tmp 42) ?_ g4 5 (p.stk) ?_ ?_ ?_); (exact rfl); (exact rfl); (exact rfl); (exact KS.out))
            | ((with_reducible refine wpList_load_wordIn ?_ (.tmp 56) ?_ g4 5 (p.stk) ?_ ?_ ?_); (exact rfl); (exact rfl); (exact rfl); (exact KS.out)))
          refine (refNone_any p.stk _ HP2.out).mono ?_
          rintro e w7 ⟨rfl, he⟩
          rw [show decide (p.stk = 0) = false from decide_eq_false (by first | assumption | exact HS0.out | omega)]
          replace HKB := Lib.hid (show Hb w7 g4 p from Cs.ext HKB.out he)
          replace HX := Lib.hid (HX.out.trans he)
          clear he
          clear q0 q9 q10 KD KS
          have q0 := Hb.addr HKB.out
          have q9 := Hb.dly HKB.out
          have q10 := Hb.fre HKB.out
          have KD := Lib.hid (Hb.dep HKB.out)
          have KS := Lib.hid (Hb.stk HKB.out)
          have HGOOD := Lib.hid (rowB_full hs hl (by omega) (by omega))
          go_upto_region 9 with fail
          clear q0 q9 q10 KD KS za zb zc zd ya yb yc xa xb xc ua ub uc ud
          have HL8 := Lib.hid (Cs.ext HL1.out HX.out)
          by_cases hk0 : k = 0
          case pos =>
            have HN := Lib.hid (HNX.out (HB3.out (by unfold lastA; rw [if_pos hk0]; omega) HGOOD.out))
            have hga : decide ((k : Int) > 0) = false := decide_eq_false (by omega)
            have hgb : decide (0 < k) = false := decide_eq_false (by omega)
            have hgc : decide ((0 : Int) < (k : Int)) = false := decide_eq_false (by omega)
            clear hk0
            refine wp_named fun a0 ha0 => ?_
            obtain ⟨fr, hfr⟩ : ∃ fr : (Nat → Value) → Act, ∀ V, fr V = ((((((((((((((a0.put (some 66) (V 0)).put (some 67) (V 1)).put (some 68) (V 2)).put (some 69) (V 3)).put (some 70) (V 4)).put (some 71) (V 5)).put (some 72) (V 6)).put (some 73) (V 7)).put (some 74) (V 8)).put (some 75) (V 9)).put (some 76) (V 10)).put (some 77) (V 11)).put (some 78) (V 12)).put (some 79) (V 13)) := ⟨fun V => ((((((((((((((a0.put (some 66) (V 0)).put (some 67) (V 1)).put (some 68) (V 2)).put (some 69) (V 3)).put (some 70) (V 4)).put (some 71) (V 5)).put (some 72) (V 6)).put (some 73) (V 7)).put (some 74) (V 8)).put (some 75) (V 9)).put (some 76) (V 10)).put (some 77) (V 11)).put (some 78) (V 12)).put (some 79) (V 13)), fun _ => rfl⟩
            rw [ha0] at hfr
            simp only [Act.put, List.setIfInBounds_toArray, List.set_cons_zero, List.set_cons_succ] at hfr
            have HFR := Lib.hid hfr
            clear hfr
            refine wp_region_inv (by kernel_rfl) (by kernel_rfl) (fun L A W => ∃ V : Nat → Value, A = fr V ∧ Vals (fun j => ([some (.int .i64 k), some (.bool false), some (.bool false), some (undef), some (undef), some (undef), some (undef), some (undef), some (undef), some (undef), some (undef), some (undef), some (undef), some (.bool false)] : List (Option Value)).getD j none) L V ∧ (Ext w7 W)) ?_ ⟨?_, ?_, ?_, ?_, ?_, ?_, ?_, ?_, ?_, ?_, ?_, ?_, ?_, ?_, trivial⟩ ?_
            · refine ⟨fun j => a0.tmps.getD (([66, 67, 68, 69, 70, 71, 72, 73, 74, 75, 76, 77, 78, 79] : List Nat).getD j 0) undef, ?_, Vals.no _ _ _ (far_none _ _ rfl), (Ext.refl _).drew⟩
              rw [HFR.out, ha0]
              rfl
            all_goals clear ha0
            · rintro L A W K hL hC hW ⟨V, rfl, HV, s0⟩ hK
              have H := Lib.hid (show ∀ W', Ext W W' → K (fr (upd V 0 (.int .i64 k))) W' from fun W' he => hK _ _ ⟨upd V 0 (.int .i64 k), rfl, HV.up 0 _ (fun x hx => Option.some.inj hx), Ext.trans s0 he⟩)
              clear hK hC hW hL HV s0
              rw [HFR.out]
              go_wp2_with fail
              show K _ _
              have := H.out _ (Ext.refl _)
              rw [HFR.out] at this
              exact this
            · rintro L A W K hL hC hW ⟨V, rfl, HV, s0⟩ hK
              have e0 : V 0 = .int .i64 k := HV 0 _ rfl (hW 0 rfl)
              have H := Lib.hid (show ∀ W', Ext W W' → K (fr (upd V 1 (.bool false))) W' from fun W' he => hK _ _ ⟨upd V 1 (.bool false), rfl, HV.up 1 _ (fun x hx => Option.some.inj hx), Ext.trans s0 he⟩)
              have HU := Lib.hid (show (upd V 1 (.bool false)) 0 = .int .i64 k from e0)
              clear hK hC hW hL HV s0
              rw [HFR.out]
              rw [e0]
              clear e0
              go_wp2_with fail
              show K _ _
              have := H.out _ (Ext.refl _)
              rw [HFR.out] at this
              obtain u0 := HU.out
              rw [u0] at this
              exact this
            · rintro L A W K hL hC hW ⟨V, rfl, HV, s0⟩ hK
              have e1 : V 1 = .bool false := HV 1 _ rfl (hW 1 rfl)
              have H := Lib.hid (show ∀ W', Ext W W' → K (fr (upd V 2 (.bool false))) W' from fun W' he => hK _ _ ⟨upd V 2 (.bool false), rfl, HV.up 2 _ (fun x hx => Option.some.inj hx), Ext.trans s0 he⟩)
              have HU := Lib.hid (show (upd V 2 (.bool false)) 1 = .bool false from e1)
              clear hK hC hW hL HV s0
              rw [HFR.out]
              rw [e1]
              clear e1
              go_wp2_with fail
              show K _ _
              have := H.out _ (Ext.refl _)
              rw [HFR.out] at this
              obtain u1 := HU.out
              rw [u1] at this
              exact this
            · rintro L A W K hL hC hW ⟨V, rfl, HV, s0⟩ hK
              have e2 : V 2 = .bool false := HV 2 _ rfl (hW 2 rfl)
              have H := Lib.hid (show ∀ W', Ext W W' → K (fr (upd V 3 (undef))) W' from fun W' he => hK _ _ ⟨upd V 3 (undef), rfl, HV.up 3 _ (fun x hx => Option.some.inj hx), Ext.trans s0 he⟩)
              have HU := Lib.hid (show (upd V 3 (undef)) 2 = .bool false from e2)
              clear hK hC hW hL HV s0
              rw [HFR.out]
              rw [e2]
              clear e2
              go_wp2_with fail
              show K _ _
              have := H.out _ (Ext.refl _)
              rw [HFR.out] at this
              obtain u2 := HU.out
              rw [u2] at this
              exact this
            · rintro L A W K hL hC hW ⟨V, rfl, HV, s0⟩ hK
              have e2 : V 2 = .bool false := HV 2 _ rfl (hW 2 rfl)
              have e3 : V 3 = undef := HV 3 _ rfl (hW 3 rfl)
              have H := Lib.hid (show ∀ W', Ext W W' → K (fr (upd V 4 (undef))) W' from fun W' he => hK _ _ ⟨upd V 4 (undef), rfl, HV.up 4 _ (fun x hx => Option.some.inj hx), Ext.trans s0 he⟩)
              have HU := Lib.hid (show (upd V 4 (undef)) 2 = .bool false ∧ (upd V 4 (undef)) 3 = undef from ⟨e2, e3⟩)
              clear hK hC hW hL HV s0
              rw [HFR.out]
              rw [e2, e3]
              clear e2 e3
              go_wp2_with fail
              show K _ _
              have := H.out _ (Ext.refl _)
              rw [HFR.out] at this
              obtain ⟨u2, u3⟩ := HU.out
              rw [u2, u3] at this
              exact this
            · rintro L A W K hL hC hW ⟨V, rfl, HV, s0⟩ hK
              have e2 : V 2 = .bool false := HV 2 _ rfl (hW 2 rfl)
              have H := Lib.hid (show ∀ W', Ext W W' → K (fr (upd V 5 (undef))) W' from fun W' he => hK _ _ ⟨upd V 5 (undef), rfl, HV.up 5 _ (fun x hx => Option.some.inj hx), Ext.trans s0 he⟩)
              have HU := Lib.hid (show (upd V 5 (undef)) 2 = .bool false from e2)
              clear hK hC hW hL HV s0
              rw [HFR.out]
              rw [e2]
              clear e2
              go_wp2_with fail
              show K _ _
              have := H.out _ (Ext.refl _)
              rw [HFR.out] at this
              obtain u2 := HU.out
              rw [u2] at this
              exact this
            · rintro L A W K hL hC hW ⟨V, rfl, HV, s0⟩ hK
              have e2 : V 2 = .bool false := HV 2 _ rfl (hW 2 rfl)
              have e5 : V 5 = undef := HV 5 _ rfl (hW 5 rfl)
              have H := Lib.hid (show ∀ W', Ext W W' → K (fr (upd V 6 (undef))) W' from fun W' he => hK _ _ ⟨upd V 6 (undef), rfl, HV.up 6 _ (fun x hx => Option.some.inj hx), Ext.trans s0 he⟩)
              have HU := Lib.hid (show (upd V 6 (undef)) 2 = .bool false ∧ (upd V 6 (undef)) 5 = undef from ⟨e2, e5⟩)
              clear hK hC hW hL HV s0
              rw [HFR.out]
              rw [e2, e5]
              clear e2 e5
              go_wp2_with fail
              show K _ _
              have := H.out _ (Ext.refl _)
              rw [HFR.out] at this
              obtain ⟨u2, u5⟩ := HU.out
              rw [u2, u5] at this
              exact this
            · rintro L A W K hL hC hW ⟨V, rfl, HV, s0⟩ hK
              have e2 : V 2 = .bool false := HV 2 _ rfl (hW 2 rfl)
              have e4 : V 4 = undef := HV 4 _ rfl (hW 4 rfl)
              have e6 : V 6 = undef := HV 6 _ rfl (hW 6 rfl)
              have H := Lib.hid (show ∀ W', Ext W W' → K (fr (upd V 7 (undef))) W' from fun W' he => hK _ _ ⟨upd V 7 (undef), rfl, HV.up 7 _ (fun x hx => Option.some.inj hx), Ext.trans s0 he⟩)
              have HU := Lib.hid (show (upd V 7 (undef)) 2 = .bool false ∧ (upd V 7 (undef)) 4 = undef ∧ (upd V 7 (undef)) 6 = undef from ⟨e2, e4, e6⟩)
              clear hK hC hW hL HV s0
              rw [HFR.out]
              rw [e2, e4, e6]
              clear e2 e4 e6
              go_wp2_with fail
              show K _ _
              have := H.out _ (Ext.refl _)
              rw [HFR.out] at this
              obtain ⟨u2, u4, u6⟩ := HU.out
              rw [u2, u4, u6] at this
              exact this
            · rintro L A W K hL hC hW ⟨V, rfl, HV, s0⟩ hK
              have e2 : V 2 = .bool false := HV 2 _ rfl (hW 2 rfl)
              have e7 : V 7 = undef := HV 7 _ rfl (hW 7 rfl)
              have H := Lib.hid (show ∀ W', Ext W W' → K (fr (upd V 8 (undef))) W' from fun W' he => hK _ _ ⟨upd V 8 (undef), rfl, HV.up 8 _ (fun x hx => Option.some.inj hx), Ext.trans s0 he⟩)
              have HU := Lib.hid (show (upd V 8 (undef)) 2 = .bool false ∧ (upd V 8 (undef)) 7 = undef from ⟨e2, e7⟩)
              clear hK hC hW hL HV s0
              rw [HFR.out]
              rw [e2, e7]
              clear e2 e7
              go_wp2_with fail
              show K _ _
              have := H.out _ (Ext.refl _)
              rw [HFR.out] at this
              obtain ⟨u2, u7⟩ := HU.out
              rw [u2, u7] at this
              exact this
            · rintro L A W K hL hC hW ⟨V, rfl, HV, s0⟩ hK
              have e2 : V 2 = .bool false := HV 2 _ rfl (hW 2 rfl)
              have e8 : V 8 = undef := HV 8 _ rfl (hW 8 rfl)
              have H := Lib.hid (show ∀ W', Ext W W' → K (fr (upd V 9 (undef))) W' from fun W' he => hK _ _ ⟨upd V 9 (undef), rfl, HV.up 9 _ (fun x hx => Option.some.inj hx), Ext.trans s0 he⟩)
              have HU := Lib.hid (show (upd V 9 (undef)) 2 = .bool false ∧ (upd V 9 (undef)) 8 = undef from ⟨e2, e8⟩)
              clear hK hC hW hL HV s0
              rw [HFR.out]
              rw [e2, e8]
              clear e2 e8
              go_wp2_with fail
              show K _ _
              have := H.out _ (Ext.refl _)
              rw [HFR.out] at this
              obtain ⟨u2, u8⟩ := HU.out
              rw [u2, u8] at this
              exact this
            · rintro L A W K hL hC hW ⟨V, rfl, HV, s0⟩ hK
              have e2 : V 2 = .bool false := HV 2 _ rfl (hW 2 rfl)
              have H := Lib.hid (show ∀ W', Ext W W' → K (fr (upd V 10 (undef))) W' from fun W' he => hK _ _ ⟨upd V 10 (undef), rfl, HV.up 10 _ (fun x hx => Option.some.inj hx), Ext.trans s0 he⟩)
              have HU := Lib.hid (show (upd V 10 (undef)) 2 = .bool false from e2)
              clear hK hC hW hL HV s0
              rw [HFR.out]
              rw [e2]
              clear e2
              go_wp2_with fail
              show K _ _
              have := H.out _ (Ext.refl _)
              rw [HFR.out] at this
              obtain u2 := HU.out
              rw [u2] at this
              exact this
            · rintro L A W K hL hC hW ⟨V, rfl, HV, s0⟩ hK
              have e2 : V 2 = .bool false := HV 2 _ rfl (hW 2 rfl)
              have e10 : V 10 = undef := HV 10 _ rfl (hW 10 rfl)
              have H := Lib.hid (show ∀ W', Ext W W' → K (fr (upd V 11 (undef))) W' from fun W' he => hK _ _ ⟨upd V 11 (undef), rfl, HV.up 11 _ (fun x hx => Option.some.inj hx), Ext.trans s0 he⟩)
              have HU := Lib.hid (show (upd V 11 (undef)) 2 = .bool false ∧ (upd V 11 (undef)) 10 = undef from ⟨e2, e10⟩)
              clear hK hC hW hL HV s0
              rw [HFR.out]
              rw [e2, e10]
              clear e2 e10
              go_wp2_with fail
              show K _ _
              have := H.out _ (Ext.refl _)
              rw [HFR.out] at this
              obtain ⟨u2, u10⟩ := HU.out
              rw [u2, u10] at this
              exact this
            · rintro L A W K hL hC hW ⟨V, rfl, HV, s0⟩ hK
              have e2 : V 2 = .bool false := HV 2 _ rfl (hW 2 rfl)
              have e9 : V 9 = undef := HV 9 _ rfl (hW 9 rfl)
              have e11 : V 11 = undef := HV 11 _ rfl (hW 11 rfl)
              have H := Lib.hid (show ∀ W', Ext W W' → K (fr (upd V 12 (undef))) W' from fun W' he => hK _ _ ⟨upd V 12 (undef), rfl, HV.up 12 _ (fun x hx => Option.some.inj hx), Ext.trans s0 he⟩)
              have HU := Lib.hid (show (upd V 12 (undef)) 2 = .bool false ∧ (upd V 12 (undef)) 9 = undef ∧ (upd V 12 (undef)) 11 = undef from ⟨e2, e9, e11⟩)
              clear hK hC hW hL HV s0
              rw [HFR.out]
              rw [e2, e9, e11]
              clear e2 e9 e11
              go_wp2_with fail
              show K _ _
              have := H.out _ (Ext.refl _)
              rw [HFR.out] at this
              obtain ⟨u2, u9, u11⟩ := HU.out
              rw [u2, u9, u11] at this
              exact this
            · rintro L A W K hL hC hW ⟨V, rfl, HV, s0⟩ hK
              have e2 : V 2 = .bool false := HV 2 _ rfl (hW 2 rfl)
              have e12 : V 12 = undef := HV 12 _ rfl (hW 12 rfl)
              have H := Lib.hid (show ∀ W', Ext W W' → K (fr (upd V 13 (.bool false))) W' from fun W' he => hK _ _ ⟨upd V 13 (.bool false), rfl, HV.up 13 _ (fun x hx => Option.some.inj hx), Ext.trans s0 he⟩)
              have HU := Lib.hid (show (upd V 13 (.bool false)) 2 = .bool false ∧ (upd V 13 (.bool false)) 12 = undef from ⟨e2, e12⟩)
              clear hK hC hW hL HV s0
              rw [HFR.out]
              rw [e2, e12]
              clear e2 e12
              go_wp2_with fail
              show K _ _
              have := H.out _ (Ext.refl _)
              rw [HFR.out] at this
              obtain ⟨u2, u12⟩ := HU.out
              rw [u2, u12] at this
              exact this
            · rintro L A W hL ⟨V, rfl, HV, s0⟩
              have e0 : V 0 = .int .i64 k := HV 0 _ rfl (hL 0 (by simp))
              have e1 : V 1 = .bool false := HV 1 _ rfl (hL 1 (by simp))
              have e2 : V 2 = .bool false := HV 2 _ rfl (hL 2 (by simp))
              have e3 : V 3 = undef := HV 3 _ rfl (hL 3 (by simp))
              have e4 : V 4 = undef := HV 4 _ rfl (hL 4 (by simp))
              have e5 : V 5 = undef := HV 5 _ rfl (hL 5 (by simp))
              have e6 : V 6 = undef := HV 6 _ rfl (hL 6 (by simp))
              have e7 : V 7 = undef := HV 7 _ rfl (hL 7 (by simp))
              have e8 : V 8 = undef := HV 8 _ rfl (hL 8 (by simp))
              have e9 : V 9 = undef := HV 9 _ rfl (hL 9 (by simp))
              have e10 : V 10 = undef := HV 10 _ rfl (hL 10 (by simp))
              have e11 : V 11 = undef := HV 11 _ rfl (hL 11 (by simp))
              have e12 : V 12 = undef := HV 12 _ rfl (hL 12 (by simp))
              have e13 : V 13 = .bool false := HV 13 _ rfl (hL 13 (by simp))
              have hA := s0
              rw [HFR.out]
              rw [e0, e1, e2, e3, e4, e5, e6, e7, e8, e9, e10, e11, e12, e13]
              clear hL HV HFR e0 e1 e2 e3 e4 e5 e6 e7 e8 e9 e10 e11 e12 e13 s0
              have HA4 := Lib.hid hA
              clear hA
              go_wp2_with fail
              exact ⟨⟨k + 1, by omega, by go_num, Lib.hid ⟨HN.out, HJ.out.2.trans (HX.out.trans HA4.out)⟩⟩, by simp [intOf]; omega⟩
          have hga : decide ((k : Int) > 0) = true := decide_eq_true (by omega)
          have hgb : decide (0 < k) = true := decide_eq_true (by omega)
          have hgc : decide ((0 : Int) < (k : Int)) = true := decide_eq_true (by omega)
          obtain ⟨b', o', e', x0, hp0⟩ := (HS.out.ext (HE.out.trans HX.out)).at (k - 1) (by omega)
          injection e' with e'
          injection e' with e1' e2' _
          subst e1' e2'
          have X0 := Lib.hid (hd_addr x0)
          have HLA := Lib.hid (show lastA l k = (l.getD (k - 1) hz0).addr by unfold lastA; rw [if_neg hk0])
          generalize l.getD (k - 1) hz0 = p0 at *
          obtain ⟨m, hm⟩ : ∃ m, k - 1 = m := ⟨_, rfl⟩
          rw [hm] at X0
          have hsub : ((k : Nat) : Int) - 1 = (m : Int) := by omega
          have hmb : m < l.length := by omega
          have hmb2 : decide (m < l.length) = true := decide_eq_true hmb
          have hmb3 : decide ((m : Int) < (l.length : Int)) = true := decide_eq_true (by omega)
          have hp01 := hp0.1
          clear x0 hm hp0 hk0
          by_cases hlt2 : p0.addr < p.addr
          · have hgd : decide ((p0.addr : Int) ≥ (p.addr : Int)) = false := decide_eq_false (by omega)
            have hge : decide ((p.addr : Int) ≤ (p0.addr : Int)) = false := decide_eq_false (by omega)
            have hgf : decide (p.addr ≤ p0.addr) = false := decide_eq_false (by omega)
            have HN := Lib.hid (HNX.out (HB3.out (by rw [HLA.out]; exact hlt2) HGOOD.out))
            clear hlt2
            refine wp_named fun a0 ha0 => ?_
            obtain ⟨fr, hfr⟩ : ∃ fr : (Nat → Value) → Act, ∀ V, fr V = ((((((((((((((a0.put (some 66) (V 0)).put (some 67) (V 1)).put (some 68) (V 2)).put (some 69) (V 3)).put (some 70) (V 4)).put (some 71) (V 5)).put (some 72) (V 6)).put (some 73) (V 7)).put (some 74) (V 8)).put (some 75) (V 9)).put (some 76) (V 10)).put (some 77) (V 11)).put (some 78) (V 12)).put (some 79) (V 13)) := ⟨fun V => ((((((((((((((a0.put (some 66) (V 0)).put (some 67) (V 1)).put (some 68) (V 2)).put (some 69) (V 3)).put (some 70) (V 4)).put (some 71) (V 5)).put (some 72) (V 6)).put (some 73) (V 7)).put (some 74) (V 8)).put (some 75) (V 9)).put (some 76) (V 10)).put (some 77) (V 11)).put (some 78) (V 12)).put (some 79) (V 13)), fun _ => rfl⟩
            rw [ha0] at hfr
            simp only [Act.put, List.setIfInBounds_toArray, List.set_cons_zero, List.set_cons_succ] at hfr
            have HFR := Lib.hid hfr
            clear hfr
            refine wp_region_inv (by kernel_rfl) (by kernel_rfl) (fun L A W => ∃ V : Nat → Value, A = fr V ∧ Vals (fun j => ([some (.int .i64 k), some (.bool true), some (.bool true), some (.pointer (some ⟨gL, 0, none⟩)), some (.slice (some ⟨bb, oo, none⟩) l.length c1), some (.int .i64 k), some (.int .i64 m), some (.pointer (some ⟨bb, oo + m * 11, none⟩)), some (.pointer (some ⟨bb, oo + m * 11, none⟩)), some (.int .u64 (p0.addr : Nat)), some (.pointer (some ⟨g4, 0, none⟩)), some (.int .u64 (p.addr : Nat)), some (.bool false), some (.bool false)] : List (Option Value)).getD j none) L V ∧ (Ext w7 W)) ?_ ⟨?_, ?_, ?_, ?_, ?_, ?_, ?_, ?_, ?_, ?_, ?_, ?_, ?_, ?_, trivial⟩ ?_
            · refine ⟨fun j => a0.tmps.getD (([66, 67, 68, 69, 70, 71, 72, 73, 74, 75, 76, 77, 78, 79] : List Nat).getD j 0) undef, ?_, Vals.no _ _ _ (far_none _ _ rfl), (Ext.refl _).drew⟩
              rw [HFR.out, ha0]
              rfl
            all_goals clear ha0
            · rintro L A W K hL hC hW ⟨V, rfl, HV, s0⟩ hK
              have H := Lib.hid (show ∀ W', Ext W W' → K (fr (upd V 0 (.int .i64 k))) W' from fun W' he => hK _ _ ⟨upd V 0 (.int .i64 k), rfl, HV.up 0 _ (fun x hx => Option.some.inj hx), Ext.trans s0 he⟩)
              clear hK hC hW hL HV s0
              rw [HFR.out]
              go_wp2_with fail
              show K _ _
              have := H.out _ (Ext.refl _)
              rw [HFR.out] at this
              exact this
            · rintro L A W K hL hC hW ⟨V, rfl, HV, s0⟩ hK
              have e0 : V 0 = .int .i64 k := HV 0 _ rfl (hW 0 rfl)
              have H := Lib.hid (show ∀ W', Ext W W' → K (fr (upd V 1 (.bool true))) W' from fun W' he => hK _ _ ⟨upd V 1 (.bool true), rfl, HV.up 1 _ (fun x hx => Option.some.inj hx), Ext.trans s0 he⟩)
              have HU := Lib.hid (show (upd V 1 (.bool true)) 0 = .int .i64 k from e0)
              clear hK hC hW hL HV s0
              rw [HFR.out]
              rw [e0]
              clear e0
              go_wp2_with fail
              show K _ _
              have := H.out _ (Ext.refl _)
              rw [HFR.out] at this
              obtain u0 := HU.out
              rw [u0] at this
              exact this
            · rintro L A W K hL hC hW ⟨V, rfl, HV, s0⟩ hK
              have e1 : V 1 = .bool true := HV 1 _ rfl (hW 1 rfl)
              have H := Lib.hid (show ∀ W', Ext W W' → K (fr (upd V 2 (.bool true))) W' from fun W' he => hK _ _ ⟨upd V 2 (.bool true), rfl, HV.up 2 _ (fun x hx => Option.some.inj hx), Ext.trans s0 he⟩)
              have HU := Lib.hid (show (upd V 2 (.bool true)) 1 = .bool true from e1)
              clear hK hC hW hL HV s0
              rw [HFR.out]
              rw [e1]
              clear e1
              go_wp2_with fail
              show K _ _
              have := H.out _ (Ext.refl _)
              rw [HFR.out] at this
              obtain u1 := HU.out
              rw [u1] at this
              exact this
            · rintro L A W K hL hC hW ⟨V, rfl, HV, s0⟩ hK
              have e2 : V 2 = .bool true := HV 2 _ rfl (hW 2 rfl)
              have H := Lib.hid (show ∀ W', Ext W W' → K (fr (upd V 3 (.pointer (some ⟨gL, 0, none⟩)))) W' from fun W' he => hK _ _ ⟨upd V 3 (.pointer (some ⟨gL, 0, none⟩)), rfl, HV.up 3 _ (fun x hx => Option.some.inj hx), Ext.trans s0 he⟩)
              have HU := Lib.hid (show (upd V 3 (.pointer (some ⟨gL, 0, none⟩))) 2 = .bool true from e2)
              clear hK hC hW hL HV s0
              rw [HFR.out]
              rw [e2]
              clear e2
              go_wp2_with fail
              show K _ _
              have := H.out _ (Ext.refl _)
              rw [HFR.out] at this
              obtain u2 := HU.out
              rw [u2] at this
              exact this
            · rintro L A W K hL hC hW ⟨V, rfl, HV, s0⟩ hK
              have e2 : V 2 = .bool true := HV 2 _ rfl (hW 2 rfl)
              have e3 : V 3 = .pointer (some ⟨gL, 0, none⟩) := HV 3 _ rfl (hW 3 rfl)
              have hB := s0
              have H := Lib.hid (show ∀ W', Ext W W' → K (fr (upd V 4 (.slice (some ⟨bb, oo, none⟩) l.length c1))) W' from fun W' he => hK _ _ ⟨upd V 4 (.slice (some ⟨bb, oo, none⟩) l.length c1), rfl, HV.up 4 _ (fun x hx => Option.some.inj hx), Ext.trans s0 he⟩)
              have HU := Lib.hid (show (upd V 4 (.slice (some ⟨bb, oo, none⟩) l.length c1)) 2 = .bool true ∧ (upd V 4 (.slice (some ⟨bb, oo, none⟩) l.length c1)) 3 = .pointer (some ⟨gL, 0, none⟩) from ⟨e2, e3⟩)
              clear hK hC hW hL HV s0
              rw [HFR.out]
              rw [e2, e3]
              clear e2 e3
              have hcl := (Cs.ext HL8.out hB).cell 0 _ rfl
              clear hB
              go_wp2_with fail
              show K _ _
              have := H.out _ (Ext.refl _)
              rw [HFR.out] at this
              obtain ⟨u2, u3⟩ := HU.out
              rw [u2, u3] at this
              exact this
            · rintro L A W K hL hC hW ⟨V, rfl, HV, s0⟩ hK
              have e2 : V 2 = .bool true := HV 2 _ rfl (hW 2 rfl)
              have H := Lib.hid (show ∀ W', Ext W W' → K (fr (upd V 5 (.int .i64 k))) W' from fun W' he => hK _ _ ⟨upd V 5 (.int .i64 k), rfl, HV.up 5 _ (fun x hx => Option.some.inj hx), Ext.trans s0 he⟩)
              have HU := Lib.hid (show (upd V 5 (.int .i64 k)) 2 = .bool true from e2)
              clear hK hC hW hL HV s0
              rw [HFR.out]
              rw [e2]
              clear e2
              go_wp2_with fail
              show K _ _
              have := H.out _ (Ext.refl _)
              rw [HFR.out] at this
              obtain u2 := HU.out
              rw [u2] at this
              exact this
            · rintro L A W K hL hC hW ⟨V, rfl, HV, s0⟩ hK
              have e2 : V 2 = .bool true := HV 2 _ rfl (hW 2 rfl)
              have e5 : V 5 = .int .i64 k := HV 5 _ rfl (hW 5 rfl)
              have H := Lib.hid (show ∀ W', Ext W W' → K (fr (upd V 6 (.int .i64 m))) W' from fun W' he => hK _ _ ⟨upd V 6 (.int .i64 m), rfl, HV.up 6 _ (fun x hx => Option.some.inj hx), Ext.trans s0 he⟩)
              have HU := Lib.hid (show (upd V 6 (.int .i64 m)) 2 = .bool true ∧ (upd V 6 (.int .i64 m)) 5 = .int .i64 k from ⟨e2, e5⟩)
              clear hK hC hW hL HV s0
              rw [HFR.out]
              rw [e2, e5]
              clear e2 e5
              go_wp2_with fail
              show K _ _
              have := H.out _ (Ext.refl _)
              rw [HFR.out] at this
              obtain ⟨u2, u5⟩ := HU.out
              rw [u2, u5] at this
              exact this
            · rintro L A W K hL hC hW ⟨V, rfl, HV, s0⟩ hK
              have e2 : V 2 = .bool true := HV 2 _ rfl (hW 2 rfl)
              have e4 : V 4 = .slice (some ⟨bb, oo, none⟩) l.length c1 := HV 4 _ rfl (hW 4 rfl)
              have e6 : V 6 = .int .i64 m := HV 6 _ rfl (hW 6 rfl)
              have H := Lib.hid (show ∀ W', Ext W W' → K (fr (upd V 7 (.pointer (some ⟨bb, oo + m * 11, none⟩)))) W' from fun W' he => hK _ _ ⟨upd V 7 (.pointer (some ⟨bb, oo + m * 11, none⟩)), rfl, HV.up 7 _ (fun x hx => Option.some.inj hx), Ext.trans s0 he⟩)
              have HU := Lib.hid (show (upd V 7 (.pointer (some ⟨bb, oo + m * 11, none⟩))) 2 = .bool true ∧ (upd V 7 (.pointer (some ⟨bb, oo + m * 11, none⟩))) 4 = .slice (some ⟨bb, oo, none⟩) l.length c1 ∧ (upd V 7 (.pointer (some ⟨bb, oo + m * 11, none⟩))) 6 = .int .i64 m from ⟨e2, e4, e6⟩)
              clear hK hC hW hL HV s0
              rw [HFR.out]
              rw [e2, e4, e6]
              clear e2 e4 e6
              go_wp2_with fail
              show K _ _
              have := H.out _ (Ext.refl _)
              rw [HFR.out] at this
              obtain ⟨u2, u4, u6⟩ := HU.out
              rw [u2, u4, u6] at this
              exact this
            · rintro L A W K hL hC hW ⟨V, rfl, HV, s0⟩ hK
              have e2 : V 2 = .bool true := HV 2 _ rfl (hW 2 rfl)
              have e7 : V 7 = .pointer (some ⟨bb, oo + m * 11, none⟩) := HV 7 _ rfl (hW 7 rfl)
              have H := Lib.hid (show ∀ W', Ext W W' → K (fr (upd V 8 (.pointer (some ⟨bb, oo + m * 11, none⟩)))) W' from fun W' he => hK _ _ ⟨upd V 8 (.pointer (some ⟨bb, oo + m * 11, none⟩)), rfl, HV.up 8 _ (fun x hx => Option.some.inj hx), Ext.trans s0 he⟩)
              have HU := Lib.hid (show (upd V 8 (.pointer (some ⟨bb, oo + m * 11, none⟩))) 2 = .bool true ∧ (upd V 8 (.pointer (some ⟨bb, oo + m * 11, none⟩))) 7 = .pointer (some ⟨bb, oo + m * 11, none⟩) from ⟨e2, e7⟩)
              clear hK hC hW hL HV s0
              rw [HFR.out]
              rw [e2, e7]
              clear e2 e7
              go_wp2_with fail
              show K _ _
              have := H.out _ (Ext.refl _)
              rw [HFR.out] at this
              obtain ⟨u2, u7⟩ := HU.out
              rw [u2, u7] at this
              exact this
            · rintro L A W K hL hC hW ⟨V, rfl, HV, s0⟩ hK
              have e2 : V 2 = .bool true := HV 2 _ rfl (hW 2 rfl)
              have e8 : V 8 = .pointer (some ⟨bb, oo + m * 11, none⟩) := HV 8 _ rfl (hW 8 rfl)
              have hB := s0
              have H := Lib.hid (show ∀ W', Ext W W' → K (fr (upd V 9 (.int .u64 (p0.addr : Nat)))) W' from fun W' he => hK _ _ ⟨upd V 9 (.int .u64 (p0.addr : Nat)), rfl, HV.up 9 _ (fun x hx => Option.some.inj hx), Ext.trans s0 he⟩)
              have HU := Lib.hid (show (upd V 9 (.int .u64 (p0.addr : Nat))) 2 = .bool true ∧ (upd V 9 (.int .u64 (p0.addr : Nat))) 8 = .pointer (some ⟨bb, oo + m * 11, none⟩) from ⟨e2, e8⟩)
              clear hK hC hW hL HV s0
              rw [HFR.out]
              rw [e2, e8]
              clear e2 e8
              have hcl := hB.cell X0.out
              clear hB
              go_wp2_with fail
              show K _ _
              have := H.out _ (Ext.refl _)
              rw [HFR.out] at this
              obtain ⟨u2, u8⟩ := HU.out
              rw [u2, u8] at this
              exact this
            · rintro L A W K hL hC hW ⟨V, rfl, HV, s0⟩ hK
              have e2 : V 2 = .bool true := HV 2 _ rfl (hW 2 rfl)
              have H := Lib.hid (show ∀ W', Ext W W' → K (fr (upd V 10 (.pointer (some ⟨g4, 0, none⟩)))) W' from fun W' he => hK _ _ ⟨upd V 10 (.pointer (some ⟨g4, 0, none⟩)), rfl, HV.up 10 _ (fun x hx => Option.some.inj hx), Ext.trans s0 he⟩)
              have HU := Lib.hid (show (upd V 10 (.pointer (some ⟨g4, 0, none⟩))) 2 = .bool true from e2)
              clear hK hC hW hL HV s0
              rw [HFR.out]
              rw [e2]
              clear e2
              go_wp2_with fail
              show K _ _
              have := H.out _ (Ext.refl _)
              rw [HFR.out] at this
              obtain u2 := HU.out
              rw [u2] at this
              exact this
            · rintro L A W K hL hC hW ⟨V, rfl, HV, s0⟩ hK
              have e2 : V 2 = .bool true := HV 2 _ rfl (hW 2 rfl)
              have e10 : V 10 = .pointer (some ⟨g4, 0, none⟩) := HV 10 _ rfl (hW 10 rfl)
              have hB := s0
              have H := Lib.hid (show ∀ W', Ext W W' → K (fr (upd V 11 (.int .u64 (p.addr : Nat)))) W' from fun W' he => hK _ _ ⟨upd V 11 (.int .u64 (p.addr : Nat)), rfl, HV.up 11 _ (fun x hx => Option.some.inj hx), Ext.trans s0 he⟩)
              have HU := Lib.hid (show (upd V 11 (.int .u64 (p.addr : Nat))) 2 = .bool true ∧ (upd V 11 (.int .u64 (p.addr : Nat))) 10 = .pointer (some ⟨g4, 0, none⟩) from ⟨e2, e10⟩)
              clear hK hC hW hL HV s0
              rw [HFR.out]
              rw [e2, e10]
              clear e2 e10
              have hcl := Hb.addr (show Hb W g4 p from Cs.ext HKB.out hB)
              clear hB
              go_wp2_with fail
              show K _ _
              have := H.out _ (Ext.refl _)
              rw [HFR.out] at this
              obtain ⟨u2, u10⟩ := HU.out
              rw [u2, u10] at this
              exact this
            · rintro L A W K hL hC hW ⟨V, rfl, HV, s0⟩ hK
              have e2 : V 2 = .bool true := HV 2 _ rfl (hW 2 rfl)
              have e9 : V 9 = .int .u64 (p0.addr : Nat) := HV 9 _ rfl (hW 9 rfl)
              have e11 : V 11 = .int .u64 (p.addr : Nat) := HV 11 _ rfl (hW 11 rfl)
              have H := Lib.hid (show ∀ W', Ext W W' → K (fr (upd V 12 (.bool false))) W' from fun W' he => hK _ _ ⟨upd V 12 (.bool false), rfl, HV.up 12 _ (fun x hx => Option.some.inj hx), Ext.trans s0 he⟩)
              have HU := Lib.hid (show (upd V 12 (.bool false)) 2 = .bool true ∧ (upd V 12 (.bool false)) 9 = .int .u64 (p0.addr : Nat) ∧ (upd V 12 (.bool false)) 11 = .int .u64 (p.addr : Nat) from ⟨e2, e9, e11⟩)
              clear hK hC hW hL HV s0
              rw [HFR.out]
              rw [e2, e9, e11]
              clear e2 e9 e11
              go_wp2_with fail
              show K _ _
              have := H.out _ (Ext.refl _)
              rw [HFR.out] at this
              obtain ⟨u2, u9, u11⟩ := HU.out
              rw [u2, u9, u11] at this
              exact this
            · rintro L A W K hL hC hW ⟨V, rfl, HV, s0⟩ hK
              have e2 : V 2 = .bool true := HV 2 _ rfl (hW 2 rfl)
              have e12 : V 12 = .bool false := HV 12 _ rfl (hW 12 rfl)
              have H := Lib.hid (show ∀ W', Ext W W' → K (fr (upd V 13 (.bool false))) W' from fun W' he => hK _ _ ⟨upd V 13 (.bool false), rfl, HV.up 13 _ (fun x hx => Option.some.inj hx), Ext.trans s0 he⟩)
              have HU := Lib.hid (show (upd V 13 (.bool false)) 2 = .bool true ∧ (upd V 13 (.bool false)) 12 = .bool false from ⟨e2, e12⟩)
              clear hK hC hW hL HV s0
              rw [HFR.out]
              rw [e2, e12]
              clear e2 e12
              go_wp2_with fail
              show K _ _
              have := H.out _ (Ext.refl _)
              rw [HFR.out] at this
              obtain ⟨u2, u12⟩ := HU.out
              rw [u2, u12] at this
              exact this
            · rintro L A W hL ⟨V, rfl, HV, s0⟩
              have e0 : V 0 = .int .i64 k := HV 0 _ rfl (hL 0 (by simp))
              have e1 : V 1 = .bool true := HV 1 _ rfl (hL 1 (by simp))
              have e2 : V 2 = .bool true := HV 2 _ rfl (hL 2 (by simp))
              have e3 : V 3 = .pointer (some ⟨gL, 0, none⟩) := HV 3 _ rfl (hL 3 (by simp))
              have e4 : V 4 = .slice (some ⟨bb, oo, none⟩) l.length c1 := HV 4 _ rfl (hL 4 (by simp))
              have e5 : V 5 = .int .i64 k := HV 5 _ rfl (hL 5 (by simp))
              have e6 : V 6 = .int .i64 m := HV 6 _ rfl (hL 6 (by simp))
              have e7 : V 7 = .pointer (some ⟨bb, oo + m * 11, none⟩) := HV 7 _ rfl (hL 7 (by simp))
              have e8 : V 8 = .pointer (some ⟨bb, oo + m * 11, none⟩) := HV 8 _ rfl (hL 8 (by simp))
              have e9 : V 9 = .int .u64 (p0.addr : Nat) := HV 9 _ rfl (hL 9 (by simp))
              have e10 : V 10 = .pointer (some ⟨g4, 0, none⟩) := HV 10 _ rfl (hL 10 (by simp))
              have e11 : V 11 = .int .u64 (p.addr : Nat) := HV 11 _ rfl (hL 11 (by simp))
              have e12 : V 12 = .bool false := HV 12 _ rfl (hL 12 (by simp))
              have e13 : V 13 = .bool false := HV 13 _ rfl (hL 13 (by simp))
              have hA := s0
              rw [HFR.out]
              rw [e0, e1, e2, e3, e4, e5, e6, e7, e8, e9, e10, e11, e12, e13]
              clear hL HV HFR e0 e1 e2 e3 e4 e5 e6 e7 e8 e9 e10 e11 e12 e13 s0
              have HA4 := Lib.hid hA
              clear hA
              go_wp2_with fail
              exact ⟨⟨k + 1, by omega, by go_num, Lib.hid ⟨HN.out, HJ.out.2.trans (HX.out.trans HA4.out)⟩⟩, by simp [intOf]; omega⟩
          · have hgd : decide ((p0.addr : Int) ≥ (p.addr : Int)) = true := decide_eq_true (by omega)
            have hge : decide ((p.addr : Int) ≤ (p0.addr : Int)) = true := decide_eq_true (by omega)
            have hgf : decide (p.addr ≤ p0.addr) = true := decide_eq_true (by omega)
            have HF := Lib.hid (HBAD.out (HB2.out (by rw [HLA.out]; omega)))
            clear hlt2
            refine wp_named fun a0 ha0 => ?_
            obtain ⟨fr, hfr⟩ : ∃ fr : (Nat → Value) → Act, ∀ V, fr V = ((((((((((((((a0.put (some 66) (V 0)).put (some 67) (V 1)).put (some 68) (V 2)).put (some 69) (V 3)).put (some 70) (V 4)).put (some 71) (V 5)).put (some 72) (V 6)).put (some 73) (V 7)).put (some 74) (V 8)).put (some 75) (V 9)).put (some 76) (V 10)).put (some 77) (V 11)).put (some 78) (V 12)).put (some 79) (V 13)) := ⟨fun V => ((((((((((((((a0.put (some 66) (V 0)).put (some 67) (V 1)).put (some 68) (V 2)).put (some 69) (V 3)).put (some 70) (V 4)).put (some 71) (V 5)).put (some 72) (V 6)).put (some 73) (V 7)).put (some 74) (V 8)).put (some 75) (V 9)).put (some 76) (V 10)).put (some 77) (V 11)).put (some 78) (V 12)).put (some 79) (V 13)), fun _ => rfl⟩
            rw [ha0] at hfr
            simp only [Act.put, List.setIfInBounds_toArray, List.set_cons_zero, List.set_cons_succ] at hfr
            have HFR := Lib.hid hfr
            clear hfr
            refine wp_region_inv (by kernel_rfl) (by kernel_rfl) (fun L A W => ∃ V : Nat → Value, A = fr V ∧ Vals (fun j => ([some (.int .i64 k), some (.bool true), some (.bool true), some (.pointer (some ⟨gL, 0, none⟩)), some (.slice (some ⟨bb, oo, none⟩) l.length c1), some (.int .i64 k), some (.int .i64 m), some (.pointer (some ⟨bb, oo + m * 11, none⟩)), some (.pointer (some ⟨bb, oo + m * 11, none⟩)), some (.int .u64 (p0.addr : Nat)), some (.pointer (some ⟨g4, 0, none⟩)), some (.int .u64 (p.addr : Nat)), some (.bool true), some (.bool true)] : List (Option Value)).getD j none) L V ∧ (Ext w7 W)) ?_ ⟨?_, ?_, ?_, ?_, ?_, ?_, ?_, ?_, ?_, ?_, ?_, ?_, ?_, ?_, trivial⟩ ?_
            · refine ⟨fun j => a0.tmps.getD (([66, 67, 68, 69, 70, 71, 72, 73, 74, 75, 76, 77, 78, 79] : List Nat).getD j 0) undef, ?_, Vals.no _ _ _ (far_none _ _ rfl), (Ext.refl _).drew⟩
              rw [HFR.out, ha0]
              rfl
            all_goals clear ha0
            · rintro L A W K hL hC hW ⟨V, rfl, HV, s0⟩ hK
              have H := Lib.hid (show ∀ W', Ext W W' → K (fr (upd V 0 (.int .i64 k))) W' from fun W' he => hK _ _ ⟨upd V 0 (.int .i64 k), rfl, HV.up 0 _ (fun x hx => Option.some.inj hx), Ext.trans s0 he⟩)
              clear hK hC hW hL HV s0
              rw [HFR.out]
              go_wp2_with fail
              show K _ _
              have := H.out _ (Ext.refl _)
              rw [HFR.out] at this
              exact this
            · rintro L A W K hL hC hW ⟨V, rfl, HV, s0⟩ hK
              have e0 : V 0 = .int .i64 k := HV 0 _ rfl (hW 0 rfl)
              have H := Lib.hid (show ∀ W', Ext W W' → K (fr (upd V 1 (.bool true))) W' from fun W' he => hK _ _ ⟨upd V 1 (.bool true), rfl, HV.up 1 _ (fun x hx => Option.some.inj hx), Ext.trans s0 he⟩)
              have HU := Lib.hid (show (upd V 1 (.bool true)) 0 = .int .i64 k from e0)
              clear hK hC hW hL HV s0
              rw [HFR.out]
              rw [e0]
              clear e0
              go_wp2_with fail
              show K _ _
              have := H.out _ (Ext.refl _)
              rw [HFR.out] at this
              obtain u0 := HU.out
              rw [u0] at this
              exact this
            · rintro L A W K hL hC hW ⟨V, rfl, HV, s0⟩ hK
              have e1 : V 1 = .bool true := HV 1 _ rfl (hW 1 rfl)
              have H := Lib.hid (show ∀ W', Ext W W' → K (fr (upd V 2 (.bool true))) W' from fun W' he => hK _ _ ⟨upd V 2 (.bool true), rfl, HV.up 2 _ (fun x hx => Option.some.inj hx), Ext.trans s0 he⟩)
              have HU := Lib.hid (show (upd V 2 (.bool true)) 1 = .bool true from e1)
              clear hK hC hW hL HV s0
              rw [HFR.out]
              rw [e1]
              clear e1
              go_wp2_with fail
              show K _ _
              have := H.out _ (Ext.refl _)
              rw [HFR.out] at this
              obtain u1 := HU.out
              rw [u1] at this
              exact this
            · rintro L A W K hL hC hW ⟨V, rfl, HV, s0⟩ hK
              have e2 : V 2 = .bool true := HV 2 _ rfl (hW 2 rfl)
              have H := Lib.hid (show ∀ W', Ext W W' → K (fr (upd V 3 (.pointer (some ⟨gL, 0, none⟩)))) W' from fun W' he => hK _ _ ⟨upd V 3 (.pointer (some ⟨gL, 0, none⟩)), rfl, HV.up 3 _ (fun x hx => Option.some.inj hx), Ext.trans s0 he⟩)
              have HU := Lib.hid (show (upd V 3 (.pointer (some ⟨gL, 0, none⟩))) 2 = .bool true from e2)
              clear hK hC hW hL HV s0
              rw [HFR.out]
              rw [e2]
              clear e2
              go_wp2_with fail
              show K _ _
              have := H.out _ (Ext.refl _)
              rw [HFR.out] at this
              obtain u2 := HU.out
              rw [u2] at this
              exact this
            · rintro L A W K hL hC hW ⟨V, rfl, HV, s0⟩ hK
              have e2 : V 2 = .bool true := HV 2 _ rfl (hW 2 rfl)
              have e3 : V 3 = .pointer (some ⟨gL, 0, none⟩) := HV 3 _ rfl (hW 3 rfl)
              have hB := s0
              have H := Lib.hid (show ∀ W', Ext W W' → K (fr (upd V 4 (.slice (some ⟨bb, oo, none⟩) l.length c1))) W' from fun W' he => hK _ _ ⟨upd V 4 (.slice (some ⟨bb, oo, none⟩) l.length c1), rfl, HV.up 4 _ (fun x hx => Option.some.inj hx), Ext.trans s0 he⟩)
              have HU := Lib.hid (show (upd V 4 (.slice (some ⟨bb, oo, none⟩) l.length c1)) 2 = .bool true ∧ (upd V 4 (.slice (some ⟨bb, oo, none⟩) l.length c1)) 3 = .pointer (some ⟨gL, 0, none⟩) from ⟨e2, e3⟩)
              clear hK hC hW hL HV s0
              rw [HFR.out]
              rw [e2, e3]
              clear e2 e3
              have hcl := (Cs.ext HL8.out hB).cell 0 _ rfl
              clear hB
              go_wp2_with fail
              show K _ _
              have := H.out _ (Ext.refl _)
              rw [HFR.out] at this
              obtain ⟨u2, u3⟩ := HU.out
              rw [u2, u3] at this
              exact this
            · rintro L A W K hL hC hW ⟨V, rfl, HV, s0⟩ hK
              have e2 : V 2 = .bool true := HV 2 _ rfl (hW 2 rfl)
              have H := Lib.hid (show ∀ W', Ext W W' → K (fr (upd V 5 (.int .i64 k))) W' from fun W' he => hK _ _ ⟨upd V 5 (.int .i64 k), rfl, HV.up 5 _ (fun x hx => Option.some.inj hx), Ext.trans s0 he⟩)
              have HU := Lib.hid (show (upd V 5 (.int .i64 k)) 2 = .bool true from e2)
              clear hK hC hW hL HV s0
              rw [HFR.out]
              rw [e2]
              clear e2
              go_wp2_with fail
              show K _ _
              have := H.out _ (Ext.refl _)
              rw [HFR.out] at this
              obtain u2 := HU.out
              rw [u2] at this
              exact this
            · rintro L A W K hL hC hW ⟨V, rfl, HV, s0⟩ hK
              have e2 : V 2 = .bool true := HV 2 _ rfl (hW 2 rfl)
              have e5 : V 5 = .int .i64 k := HV 5 _ rfl (hW 5 rfl)
              have H := Lib.hid (show ∀ W', Ext W W' → K (fr (upd V 6 (.int .i64 m))) W' from fun W' he => hK _ _ ⟨upd V 6 (.int .i64 m), rfl, HV.up 6 _ (fun x hx => Option.some.inj hx), Ext.trans s0 he⟩)
              have HU := Lib.hid (show (upd V 6 (.int .i64 m)) 2 = .bool true ∧ (upd V 6 (.int .i64 m)) 5 = .int .i64 k from ⟨e2, e5⟩)
              clear hK hC hW hL HV s0
              rw [HFR.out]
              rw [e2, e5]
              clear e2 e5
              go_wp2_with fail
              show K _ _
              have := H.out _ (Ext.refl _)
              rw [HFR.out] at this
              obtain ⟨u2, u5⟩ := HU.out
              rw [u2, u5] at this
              exact this
            · rintro L A W K hL hC hW ⟨V, rfl, HV, s0⟩ hK
              have e2 : V 2 = .bool true := HV 2 _ rfl (hW 2 rfl)
              have e4 : V 4 = .slice (some ⟨bb, oo, none⟩) l.length c1 := HV 4 _ rfl (hW 4 rfl)
              have e6 : V 6 = .int .i64 m := HV 6 _ rfl (hW 6 rfl)
              have H := Lib.hid (show ∀ W', Ext W W' → K (fr (upd V 7 (.pointer (some ⟨bb, oo + m * 11, none⟩)))) W' from fun W' he => hK _ _ ⟨upd V 7 (.pointer (some ⟨bb, oo + m * 11, none⟩)), rfl, HV.up 7 _ (fun x hx => Option.some.inj hx), Ext.trans s0 he⟩)
              have HU := Lib.hid (show (upd V 7 (.pointer (some ⟨bb, oo + m * 11, none⟩))) 2 = .bool true ∧ (upd V 7 (.pointer (some ⟨bb, oo + m * 11, none⟩))) 4 = .slice (some ⟨bb, oo, none⟩) l.length c1 ∧ (upd V 7 (.pointer (some ⟨bb, oo + m * 11, none⟩))) 6 = .int .i64 m from ⟨e2, e4, e6⟩)
              clear hK hC hW hL HV s0
              rw [HFR.out]
              rw [e2, e4, e6]
              clear e2 e4 e6
              go_wp2_with fail
              show K _ _
              have := H.out _ (Ext.refl _)
              rw [HFR.out] at this
              obtain ⟨u2, u4, u6⟩ := HU.out
              rw [u2, u4, u6] at this
              exact this
            · rintro L A W K hL hC hW ⟨V, rfl, HV, s0⟩ hK
              have e2 : V 2 = .bool true := HV 2 _ rfl (hW 2 rfl)
              have e7 : V 7 = .pointer (some ⟨bb, oo + m * 11, none⟩) := HV 7 _ rfl (hW 7 rfl)
              have H := Lib.hid (show ∀ W', Ext W W' → K (fr (upd V 8 (.pointer (some ⟨bb, oo + m * 11, none⟩)))) W' from fun W' he => hK _ _ ⟨upd V 8 (.pointer (some ⟨bb, oo + m * 11, none⟩)), rfl, HV.up 8 _ (fun x hx => Option.some.inj hx), Ext.trans s0 he⟩)
              have HU := Lib.hid (show (upd V 8 (.pointer (some ⟨bb, oo + m * 11, none⟩))) 2 = .bool true ∧ (upd V 8 (.pointer (some ⟨bb, oo + m * 11, none⟩))) 7 = .pointer (some ⟨bb, oo + m * 11, none⟩) from ⟨e2, e7⟩)
              clear hK hC hW hL HV s0
              rw [HFR.out]
              rw [e2, e7]
              clear e2 e7
              go_wp2_with fail
              show K _ _
              have := H.out _ (Ext.refl _)
              rw [HFR.out] at this
              obtain ⟨u2, u7⟩ := HU.out
              rw [u2, u7] at this
              exact this
            · rintro L A W K hL hC hW ⟨V, rfl, HV, s0⟩ hK
              have e2 : V 2 = .bool true := HV 2 _ rfl (hW 2 rfl)
              have e8 : V 8 = .pointer (some ⟨bb, oo + m * 11, none⟩) := HV 8 _ rfl (hW 8 rfl)
              have hB := s0
              have H := Lib.hid (show ∀ W', Ext W W' → K (fr (upd V 9 (.int .u64 (p0.addr : Nat)))) W' from fun W' he => hK _ _ ⟨upd V 9 (.int .u64 (p0.addr : Nat)), rfl, HV.up 9 _ (fun x hx => Option.some.inj hx), Ext.trans s0 he⟩)
              have HU := Lib.hid (show (upd V 9 (.int .u64 (p0.addr : Nat))) 2 = .bool true ∧ (upd V 9 (.int .u64 (p0.addr : Nat))) 8 = .pointer (some ⟨bb, oo + m * 11, none⟩) from ⟨e2, e8⟩)
              clear hK hC hW hL HV s0
              rw [HFR.out]
              rw [e2, e8]
              clear e2 e8
              have hcl := hB.cell X0.out
              clear hB
              go_wp2_with fail
              show K _ _
              have := H.out _ (Ext.refl _)
              rw [HFR.out] at this
              obtain ⟨u2, u8⟩ := HU.out
              rw [u2, u8] at this
              exact this
            · rintro L A W K hL hC hW ⟨V, rfl, HV, s0⟩ hK
              have e2 : V 2 = .bool true := HV 2 _ rfl (hW 2 rfl)
              have H := Lib.hid (show ∀ W', Ext W W' → K (fr (upd V 10 (.pointer (some ⟨g4, 0, none⟩)))) W' from fun W' he => hK _ _ ⟨upd V 10 (.pointer (some ⟨g4, 0, none⟩)), rfl, HV.up 10 _ (fun x hx => Option.some.inj hx), Ext.trans s0 he⟩)
              have HU := Lib.hid (show (upd V 10 (.pointer (some ⟨g4, 0, none⟩))) 2 = .bool true from e2)
              clear hK hC hW hL HV s0
              rw [HFR.out]
              rw [e2]
              clear e2
              go_wp2_with fail
              show K _ _
              have := H.out _ (Ext.refl _)
              rw [HFR.out] at this
              obtain u2 := HU.out
              rw [u2] at this
              exact this
            · rintro L A W K hL hC hW ⟨V, rfl, HV, s0⟩ hK
              have e2 : V 2 = .bool true := HV 2 _ rfl (hW 2 rfl)
              have e10 : V 10 = .pointer (some ⟨g4, 0, none⟩) := HV 10 _ rfl (hW 10 rfl)
              have hB := s0
              have H := Lib.hid (show ∀ W', Ext W W' → K (fr (upd V 11 (.int .u64 (p.addr : Nat)))) W' from fun W' he => hK _ _ ⟨upd V 11 (.int .u64 (p.addr : Nat)), rfl, HV.up 11 _ (fun x hx => Option.some.inj hx), Ext.trans s0 he⟩)
              have HU := Lib.hid (show (upd V 11 (.int .u64 (p.addr : Nat))) 2 = .bool true ∧ (upd V 11 (.int .u64 (p.addr : Nat))) 10 = .pointer (some ⟨g4, 0, none⟩) from ⟨e2, e10⟩)
              clear hK hC hW hL HV s0
              rw [HFR.out]
              rw [e2, e10]
              clear e2 e10
              have hcl := Hb.addr (show Hb W g4 p from Cs.ext HKB.out hB)
              clear hB
              go_wp2_with fail
              show K _ _
              have := H.out _ (Ext.refl _)
              rw [HFR.out] at this
              obtain ⟨u2, u10⟩ := HU.out
              rw [u2, u10] at this
              exact this
            · rintro L A W K hL hC hW ⟨V, rfl, HV, s0⟩ hK
              have e2 : V 2 = .bool true := HV 2 _ rfl (hW 2 rfl)
              have e9 : V 9 = .int .u64 (p0.addr : Nat) := HV 9 _ rfl (hW 9 rfl)
              have e11 : V 11 = .int .u64 (p.addr : Nat) := HV 11 _ rfl (hW 11 rfl)
              have H := Lib.hid (show ∀ W', Ext W W' → K (fr (upd V 12 (.bool true))) W' from fun W' he => hK _ _ ⟨upd V 12 (.bool true), rfl, HV.up 12 _ (fun x hx => Option.some.inj hx), Ext.trans s0 he⟩)
              have HU := Lib.hid (show (upd V 12 (.bool true)) 2 = .bool true ∧ (upd V 12 (.bool true)) 9 = .int .u64 (p0.addr : Nat) ∧ (upd V 12 (.bool true)) 11 = .int .u64 (p.addr : Nat) from ⟨e2, e9, e11⟩)
              clear hK hC hW hL HV s0
              rw [HFR.out]
              rw [e2, e9, e11]
              clear e2 e9 e11
              go_wp2_with fail
              show K _ _
              have := H.out _ (Ext.refl _)
              rw [HFR.out] at this
              obtain ⟨u2, u9, u11⟩ := HU.out
              rw [u2, u9, u11] at this
              exact this
            · rintro L A W K hL hC hW ⟨V, rfl, HV, s0⟩ hK
              have e2 : V 2 = .bool true := HV 2 _ rfl (hW 2 rfl)
              have e12 : V 12 = .bool true := HV 12 _ rfl (hW 12 rfl)
              have H := Lib.hid (show ∀ W', Ext W W' → K (fr (upd V 13 (.bool true))) W' from fun W' he => hK _ _ ⟨upd V 13 (.bool true), rfl, HV.up 13 _ (fun x hx => Option.some.inj hx), Ext.trans s0 he⟩)
              have HU := Lib.hid (show (upd V 13 (.bool true)) 2 = .bool true ∧ (upd V 13 (.bool true)) 12 = .bool true from ⟨e2, e12⟩)
              clear hK hC hW hL HV s0
              rw [HFR.out]
              rw [e2, e12]
              clear e2 e12
              go_wp2_with fail
              show K _ _
              have := H.out _ (Ext.refl _)
              rw [HFR.out] at this
              obtain ⟨u2, u12⟩ := HU.out
              rw [u2, u12] at this
              exact this
            · rintro L A W hL ⟨V, rfl, HV, s0⟩
              have e0 : V 0 = .int .i64 k := HV 0 _ rfl (hL 0 (by simp))
              have e1 : V 1 = .bool true := HV 1 _ rfl (hL 1 (by simp))
              have e2 : V 2 = .bool true := HV 2 _ rfl (hL 2 (by simp))
              have e3 : V 3 = .pointer (some ⟨gL, 0, none⟩) := HV 3 _ rfl (hL 3 (by simp))
              have e4 : V 4 = .slice (some ⟨bb, oo, none⟩) l.length c1 := HV 4 _ rfl (hL 4 (by simp))
              have e5 : V 5 = .int .i64 k := HV 5 _ rfl (hL 5 (by simp))
              have e6 : V 6 = .int .i64 m := HV 6 _ rfl (hL 6 (by simp))
              have e7 : V 7 = .pointer (some ⟨bb, oo + m * 11, none⟩) := HV 7 _ rfl (hL 7 (by simp))
              have e8 : V 8 = .pointer (some ⟨bb, oo + m * 11, none⟩) := HV 8 _ rfl (hL 8 (by simp))
              have e9 : V 9 = .int .u64 (p0.addr : Nat) := HV 9 _ rfl (hL 9 (by simp))
              have e10 : V 10 = .pointer (some ⟨g4, 0, none⟩) := HV 10 _ rfl (hL 10 (by simp))
              have e11 : V 11 = .int .u64 (p.addr : Nat) := HV 11 _ rfl (hL 11 (by simp))
              have e12 : V 12 = .bool true := HV 12 _ rfl (hL 12 (by simp))
              have e13 : V 13 = .bool true := HV 13 _ rfl (hL 13 (by simp))
              have hA := s0
              rw [HFR.out]
              rw [e0, e1, e2, e3, e4, e5, e6, e7, e8, e9, e10, e11, e12, e13]
              clear hL HV HFR e0 e1 e2 e3 e4 e5 e6 e7 e8 e9 e10 e11 e12 e13 s0
              have HA4 := Lib.hid hA
              clear hA
              go_wp2_with fail
              go_ret
              exact ⟨by rw [HF.out]; rfl, HE.out.trans (HX.out.trans HA4.out)⟩
    · obtain rfl : k = l.length := by omega
      have hd : decide (l.length < l.length) = false := decide_eq_false (by omega)
      have hd2 : decide ((l.length : Int) < (l.length : Int)) = false := decide_eq_false (by omega)
      have HF := Lib.hid (rightG_all (fun i hi => HJ.out.1 i hi))
      go_wp2_with fail
      refine (refSumL_any _ l _ (HS.out.ext HE.out)).mono ?_
      rintro e w3 ⟨n, rfl, he⟩
      have HE3 := Lib.hid (HE.out.trans he)
      have HL3 := Lib.hid (Cs.ext HL1.out he)
      clear he qL
      generalize (sumW (flatH l)).2 = sb at *
      go_upto_region 12 with ((with_reducible refine wpList_store_word rfl rfl 29 (.tmp 5) (.tmp 83) rfl winfo w3.heap.size (wc 0) n ?_ ?_ ?_ ?_ ?_); (exact rfl); (exact rfl); (exact Cs.new _ _ _ _ rfl); (exact rfl); intro w4 k4 g4; have HE4 := Lib.hid (HE3.out.trans (((Ext.refl w3).alloc _).grown g4 (Nat.le_refl _))); have HL4 := Lib.hid (Cs.ext HL3.out (((Ext.refl w3).alloc _).grown g4 (Nat.le_refl _))); clear k4 g4)
      have qL4 := HL4.out.cell 0 _ rfl
      by_cases h24 : l.length ≤ 24
      · have hc1 : decide ((l.length : Int) ≤ 24) = true := decide_eq_true (by omega)
        have hc2 : decide (l.length ≤ 24) = true := decide_eq_true h24
        go_wp2_with fail
        go_ret
        refine ⟨?_, HE4.out⟩
        rw [HF.out, hc2]
        cases sb <;> rfl
      · have hc1 : decide ((l.length : Int) ≤ 24) = false := decide_eq_false (by omega)
        have hc2 : decide (l.length ≤ 24) = false := decide_eq_false h24
        go_wp2_with fail
        go_ret
        refine ⟨?_, HE4.out⟩
        rw [HF.out, hc2]
        cases sb <;> rfl
end Go.Proofs.Ytepggbhibpjkpaa
