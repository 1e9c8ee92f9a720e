/- Package access: an access in memory; which may be. -/
import Derived.Test.YtjampleddeidaaaQAcl
namespace Go.Proofs.Ytjampleddeidaaa
open Go.ChangeShapes Go.WideShapes Go.ChangeAt Go.RowKit Go.Shelf

structure Ax where
  a : List Pe
  s : List Pe
  p : List Pe
def AxR (W : World) (va vs vp : Value) (x : Ax) : Prop := XA W va x.a ∧ XS W vs x.s ∧ XP W vp x.p
set_option maxRecDepth 100000 in
theorem AxR.ext {W W' : World} {va vs vp : Value} {x : Ax} (h : AxR W va vs vp x) (he : Ext W W') : AxR W' va vs vp x := ⟨h.1.ext he, h.2.1.ext he, h.2.2.ext he⟩
set_option maxRecDepth 100000 in
theorem axinfo : (Try.prog.info? 26).map (·.size) = some 3 := by kernel_rfl
def nzB (l : List Pe) : Bool := l.all fun p => decide (p.val ≠ 0)
def rightX (x : Ax) : Bool := rsB x.a && (rsB x.s && (rsB x.p && nzB x.p))
def chkX (x : Ax) : Int := if rightX x then 0 else 190
set_option maxRecDepth 100000 in
theorem nz_stop {l : List Pe} (i : Nat) (hi : i < l.length) (h : (l.getD i pz0).val = 0) : nzB l = false := by
  cases hr : nzB l with
  | false => rfl
  | true =>
    have := List.all_eq_true.1 hr _ (getX_mem hi)
    rw [decide_eq_true_eq] at this
    exact absurd h this
set_option maxRecDepth 100000 in
theorem nz_all {l : List Pe} (h : ∀ i, i < l.length → (l.getD i pz0).val ≠ 0) : nzB l = true := by
  refine List.all_eq_true.2 fun p hp => ?_
  obtain ⟨i, hi, e⟩ := memX_get hp
  rw [decide_eq_true_eq, ← e]
  exact h i hi
set_option maxRecDepth 100000 in
set_option maxHeartbeats 4000000 in
theorem checkX_any (va vs vp : Value) (x : Ax) (w : World) (hx : AxR w va vs vp x) : Calls Try.prog 11 #[.agg #[va, vs, vp]] w fun e w' => e = .returned (.int .i64 (chkX x)) ∧ Ext w w' := by
  have HX := Lib.hid hx
  have HDEF : Hid (chkX x = if rsB x.a && (rsB x.s && (rsB x.p && nzB x.p)) then 0 else 190) := Lib.hid rfl
  obtain ⟨A1, c1, rfl, _, _⟩ := hx.1.len
  obtain ⟨A2, c2, rfl, _, _⟩ := hx.2.1.len
  obtain ⟨A3, c3, rfl, h1, h2⟩ := hx.2.2.len
  unfold maxLen at h2
  obtain ⟨w0, hw0⟩ : ∃ w0, w.alloc (.cells #[.slice A1 x.a.length c1, .slice A2 x.s.length c2, .slice A3 x.p.length c3] 26) = w0 := ⟨_, rfl⟩
  have HC0 : Hid (Cs w0 w.heap.size 26 #[.slice A1 x.a.length c1, .slice A2 x.s.length c2, .slice A3 x.p.length c3]) := Lib.hid (by rw [← hw0]; exact Cs.new _ _ _ _ rfl)
  have HE0 : Hid (Ext w w0) := Lib.hid (by rw [← hw0]; exact (Ext.refl w).alloc _)
  have HW0 := Lib.hid hw0
  clear hx hw0
  go_enter Try.func11, Try.ntmps11
  go_upto_region 1 with fail
  rw [HW0.out]
  clear HW0
  have q0 := HC0.out.cell 0 _ rfl
  go_wp2_with fail
  refine (risesA_any _ x.a _ (HX.out.1.ext HE0.out)).mono ?_
  rintro e w1 ⟨rfl, he⟩
  have HE1 := Lib.hid (HE0.out.trans he)
  have HC1 := Lib.hid (Cs.ext HC0.out he)
  clear he q0 HC0 HE0
  cases ha : rsB x.a with
  | false =>
    have HF := Lib.hid (show chkX x = 190 by rw [HDEF.out, ha]; rfl)
    clear ha HDEF
    go_wp2_with fail
    go_ret
    exact ⟨by rw [HF.out]; rfl, HE1.out⟩
  | true =>
    have HDEF := Lib.hid (show chkX x = if rsB x.s && (rsB x.p && nzB x.p) then 0 else 190 by rw [HDEF.out, ha]; rfl)
    have q0 := HC1.out.cell 1 _ rfl
    clear ha
    go_wp2_with fail
    refine (risesS_any _ x.s _ (HX.out.2.1.ext HE1.out)).mono ?_
    rintro e w2 ⟨rfl, he⟩
    have HE2 := Lib.hid (HE1.out.trans he)
    have HC2 := Lib.hid (Cs.ext HC1.out he)
    clear he q0 HC1 HE1
    cases hs : rsB x.s with
    | false =>
      have HF := Lib.hid (show chkX x = 190 by rw [HDEF.out, hs]; rfl)
      clear hs HDEF
      go_wp2_with fail
      go_ret
      exact ⟨by rw [HF.out]; rfl, HE2.out⟩
    | true =>
      have HDEF := Lib.hid (show chkX x = if rsB x.p && nzB x.p then 0 else 190 by rw [HDEF.out, hs]; rfl)
      have q0 := HC2.out.cell 2 _ rfl
      clear hs
      go_wp2_with fail
      refine (risesP_any _ x.p _ (HX.out.2.2.ext HE2.out)).mono ?_
      rintro e w3 ⟨rfl, he⟩
      have HE3 := Lib.hid (HE2.out.trans he)
      have HC3 := Lib.hid (Cs.ext HC2.out he)
      clear he q0 HC2 HE2
      cases hp : rsB x.p with
      | false =>
        have HF := Lib.hid (show chkX x = 190 by rw [HDEF.out, hp]; rfl)
        clear hp HDEF
        go_wp2_with fail
        go_ret
        exact ⟨by rw [HF.out]; rfl, HE3.out⟩
      | true =>
        have HDEF := Lib.hid (show chkX x = if nzB x.p then 0 else 190 by rw [HDEF.out, hp]; rfl)
        have HST := Lib.hid (fun i hi h => show chkX x = 190 by rw [HDEF.out, nz_stop (l := x.p) i hi h]; rfl)
        have HAL := Lib.hid (fun h => show chkX x = 0 by rw [HDEF.out, nz_all (l := x.p) h]; rfl)
        have q0 := HC3.out.cell 2 _ rfl
        have HXP := Lib.hid HX.out.2.2
        clear hp HDEF HX
        generalize x.p = l at *
        go_wp2_with fail
        go_loopw [24] (fun iv wr => ∃ k : Nat, k ≤ l.length ∧ iv = .int .i64 k ∧ Hid ((∀ i, i < k → (l.getD i pz0).val ≠ 0) ∧ Ext w wr)) (fun iv _ => l.length - (intOf iv).toNat)
        case atStart => exact ⟨0, by omega, rfl, Lib.hid ⟨fun i hi => absurd hi (by omega), HE3.out⟩⟩
        case round =>
          obtain ⟨k, hk, rfl, HJ⟩ := hrel
          clear q0 HC3 HE3
          by_cases hlt : k < l.length
          · have hd : decide (k < l.length) = true := decide_eq_true hlt
            have hd2 : decide ((k : Int) < (l.length : Int)) = true := decide_eq_true (by omega)
            obtain ⟨bb, oo, rfl, hrg, hpk⟩ := (HXP.out.ext HJ.out.2).at k hlt
            have HR := Lib.hid hrg
            have HPV := Lib.hid (show (l.getD k pz0).val < M256 from hpk.2.2)
            have HS1 := Lib.hid (fun h => HST.out k hlt h)
            have HMO := Lib.hid (fun (h : (l.getD k pz0).val ≠ 0) => show ∀ i, i < k + 1 → (l.getD i pz0).val ≠ 0 from fun i hi => by
              rcases Nat.lt_or_ge i k with h' | h'
              · exact HJ.out.1 i h'
              · obtain rfl : i = k := by omega
                exact h)
            clear hrg hpk
            generalize l.getD k pz0 = p at *
            by_cases hz : p.val = 0
            · have fz : (p.val == 0) = true := by rw [beq_iff_eq]; exact hz
              have HZ := Lib.hid fz
              have HF := Lib.hid (HS1.out hz)
              clear hz fz HST HAL
              go_wp2_with (first
                | ((with_reducible refine wpList_loadP ?_ (.tmp 26) ?_ bb (oo + k * 9) p ?_ ?_ ?_); (exact rfl); (exact rfl); (exact rfl); (exact HR.out))
                | ((with_reducible refine wpList_storeP ?_ ?_ (.tmp 4) (.tmp 27) ?_ wr.heap.size pz0 p ?_ ?_ ?_ ?_); (exact rfl); (exact rfl); (exact rfl); (exact rfl); (exact rfl); (exact Cs.new _ _ _ _ rfl); intro w4 k4 g4; have HX4 := Lib.hid (((Ext.refl wr).alloc _).grown g4 (Nat.le_refl _)); have HVL := Lib.hid k4.val; clear k4 g4)
                | ((with_reducible refine wpList_load_wordIn ?_ (.tmp 28) ?_ wr.heap.size 5 p.val ?_ ?_ ?_); (exact rfl); (exact rfl); (exact rfl); (exact HVL.out))
                | ((with_reducible refine wpList_eql_word ?_ (.tmp 29) (.tmp 30) ?_ p.val 0 HPV.out (by decide) ?_ ?_ ?_); (exact rfl); (exact rfl); (exact rfl); (exact rfl); rw [HZ.out]))
              refine bodyPost_ret (results_tmp rfl _ _ _) rfl ?_
              exact ⟨by rw [HF.out]; rfl, HJ.out.2.trans HX4.out⟩
            · have fz : (p.val == 0) = false := by rw [beq_eq_false_iff_ne]; exact hz
              have HZ := Lib.hid fz
              have HM := Lib.hid (HMO.out hz)
              clear hz fz
              go_wp2_with (first
                | ((with_reducible refine wpList_loadP ?_ (.tmp 26) ?_ bb (oo + k * 9) p ?_ ?_ ?_); (exact rfl); (exact rfl); (exact rfl); (exact HR.out))
                | ((with_reducible refine wpList_storeP ?_ ?_ (.tmp 4) (.tmp 27) ?_ wr.heap.size pz0 p ?_ ?_ ?_ ?_); (exact rfl); (exact rfl); (exact rfl); (exact rfl); (exact rfl); (exact Cs.new _ _ _ _ rfl); intro w4 k4 g4; have HX4 := Lib.hid (((Ext.refl wr).alloc _).grown g4 (Nat.le_refl _)); have HVL := Lib.hid k4.val; clear k4 g4)
                | ((with_reducible refine wpList_load_wordIn ?_ (.tmp 28) ?_ wr.heap.size 5 p.val ?_ ?_ ?_); (exact rfl); (exact rfl); (exact rfl); (exact HVL.out))
                | ((with_reducible refine wpList_eql_word ?_ (.tmp 29) (.tmp 30) ?_ p.val 0 HPV.out (by decide) ?_ ?_ ?_); (exact rfl); (exact rfl); (exact rfl); (exact rfl); rw [HZ.out]))
              exact ⟨⟨k + 1, by omega, by go_num, Lib.hid ⟨HM.out, HJ.out.2.trans HX4.out⟩⟩, by simp [intOf]; omega⟩
          · obtain rfl : k = l.length := by omega
            have hd : decide (l.length < l.length) = false := decide_eq_false (by omega)
            have HF := Lib.hid (HAL.out HJ.out.1)
            go_wp2_with fail
            refine bodyPost_ret (results_tmp rfl _ _ _) rfl ?_
            exact ⟨by rw [HF.out]; rfl, HJ.out.2⟩
end Go.Proofs.Ytjampleddeidaaa
