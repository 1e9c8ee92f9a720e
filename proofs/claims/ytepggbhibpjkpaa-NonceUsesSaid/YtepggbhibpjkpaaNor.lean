/- The law NonceUses: what comes of nonces by what is used. -/
import Derived.Test.YtepggbhibpjkpaaNoq
import Derived.Test.YtepggbhibpjkpaaNok
namespace Go.Proofs.Ytepggbhibpjkpaa
open Go.ChangeShapes Go.WideShapes Go.ChangeAt Go.RowKit Go.Shelf

set_option maxRecDepth 100000 in
theorem OwnN.kept2 {W W' : World} {lo g : Nat} {v : Value} {l : List Nn} (h : OwnN W lo v l) (hg : W.grownBy W' (some g)) (hl : g < lo) : OwnN W' lo v l := by
  refine ⟨h.1.kept hg ?_, h.2⟩
  rcases h.1.2 with ⟨e, _⟩ | ⟨g', cap, cur, e, hb, _⟩
  · exact .inl (by rw [e]; rfl)
  · refine .inr (fun e' => ?_)
    rw [e] at e'
    have e2 : some g' = some g := e'
    injection e2 with e2
    omega
set_option maxRecDepth 100000 in
theorem plN_len (l : List Nn) (p : Nn) : (plN l p).length ≤ l.length + 1 := by
  have h : ∀ l : List Nn, (l.filter (fun q => decide (q.cod < p.cod))).length + (l.filter (fun q => decide (p.cod < q.cod))).length ≤ l.length := by
    intro l
    induction l with
    | nil => simp
    | cons q l ih =>
      rw [List.filter_cons, List.filter_cons]
      by_cases h1 : q.cod < p.cod
      · rw [if_pos (decide_eq_true h1), if_neg (by simp; omega), List.length_cons, List.length_cons]
        omega
      · rw [if_neg (by simpa using h1)]
        by_cases h2 : p.cod < q.cod
        · rw [if_pos (decide_eq_true h2), List.length_cons, List.length_cons]
          omega
        · rw [if_neg (by simpa using h2), List.length_cons]
          omega
  unfold plN
  rw [List.length_append, List.length_cons]
  have := h l
  omega
set_option maxRecDepth 100000 in
theorem use_right {l : List Nn} {a x : Nat} (h : usE l a x = 0) : rightN l = true := by
  unfold usE at h
  cases hr : rightN l with
  | true => rfl
  | false => rw [hr] at h; cases h
set_option maxRecDepth 100000 in
theorem use_len {l : List Nn} {a x : Nat} (h : usE l a x = 0) (_h : True) : (usL l a x).length ≤ 49 := by
  have h1 := right_len (use_right h)
  unfold usL
  rw [if_pos h]
  have := plN_len l ⟨a, keyN x, seqN x + 1⟩
  omega
set_option maxRecDepth 100000 in
set_option maxHeartbeats 16000000 in
theorem nonceUses_any (v u : Value) (x0 : List Nn) (l : List (Nat × Nat)) (w : World) (hs : Nns w v x0) (ht : Qts w u l) : Calls Try.prog 3 #[v, u] w (RetT w) := by
  have HS := Lib.hid hs
  have HT := Lib.hid ht
  obtain ⟨A0, c0, rfl, _, _⟩ := hs.len
  obtain ⟨A2, c2, rfl, h3, h4⟩ := ht.len
  unfold maxLen at h4
  clear hs ht
  go_enter Try.func3, Try.ntmps3
  go_wp2_with fail
  refine (wakesN_any _).mono ?_
  rintro e w1 ⟨rfl, he⟩
  have HE1 := Lib.hid he
  clear he
  go_wp2_with fail
  refine (fewN_any _ x0 _ (HS.out.ext HE1.out)).mono ?_
  rintro e w2 ⟨v2, rfl, ho, he⟩
  have HE2 := Lib.hid (HE1.out.trans he)
  have HN2 := Lib.hid ho.nns
  have HL2 := Lib.hid (show (x0.take 49).length ≤ 49 by rw [List.length_take]; omega)
  clear ho he HE1 HS
  go_wp2_with fail
  go_loopw [20, 5] (fun iv ov wr => ∃ i : Nat, ∃ own : List Nn, i ≤ l.length ∧ iv = .int .i64 i ∧ Hid (Nns wr ov own ∧ own.length ≤ 49 ∧ Ext w wr)) (fun iv _ _ => l.length - (intOf iv).toNat)
  case atStart => exact ⟨0, x0.take 49, by omega, rfl, Lib.hid ⟨HN2.out, HL2.out, HE2.out⟩⟩
  case round =>
    clear HN2 HL2 HE2
    obtain ⟨i, own, hi, rfl, HJ0⟩ := hrel
    have HX := Lib.hid HJ0.out.2.2
    have HOWR := Lib.hid HJ0.out.1
    have HLE := Lib.hid HJ0.out.2.1
    clear HJ0
    obtain ⟨A5, c5, rfl, k1, k2⟩ := HOWR.out.len
    unfold maxLen at k2
    by_cases hlt : i < l.length
    · have hd : decide (i < l.length) = true := decide_eq_true hlt
      have hd2 : decide ((i : Int) < (l.length : Int)) = true := decide_eq_true (by omega)
      obtain ⟨bb, oo, rfl, hrg, hqa, hqk⟩ := (HT.out.ext HX.out).at i hlt
      have HR := Lib.hid hrg
      have HAA := Lib.hid hqa
      have HKK := Lib.hid hqk
      clear hrg hqa hqk
      generalize (l.getD i (0, 0)).1 = a at *
      generalize (l.getD i (0, 0)).2 = x at *
      have HZS := Lib.hid HX.out.size
      by_cases h40 : i = 40
      · have d10 : ((i : Int) == 40) = true := by rw [beq_iff_eq]; omega
        have d11 : (i == 40) = true := by simp [h40]
        clear h40
        go_wp2_with (first
          | ((with_reducible refine wpList_load_at ?_ (.tmp 23) ?_ bb (oo + i * 5) a x ?_ ?_ ?_); (exact rfl); (exact rfl); (exact rfl); (exact HR.out))
          | ((with_reducible refine wpList_store_at ?_ ?_ (.tmp 7) (.tmp 24) ?_ wr.heap.size 0 0 a x ?_ ?_ ?_ ?_); (exact rfl); (exact rfl); (exact rfl); (exact rfl); (exact rfl); (exact (Cs.new _ _ _ _ rfl)); intro w4 k4 g4; have K4 := Lib.hid k4; have G4 := Lib.hid g4; clear k4 g4))
        go_ret
        exact ⟨rfl, (HX.out.alloc (.cells (okc 0 0) 31)).grown G4.out HZS.out⟩
      have d10 : ((i : Int) == 40) = false := by rw [beq_eq_false_iff_ne]; omega
      have d11 : (i == 40) = false := by simpa using h40
      clear h40
      go_wp2_with (first
        | ((with_reducible refine wpList_load_at ?_ (.tmp 23) ?_ bb (oo + i * 5) a x ?_ ?_ ?_); (exact rfl); (exact rfl); (exact rfl); (exact HR.out))
        | ((with_reducible refine wpList_store_at ?_ ?_ (.tmp 7) (.tmp 24) ?_ wr.heap.size 0 0 a x ?_ ?_ ?_ ?_); (exact rfl); (exact rfl); (exact rfl); (exact rfl); (exact rfl); (exact (Cs.new _ _ _ _ rfl)); intro w4 k4 g4; have K4 := Lib.hid k4; have G4 := Lib.hid g4; clear k4 g4))
      have HX4 := Lib.hid (((Ext.refl wr).alloc (.cells (okc 0 0) 31)).grown G4.out (Nat.le_refl _))
      clear G4 hd hd2 d10 d11 HR
      refine (fewN_any _ own _ (HOWR.out.ext HX4.out)).mono ?_
      rintro e w5 ⟨v5, rfl, ho, he⟩
      have HWAS := Lib.hid (show Nns w5 v5 own by have := ho.nns; rwa [List.take_of_length_le HLE.out] at this)
      have HE5 := Lib.hid ((HX.out.trans HX4.out).trans he)
      have HOWN := Lib.hid (HOWR.out.ext (HX4.out.trans he))
      have HQ5 := Lib.hid (Qb.ext K4.out he)
      clear ho he HX4 K4 HOWR HX HZS
      generalize wr.heap.size = g7 at *
      obtain ⟨A8, c8, rfl, _, _⟩ := HWAS.out.len
      have q0 := HQ5.out.addr
      have HQK := Lib.hid HQ5.out.key
      go_wp2_with (first
        | ((with_reducible refine wpList_load_wordIn ?_ (.tmp 33) ?_ g7 1 (x) ?_ ?_ ?_); (exact rfl); (exact rfl); (exact rfl); (exact HQK.out)))
      refine (useN_any _ own a x _ HOWN.out HAA.out HKK.out).mono ?_
      rintro e w6 ⟨v6, rfl, ho, he⟩
      have HON := Lib.hid ho
      have HX6 := Lib.hid he
      have HQ6 := Lib.hid (HQ5.out.ext he)
      clear ho he q0 HQK HQ5
      obtain ⟨U, hU⟩ : ∃ U, usL own a x = U := ⟨_, rfl⟩
      obtain ⟨E, hE⟩ : ∃ E, usE own a x = E := ⟨_, rfl⟩
      have HU := Lib.hid hU
      have HEQ := Lib.hid hE
      have HU49 := Lib.hid (fun h : E = 0 => show U.length ≤ 49 by rw [← hU]; exact use_len (by rw [hE]; exact h) trivial)
      have HNR := Lib.hid (fun h : rightN own = false => show E = 180 ∧ U = [] by
        have h2 : usE own a x = 180 := by unfold usE; rw [h]; rfl
        rw [← hE, ← hU]
        exact ⟨h2, by unfold usL; rw [h2]; rfl⟩)
      rw [hU] at HON
      rw [hE]
      clear hU hE
      obtain ⟨AN, cN, rfl, hcn0, hcm⟩ := HON.out.sl
      have HGN := Lib.hid (fun g (e : (Value.slice AN U.length cN).ownBlock = some g) => (HON.out.lt g e).2)
      go_wp2_with fail
      refine (refRight_any _ own _ (HWAS.out.ext HX6.out)).mono ?_
      rintro e w7 ⟨rfl, he⟩
      have HX67 := Lib.hid he
      clear he
      cases hr : rightN own with
      | false =>
        have HUE := Lib.hid (HNR.out hr)
        have HOW : Hid (OwnN w7 w6.heap.size (.slice none 0 0) U) := Lib.hid (by rw [HUE.out.2]; exact OwnN.nil _ _)
        have HXW := Lib.hid HX67.out
        have HXV := Lib.hid (HX6.out.trans HX67.out)
        have e0 : (E != 180) = false := by rw [HUE.out.1]; rfl
        clear hr HX67
        have HN7 := Lib.hid (HON.out.ext HXW.out)
        have HO7 := Lib.hid (HOWN.out.ext HXV.out)
        have HWAS7 := Lib.hid (HWAS.out.ext HXV.out)
        go_wp2_with fail
        refine (refSameN_any _ _ _ _ _ HN7.out.nns HOW.out.nns).mono ?_
        rintro e wg ⟨rfl, he⟩
        rw [show decide (U = U) = true from decide_eq_true rfl]
        have HXG := Lib.hid he
        clear he
        go_wp2_with fail
        refine (refSameN_any _ _ _ _ _ (HO7.out.ext HXG.out) (HWAS7.out.ext HXG.out)).mono ?_
        rintro e wh ⟨rfl, he⟩
        rw [show decide (own = own) = true from decide_eq_true rfl]
        have HXH := Lib.hid (HXG.out.trans he)
        have HOWH := Lib.hid (HOW.out.ext HXH.out)
        have HONH := Lib.hid (HN7.out.ext HXH.out)
        have HX8H := Lib.hid (HXV.out.trans HXH.out)
        clear he HXG HN7 HOW HON HO7 HWAS7
        go_wp2_with fail
        obtain ⟨N, hN⟩ : ∃ N, (U).length = N := ⟨_, rfl⟩
        have HNN := Lib.hid hN
        rw [hN]
        have hcn : N ≤ cN := by rw [← hN]; exact hcn0
        clear hN
        go_loopw [66] (fun jv ws => ∃ j : Nat, ∃ m : List Nn, j ≤ N ∧ jv = .int .i64 j ∧ Hid (m.length = N ∧ OwnN ws w5.heap.size (.slice AN N cN) m ∧ OwnN ws w6.heap.size (.slice none 0 0) (U) ∧ Ext w5 ws)) (fun jv _ => N - (intOf jv).toNat)
        case atStart => exact ⟨0, U, by omega, rfl, Lib.hid ⟨HNN.out, by rw [← HNN.out]; exact HONH.out, HOWH.out, HX8H.out⟩⟩
        case round =>
          obtain ⟨j, m, hj, rfl, HJ⟩ := hrel
          by_cases hjl : j < N
          · have hd : decide (j < N) = true := decide_eq_true hjl
            have hd2 : decide ((j : Int) < (N : Int)) = true := decide_eq_true (by omega)
            have hjm : j < m.length := by rw [HJ.out.1]; exact hjl
            obtain ⟨g, c7, e7, _, _, hbg, hcell, hfz, hst⟩ := HJ.out.2.1.form j hjm
            rw [HJ.out.1] at e7
            injection e7 with e7 _ e9
            subst e7 e9
            have HWR := Lib.hid (show IntKind.u64.wrap (((m.getD j nz0).nxt : Int) + 7) = (((((m.getD j nz0).nxt + 7) % 18446744073709551616 : Nat)) : Int) by rw [IntKind.wrap_u64]; omega)
            have HST := Lib.hid (hst (((m.getD j nz0).nxt + 7) % 18446744073709551616) (Nat.mod_lt _ (by decide)))
            have HBG := Lib.hid hbg
            have HGL := Lib.hid (show g < w6.heap.size from HGN.out g rfl)
            clear hst hbg
            generalize (m.getD j nz0).nxt = nx at *
            go_wp2_with fail
            rw [HWR.out]
            exact ⟨⟨j + 1, _, by omega, by go_num, Lib.hid ⟨by rw [List.length_set]; exact HJ.out.1, HST.out.1, HJ.out.2.2.1.kept2 HST.out.2 HGL.out, HJ.out.2.2.2.grown HST.out.2 HBG.out⟩⟩, by simp [intOf]; omega⟩
          · obtain rfl : j = N := by omega
            have hd : decide (j < j) = false := decide_eq_false (by omega)
            have hd2 : decide ((j : Int) < (j : Int)) = false := decide_eq_false (by omega)
            have HXS := Lib.hid HJ.out.2.2.2
            go_wp2_with fail
            refine (refSameN_any _ _ _ _ _ (HOWN.out.ext HXS.out) (HWAS.out.ext HXS.out)).mono ?_
            rintro e wz ⟨rfl, he⟩
            rw [show decide (own = own) = true from decide_eq_true rfl]
            have HXZ := Lib.hid (HXS.out.trans he)
            have HOZ := Lib.hid (HJ.out.2.2.1.ext he)
            clear he hd hd2
            by_cases hz : E = 0
            · have e1 : (E == 0) = true := by rw [beq_iff_eq]; exact hz
              have HUL := Lib.hid (HU49.out hz)
              go_wp2_with fail
              exact ⟨⟨i + 1, U, by omega, by go_num, Lib.hid ⟨HOZ.out.nns, HUL.out, HE5.out.trans HXZ.out⟩⟩, by simp [intOf]; omega⟩
            · have e1 : (E == 0) = false := by rw [beq_eq_false_iff_ne]; exact hz
              go_wp2_with fail
              exact ⟨⟨i + 1, own, by omega, by go_num, Lib.hid ⟨HOWN.out.ext HXZ.out, HLE.out, HE5.out.trans HXZ.out⟩⟩, by simp [intOf]; omega⟩
      | true =>
        have HRR := Lib.hid hr
        clear hr
        have q0 := (HQ6.out.ext HX67.out).addr
        have HQK := Lib.hid (HQ6.out.ext HX67.out).key
        go_wp2_with (first
          | ((with_reducible refine wpList_load_wordIn ?_ (.tmp 44) ?_ g7 1 (x) ?_ ?_ ?_); (exact rfl); (exact rfl); (exact rfl); (exact HQK.out)))
        refine (refUseN_any _ own a x _ (HWAS.out.ext (HX6.out.trans HX67.out)) HRR.out HAA.out HKK.out).mono ?_
        rintro e wb ⟨vW, rfl, ho, he⟩
        have HOW := Lib.hid (ho.mono HX67.out.size)
        have HXW := Lib.hid (HX67.out.trans he)
        have HXV := Lib.hid (HX6.out.trans (HX67.out.trans he))
        have e0 : (E != E) = false := bne_self_eq_false _
        rw [HU.out] at HOW
        rw [HEQ.out]
        clear ho he HX67 q0 HQK
        obtain ⟨AW, cW, rfl, _, _⟩ := HOW.out.sl
        have HN7 := Lib.hid (HON.out.ext HXW.out)
        have HO7 := Lib.hid (HOWN.out.ext HXV.out)
        have HWAS7 := Lib.hid (HWAS.out.ext HXV.out)
        go_wp2_with fail
        refine (refSameN_any _ _ _ _ _ HN7.out.nns HOW.out.nns).mono ?_
        rintro e wg ⟨rfl, he⟩
        rw [show decide (U = U) = true from decide_eq_true rfl]
        have HXG := Lib.hid he
        clear he
        go_wp2_with fail
        refine (refSameN_any _ _ _ _ _ (HO7.out.ext HXG.out) (HWAS7.out.ext HXG.out)).mono ?_
        rintro e wh ⟨rfl, he⟩
        rw [show decide (own = own) = true from decide_eq_true rfl]
        have HXH := Lib.hid (HXG.out.trans he)
        have HOWH := Lib.hid (HOW.out.ext HXH.out)
        have HONH := Lib.hid (HN7.out.ext HXH.out)
        have HX8H := Lib.hid (HXV.out.trans HXH.out)
        clear he HXG HN7 HOW HON HO7 HWAS7
        go_wp2_with fail
        obtain ⟨N, hN⟩ : ∃ N, (U).length = N := ⟨_, rfl⟩
        have HNN := Lib.hid hN
        rw [hN]
        have hcn : N ≤ cN := by rw [← hN]; exact hcn0
        clear hN
        go_loopw [66] (fun jv ws => ∃ j : Nat, ∃ m : List Nn, j ≤ N ∧ jv = .int .i64 j ∧ Hid (m.length = N ∧ OwnN ws w5.heap.size (.slice AN N cN) m ∧ OwnN ws w6.heap.size (.slice AW N cW) (U) ∧ Ext w5 ws)) (fun jv _ => N - (intOf jv).toNat)
        case atStart => exact ⟨0, U, by omega, rfl, Lib.hid ⟨HNN.out, by rw [← HNN.out]; exact HONH.out, by rw [← HNN.out]; exact HOWH.out, HX8H.out⟩⟩
        case round =>
          obtain ⟨j, m, hj, rfl, HJ⟩ := hrel
          by_cases hjl : j < N
          · have hd : decide (j < N) = true := decide_eq_true hjl
            have hd2 : decide ((j : Int) < (N : Int)) = true := decide_eq_true (by omega)
            have hjm : j < m.length := by rw [HJ.out.1]; exact hjl
            obtain ⟨g, c7, e7, _, _, hbg, hcell, hfz, hst⟩ := HJ.out.2.1.form j hjm
            rw [HJ.out.1] at e7
            injection e7 with e7 _ e9
            subst e7 e9
            have HWR := Lib.hid (show IntKind.u64.wrap (((m.getD j nz0).nxt : Int) + 7) = (((((m.getD j nz0).nxt + 7) % 18446744073709551616 : Nat)) : Int) by rw [IntKind.wrap_u64]; omega)
            have HST := Lib.hid (hst (((m.getD j nz0).nxt + 7) % 18446744073709551616) (Nat.mod_lt _ (by decide)))
            have HBG := Lib.hid hbg
            have HGL := Lib.hid (show g < w6.heap.size from HGN.out g rfl)
            clear hst hbg
            generalize (m.getD j nz0).nxt = nx at *
            go_wp2_with fail
            rw [HWR.out]
            exact ⟨⟨j + 1, _, by omega, by go_num, Lib.hid ⟨by rw [List.length_set]; exact HJ.out.1, HST.out.1, HJ.out.2.2.1.kept2 HST.out.2 HGL.out, HJ.out.2.2.2.grown HST.out.2 HBG.out⟩⟩, by simp [intOf]; omega⟩
          · obtain rfl : j = N := by omega
            have hd : decide (j < j) = false := decide_eq_false (by omega)
            have hd2 : decide ((j : Int) < (j : Int)) = false := decide_eq_false (by omega)
            have HXS := Lib.hid HJ.out.2.2.2
            go_wp2_with fail
            refine (refSameN_any _ _ _ _ _ (HOWN.out.ext HXS.out) (HWAS.out.ext HXS.out)).mono ?_
            rintro e wz ⟨rfl, he⟩
            rw [show decide (own = own) = true from decide_eq_true rfl]
            have HXZ := Lib.hid (HXS.out.trans he)
            have HOZ := Lib.hid (HJ.out.2.2.1.ext he)
            clear he hd hd2
            by_cases hz : E = 0
            · have e1 : (E == 0) = true := by rw [beq_iff_eq]; exact hz
              have HUL := Lib.hid (HU49.out hz)
              go_wp2_with fail
              exact ⟨⟨i + 1, U, by omega, by go_num, Lib.hid ⟨HOZ.out.nns, HUL.out, HE5.out.trans HXZ.out⟩⟩, by simp [intOf]; omega⟩
            · have e1 : (E == 0) = false := by rw [beq_eq_false_iff_ne]; exact hz
              go_wp2_with fail
              exact ⟨⟨i + 1, own, by omega, by go_num, Lib.hid ⟨HOWN.out.ext HXZ.out, HLE.out, HE5.out.trans HXZ.out⟩⟩, by simp [intOf]; omega⟩
    · obtain rfl : i = l.length := by omega
      have hd : decide (l.length < l.length) = false := decide_eq_false (by omega)
      have hd2 : decide ((l.length : Int) < (l.length : Int)) = false := decide_eq_false (by omega)
      go_wp2_with fail
      go_ret
      exact ⟨rfl, HX.out⟩

set_option maxRecDepth 100000 in
theorem nonceUses_told (W : World) (args : Array Value) (h : Told Try.f3 W args) : Calls Try.prog 3 args W (RetT W) := by
  obtain ⟨H, enc, base, ds, p, hval, hA⟩ := h
  rw [Try.params3] at hA hval
  obtain ⟨v0, v1, d0, d1, p0, p1, rfl, rfl, rfl, h0, h1⟩ := trodAll_two hA
  obtain ⟨A, n, c, rfl⟩ := okWide_slice Try.underlying22 (hval 0 _ v0 rfl rfl)
  obtain ⟨l, hl⟩ := nns_came h0 rfl
  obtain ⟨A2, n2, c2, rfl⟩ := okWide_slice Try.underlying23 (hval 1 _ v1 rfl rfl)
  obtain ⟨m, hm⟩ := qts_came h1 rfl
  exact nonceUses_any _ _ l m W hl hm

set_option maxRecDepth 100000 in
theorem nonceUses_spec (H : Type) : ∀ ds : List (DataW H), ds.length = Try.f3.params.toList.length → Rows.nonceUsesSpec.fn H ds = { results := [.lit (.bool true)], args := ds }
  | [_, _], _ => rfl
  | [], h | [_], h | _ :: _ :: _ :: _, h => by rw [Try.params3] at h; simp at h

set_option maxRecDepth 100000 in
theorem nonceUses_holds : Rows.NonceUsesSaid :=
  OpenClaim.holds_of_wide 3 Try.f3 rfl rfl rfl rfl rfl rfl rfl ⟨rfl, rfl, rfl, rfl, rfl⟩ rfl rfl rfl rfl rfl (by kernel_rfl) Try.func3 (by kernel_rfl)
    (of_decide_eq_true (by kernel_rfl)) (by unfold Func.isWrapper; first | (rw [if_pos (by decide +kernel)]; kernel_rfl) | (rw [if_neg (by decide +kernel)]; exact ⟨rfl, rfl⟩))
    (fun os started H enc _ => law_lifted started (by kernel_rfl) Try.func3 rfl rfl (nonceUses_spec H) (of_decide_eq_true (by kernel_rfl))
      (ChangeSpec.witness6 (enc := enc) (C := Try.checked) false ⟨#[], #[.slice none 0 0, .slice none 0 0], []⟩ 8 (by kernel_rfl) (by kernel_rfl) (by kernel_rfl) (by kernel_rfl)) nonceUses_told)
end Go.Proofs.Ytepggbhibpjkpaa
