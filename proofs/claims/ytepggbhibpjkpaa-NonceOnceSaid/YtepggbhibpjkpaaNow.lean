/- The law NonceOnce: no nonce word is used twice; of all others all is as it was. -/
import Derived.Test.YtepggbhibpjkpaaNov
namespace Go.Proofs.Ytepggbhibpjkpaa
open Go.ChangeShapes Go.WideShapes Go.ChangeAt Go.RowKit Go.Shelf

set_option maxRecDepth 100000 in
/-- Nonces that lie in cells stay where a map's block turns. -/
theorem Nns.keptM {W W' : World} {v : Value} {l : List Nn} {b : Nat} {M : List (Nat × Nat)} (h : Nns W v l) (hM : MuM W b M) (hg : W.grownBy W' (some b)) : Nns W' v l :=
  Sl.mono h (fun _ _ hc => cell_kept hc hg (fun r e => by
    cases e
    obtain ⟨es, clock, hb, _⟩ := hM
    exact ⟨_, hb, rfl⟩)) fun _ _ h => h
set_option maxRecDepth 100000 in
theorem OkQ.cons {M : List (Nat × Nat)} {a x : Nat} (h : OkQ M) (ha : a < 18446744073709551616) (hx : x < M256) : OkQ ((a, x) :: M) := fun q hq => by
  rcases List.mem_cons.1 hq with rfl | hq
  · exact ⟨ha, hx⟩
  · exact h q hq
set_option maxRecDepth 100000 in
theorem nxW_lt {l : List Nn} (hok : ∀ p ∈ l, p.ok) {a k : Nat} (ha : a < 18446744073709551616) (hk : k < M256) : nxW l a k < M256 := by
  unfold nxW
  split
  · exact jnN_lt _ _ (rowN_ok hok ha hk).2.2
  · decide
def OnJ (gm : Nat) (ov : Value) (own : List Nn) (M : List (Nat × Nat)) (i : Nat) (w W : World) : Prop := Nns W ov own ∧ MuM W gm M ∧ MetN M own ∧ OkQ M ∧ M.length ≤ i ∧ Ext w W
set_option maxRecDepth 100000 in
theorem OnJ.ext {gm : Nat} {ov : Value} {own : List Nn} {M : List (Nat × Nat)} {i : Nat} {w W W' : World} (h : OnJ gm ov own M i w W) (he : Ext W W') : OnJ gm ov own M i w W' := ⟨h.1.ext he, h.2.1.ext he, h.2.2.1, h.2.2.2.1, h.2.2.2.2.1, h.2.2.2.2.2.trans he⟩
set_option maxRecDepth 100000 in
set_option maxHeartbeats 16000000 in
theorem nonceOnce_any (u : Value) (l : List (Nat × Nat)) (w : World) (ht : Qts w u l) : Calls Try.prog 7 #[u] w (RetT w) := by
  have HT := Lib.hid ht
  obtain ⟨A2, c2, rfl, h3, h4⟩ := ht.len
  unfold maxLen at h4
  clear ht
  go_enter Try.func7, Try.ntmps7
  go_wp2_with fail
  refine (wakesN_any _).mono ?_
  rintro e w1 ⟨rfl, he⟩
  have HE1 := Lib.hid he
  clear he
  have hmm := @run_makeMap Try.prog
  go_upto_region 4 with fail
  obtain ⟨w3, hw3⟩ : ∃ w3, w1.alloc (.map #[] 0) = w3 := ⟨_, rfl⟩
  have HM3 : Hid (MuM w3 w1.heap.size []) := Lib.hid (by rw [← hw3]; exact World.ownsMap_made _ _ _ _)
  have HX3 : Hid (Ext w1 w3) := Lib.hid (by rw [← hw3]; exact (Ext.refl _).alloc _)
  rw [hw3]
  have HE3 := Lib.hid (HE1.out.trans HX3.out)
  have HGM := Lib.hid (show w.heap.size ≤ w1.heap.size from HE1.out.size)
  clear hw3 hmm HX3 HE1
  generalize w1.heap.size = gm at *
  go_wp2_with fail
  go_loopw [30, 4] (fun iv ov wr => ∃ i : Nat, ∃ own : List Nn, ∃ M : List (Nat × Nat), i ≤ l.length ∧ i ≤ 60 ∧ iv = .int .i64 i ∧ Hid (OnJ gm ov own M i w wr)) (fun iv _ _ => l.length - (intOf iv).toNat)
  case atStart => exact ⟨0, [], [], by omega, by omega, rfl, Lib.hid ⟨Nns.nil _, HM3.out, (fun q hq => nomatch hq), (fun q hq => nomatch hq), Nat.le_refl _, HE3.out⟩⟩
  case round =>
    clear HM3 HE3
    obtain ⟨i, own, M, hi, hi60, rfl, HJ⟩ := hrel
    obtain ⟨A5, c5, rfl, k1, k2⟩ := HJ.out.1.len
    unfold maxLen at k2
    by_cases hlt : i < l.length
    · have hd : decide (i < l.length) = true := decide_eq_true hlt
      have hd2 : decide ((i : Int) < (l.length : Int)) = true := decide_eq_true (by omega)
      obtain ⟨bb, oo, rfl, hrg, hqa, hqk⟩ := (HT.out.ext HJ.out.2.2.2.2.2).at i hlt
      have HR := Lib.hid hrg
      have HAA := Lib.hid hqa
      have HKX := Lib.hid hqk
      clear hrg hqa hqk
      generalize (l.getD i (0, 0)).1 = a at *
      generalize (l.getD i (0, 0)).2 = x at *
      have HZS := Lib.hid HJ.out.2.2.2.2.2.size
      by_cases h60 : i = 60
      · have d10 : ((i : Int) == 60) = true := by rw [beq_iff_eq]; omega
        have d11 : (i == 60) = true := by simp [h60]
        clear h60
        go_wp2_with (first
          | ((with_reducible refine wpList_load_at ?_ (.tmp 33) ?_ bb (oo + i * 5) a x ?_ ?_ ?_); (exact rfl); (exact rfl); (exact rfl); (exact HR.out))
          | ((with_reducible refine wpList_store_at ?_ ?_ (.tmp 6) (.tmp 34) ?_ wr.heap.size 0 0 a x ?_ ?_ ?_ ?_); (exact rfl); (exact rfl); (exact rfl); (exact rfl); (exact rfl); (exact (Cs.new _ _ _ _ rfl)); intro w4 k4 g4; have K4 := Lib.hid k4; have G4 := Lib.hid g4; clear k4 g4))
        go_ret
        exact ⟨rfl, (HJ.out.2.2.2.2.2.alloc (.cells (okc 0 0) 31)).grown G4.out HZS.out⟩
      have HI60 := Lib.hid (show i < 60 by omega)
      have d10 : ((i : Int) == 60) = false := by rw [beq_eq_false_iff_ne]; omega
      have d11 : (i == 60) = false := by simpa using h60
      clear h60
      go_upto_region 9 with (first
        | ((with_reducible refine wpList_load_at ?_ (.tmp 33) ?_ bb (oo + i * 5) a x ?_ ?_ ?_); (exact rfl); (exact rfl); (exact rfl); (exact HR.out))
        | ((with_reducible refine wpList_store_at ?_ ?_ (.tmp 6) (.tmp 34) ?_ wr.heap.size 0 0 a x ?_ ?_ ?_ ?_); (exact rfl); (exact rfl); (exact rfl); (exact rfl); (exact rfl); (exact (Cs.new _ _ _ _ rfl)); intro w4 k4 g4; have K4 := Lib.hid k4; have G4 := Lib.hid g4; clear k4 g4))
      have HX4 := Lib.hid (((Ext.refl wr).alloc (.cells (okc 0 0) 31)).grown G4.out (Nat.le_refl _))
      have HJ4 := Lib.hid (HJ.out.ext HX4.out)
      have HQ4 := Lib.hid K4.out
      clear G4 K4 hd hd2 d10 d11 HR HX4 HJ HZS
      generalize wr.heap.size = g6 at *
      have q0 := HQ4.out.addr
      have HQK := Lib.hid HQ4.out.key
      go_wp2_with (first
        | ((with_reducible refine wpList_load_wordIn ?_ (.tmp 41) ?_ g6 1 (x) ?_ ?_ ?_); (exact rfl); (exact rfl); (exact rfl); (exact HQK.out)))
      refine (useN_any _ own a x _ HJ4.out.1 HAA.out HKX.out).mono ?_
      rintro e w5 ⟨v5, rfl, ho, he⟩
      have HJ5 := Lib.hid (HJ4.out.ext he)
      have HQ5 := Lib.hid (HQ4.out.ext he)
      have HON := Lib.hid ho.nns
      clear ho he HJ4 HQ4 q0 HQK
      have HOKO := Lib.hid HJ5.out.1.oks
      by_cases hz : usE own a x = 0
      · rw [hz]
        have HUF := Lib.hid (use_facts HOKO.out HAA.out HKX.out hz)
        have HUN := Lib.hid (use_next HOKO.out HAA.out HKX.out hz)
        have HUO := Lib.hid (fun b k (hk : k < M256) (hne : ¬(b = a ∧ k = keyN x)) => use_others HOKO.out HAA.out HKX.out hz (b := b) hk hne)
        have HMM := Lib.hid (met_more HJ5.out.2.2.1 HJ5.out.2.2.2.1 HOKO.out HAA.out HKX.out hz)
        have HMN := Lib.hid (met_not HJ5.out.2.2.1 HUF.out.2.2.1)
        have HR5 := Lib.hid HUF.out.2.2.2.2.2.1
        have HS1 := Lib.hid HUF.out.2.2.2.1
        have HKJ := Lib.hid (key_join (keyN x) (seqN x + 1) (keyN_lt HKX.out) HS1.out)
        have HKY := Lib.hid (K192_lt (keyN_lt HKX.out))
        clear hz HUF
        generalize usL own a x = U at *
        obtain ⟨AU, cU, rfl, _, _⟩ := HON.out.len
        have HQK := Lib.hid HQ5.out.key
        go_wp2_with (first
          | ((with_reducible refine wpList_load_wordIn ?_ (.tmp 52) ?_ g6 1 (x) ?_ ?_ ?_); (exact rfl); (exact rfl); (exact rfl); (exact HQK.out)))
        refine (split_any x _ HKX.out).mono ?_
        rintro e w6 ⟨rfl, he⟩
        have HJ6 := Lib.hid (HJ5.out.ext he)
        have HQ6 := Lib.hid (HQ5.out.ext he)
        have HON6 := Lib.hid (HON.out.ext he)
        have HZ6 := Lib.hid HJ6.out.2.2.2.2.2.size
        clear he HJ5 HQ5 HON HQK
        have HWR := Lib.hid (show IntKind.u64.wrap ((seqN x : Int) + 1) = ((seqN x + 1 : Nat) : Int) by rw [IntKind.wrap_u64]; have := HS1.out; omega)
        generalize keyN x = ky at *
        generalize seqN x = s at *
        generalize s + 1 = s1 at *
        go_upto_region 14 with (first
          | ((with_reducible refine wpList_store_word ?_ ?_ 29 (.tmp 9) (.tmp 55) ?_ winfo w6.heap.size (wc 0) (ky) ?_ ?_ ?_ ?_ ?_); (exact rfl); (exact rfl); (exact rfl); (exact rfl); (exact rfl); (exact (Cs.new _ _ _ _ rfl)); (exact rfl); intro w7 k7 g7; have K7 := Lib.hid k7; have G7 := Lib.hid g7; clear k7 g7))
        have HX7 := Lib.hid (((Ext.refl w6).alloc (.cells (wc 0) 29)).grown G7.out (Nat.le_refl _))
        have HJ7 := Lib.hid (HJ6.out.ext HX7.out)
        have HQ7 := Lib.hid (HQ6.out.ext HX7.out)
        have HON7 := Lib.hid (HON6.out.ext HX7.out)
        have HW7 := Lib.hid K7.out
        clear G7 K7 HJ6 HQ6 HON6 HX7 HZ6
        generalize w6.heap.size = g9 at *
        have q0 := HQ7.out.addr
        have HWK := Lib.hid (Cs.rg HW7.out)
        go_wp2_with (first
          | ((with_reducible refine wpList_load_wordIn ?_ (.tmp 9) ?_ g9 0 (ky) ?_ ?_ ?_); (exact rfl); (exact rfl); (exact rfl); (exact HWK.out)))
        refine (nextN_any _ U a ky _ HON7.out HAA.out HKY.out).mono ?_
        rintro e w8 ⟨rfl, he⟩
        rw [HUN.out.1, HUN.out.2.1]
        have HJ8 := Lib.hid (HJ7.out.ext he)
        have HQ8 := Lib.hid (HQ7.out.ext he)
        have HON8 := Lib.hid (HON7.out.ext he)
        have HW8 := Lib.hid (Wd.ext HW7.out he)
        have HJL := Lib.hid (jnN_lt ky s1 HS1.out)
        clear he HJ7 HQ7 HON7 HW7 HWK q0
        go_upto_region 15 with (first
          | ((with_reducible refine wpList_store_word ?_ ?_ 29 (.tmp 11) (.tmp 63) ?_ winfo w8.heap.size (wc 0) (jnN ky s1) ?_ ?_ ?_ ?_ ?_); (exact rfl); (exact rfl); (exact rfl); (exact rfl); (exact rfl); (exact (Cs.new _ _ _ _ rfl)); (exact rfl); intro w9 k9 g9; have K9 := Lib.hid k9; have G9 := Lib.hid g9; clear k9 g9))
        have HX9 := Lib.hid (((Ext.refl w8).alloc (.cells (wc 0) 29)).grown G9.out (Nat.le_refl _))
        have HJ9 := Lib.hid (HJ8.out.ext HX9.out)
        have HQ9 := Lib.hid (HQ8.out.ext HX9.out)
        have HON9 := Lib.hid (HON8.out.ext HX9.out)
        have HW9 := Lib.hid (Wd.ext HW8.out HX9.out)
        have HN9 := Lib.hid (Cs.rg K9.out)
        clear G9 K9 HJ8 HQ8 HON8 HW8 HX9
        generalize w8.heap.size = g11 at *
        go_wp2_with (first
          | ((with_reducible refine wpList_load_wordIn ?_ (.tmp 11) ?_ g11 0 (jnN ky s1) ?_ ?_ ?_); (exact rfl); (exact rfl); (exact rfl); (exact HN9.out)))
        refine (split_any (jnN ky s1) _ HJL.out).mono ?_
        rintro e wA ⟨rfl, he⟩
        rw [HKJ.out.1, HKJ.out.2]
        have HJA := Lib.hid (HJ9.out.ext he)
        have HQA := Lib.hid (HQ9.out.ext he)
        have HONA := Lib.hid (HON9.out.ext he)
        have HWA := Lib.hid (Wd.ext HW9.out he)
        clear he HJ9 HQ9 HON9 HW9 HN9
        go_upto_region 16 with (first
          | ((with_reducible refine wpList_store_word ?_ ?_ 29 (.tmp 13) (.tmp 68) ?_ winfo wA.heap.size (wc 0) (ky) ?_ ?_ ?_ ?_ ?_); (exact rfl); (exact rfl); (exact rfl); (exact rfl); (exact rfl); (exact (Cs.new _ _ _ _ rfl)); (exact rfl); intro wB kB gB; have KB := Lib.hid kB; have GB := Lib.hid gB; clear kB gB))
        have HXB := Lib.hid (((Ext.refl wA).alloc (.cells (wc 0) 29)).grown GB.out (Nat.le_refl _))
        have HJB := Lib.hid (HJA.out.ext HXB.out)
        have HQB := Lib.hid (HQA.out.ext HXB.out)
        have HONB := Lib.hid (HONA.out.ext HXB.out)
        have HWB := Lib.hid (Wd.ext HWA.out HXB.out)
        have HVB := Lib.hid KB.out
        clear GB KB HJA HQA HONA HWA HXB
        generalize wA.heap.size = g13 at *
        have q0 := HQB.out.addr
        have HQK := Lib.hid HQB.out.key
        have hmf : decide ((a, x) ∈ M) = false := decide_eq_false HMN.out
        have HMUB := Lib.hid HJB.out.2.1
        have HOQB := Lib.hid HJB.out.2.2.2.1
        go_wp2_with (first
          | ((with_reducible refine wpList_load_wordIn ?_ (.tmp 73) ?_ g6 1 (x) ?_ ?_ ?_); (exact rfl); (exact rfl); (exact rfl); (exact HQK.out); (unfold wv wc))
          | ((with_reducible refine wpList_met_get ?_ (.tmp 70) (.tmp 75) ?_ gm M HOQB.out HMUB.out a x HAA.out HKX.out ?_ ?_ ?_); (exact rfl); (exact rfl); (exact rfl); (exact rfl); rw [hmf]))
        refine (checkN_any _ U _ HONB.out).mono ?_
        rintro e wC ⟨rfl, he⟩
        rw [chkN_yes HR5.out]
        have HJC := Lib.hid (HJB.out.ext he)
        have HQC := Lib.hid (HQB.out.ext he)
        have HONC := Lib.hid (HONB.out.ext he)
        have HWC := Lib.hid (Wd.ext HWB.out he)
        have HWKC := Lib.hid (Cs.rg HWC.out)
        have HVC := Lib.hid (Cs.rg (Wd.ext HVB.out he))
        clear he HJB HQB HONB HWB HVB q0 HQK hmf
        have e1 : (ky != ky) = false := bne_self_eq_false ky
        have e2 : ((s1 : Int) != IntKind.u64.wrap ((s : Int) + 1)) = false := by rw [HWR.out]; exact bne_self_eq_false _
        have q0 := HQC.out.addr
        have HQK := Lib.hid HQC.out.key
        go_wp2_with (first
          | ((with_reducible refine wpList_load_wordIn ?_ (.tmp 13) ?_ g13 0 (ky) ?_ ?_ ?_); (exact rfl); (exact rfl); (exact rfl); (exact HVC.out))
          | ((with_reducible refine wpList_load_wordIn ?_ (.tmp 9) ?_ g9 0 (ky) ?_ ?_ ?_); (exact rfl); (exact rfl); (exact rfl); (exact HWKC.out))
          | ((with_reducible refine wpList_neq_word ?_ (.tmp 87) (.tmp 88) ?_ (ky) (ky) (HKY.out) (HKY.out) ?_ ?_ ?_); (exact rfl); (exact rfl); (exact rfl); (exact rfl); rw [e1])
          | ((with_reducible refine wpList_load_wordIn ?_ (.tmp 101) ?_ g6 1 (x) ?_ ?_ ?_); (exact rfl); (exact rfl); (exact rfl); (exact HQK.out)))
        clear e1 e2
        refine (useN_any _ U a x _ HONC.out HAA.out HKX.out).mono ?_
        rintro e wD ⟨vD, rfl, ho, he⟩
        rw [HUN.out.2.2]
        have HJD := Lib.hid (HJC.out.ext he)
        have HQD := Lib.hid (HQC.out.ext he)
        have HOND := Lib.hid (HONC.out.ext he)
        have HWD := Lib.hid (Wd.ext HWC.out he)
        obtain ⟨AD, cD, rfl, _, _⟩ := ho.nns.len
        clear he ho HJC HQC HONC HWC HWKC HVC q0 HQK
        have q0 := HQD.out.addr
        have HQK := Lib.hid HQD.out.key
        have HML := Lib.hid (show M.length ≤ 1000 by have := HJD.out.2.2.2.2.1; have := HI60.out; omega)
        have HMUD := Lib.hid HJD.out.2.1
        go_upto_region 22 with (first
          | ((with_reducible refine wpList_load_wordIn ?_ (.tmp 111) ?_ g6 1 (x) ?_ ?_ ?_); (exact rfl); (exact rfl); (exact rfl); (exact HQK.out); (unfold wv wc))
          | ((with_reducible refine wpList_met_put ?_ ?_ (.tmp 108) (.tmp 113) (.const (.bool true)) ?_ gm M HML.out HMUD.out a x HAA.out ?_ ?_ ?_ ?_); (exact rfl); (exact rfl); (exact rfl); (exact rfl); (exact rfl); (exact rfl); intro wp kp gp; have KP := Lib.hid kp; have GP := Lib.hid gp; clear kp gp))
        have HXW := Lib.hid (HJD.out.2.2.2.2.2.grown GP.out HGM.out)
        have HNO := Lib.hid (HJD.out.1.keptM HMUD.out GP.out)
        have HNU := Lib.hid (HOND.out.keptM HMUD.out GP.out)
        have HQP := Lib.hid (show Qb wp g6 a x from Cs.kept HQD.out GP.out (some_ne (HMUD.out.ne HQD.out)))
        have HWP := Lib.hid (show Wd wp g9 29 ky from Cs.kept HWD.out GP.out (some_ne (HMUD.out.ne HWD.out)))
        have HOQ := Lib.hid (OkQ.cons HJD.out.2.2.2.1 HAA.out HKX.out)
        have HLM := Lib.hid (show ((a, x) :: M).length ≤ i + 1 by have := HJD.out.2.2.2.2.1; rw [List.length_cons]; omega)
        clear HJD HOND HQD HWD HMUD GP HMUB HOQB q0 HQK HML HMN HKJ HUN HJL HWR HS1 HR5
        go_wp2_with fail
        rw [show max (min (l.length : Int) 20) 0 = (((min (l.length : Int) 20).toNat : Nat) : Int) by omega]
        generalize hkk : (min (l.length : Int) 20).toNat = kk
        have HKL := Lib.hid (show kk ≤ l.length ∧ kk ≤ 20 by omega)
        clear hkk
        have hk20 : kk ≤ 20 := HKL.out.2
        go_loopw [120] (fun jv ws => ∃ j : Nat, j ≤ kk ∧ jv = .int .i64 j ∧ Hid (Ext wp ws)) (fun jv _ => kk - (intOf jv).toNat)
        case atStart => exact ⟨0, by omega, rfl, Lib.hid (Ext.refl _)⟩
        case round =>
          obtain ⟨j, hj, rfl, HY⟩ := hrel
          by_cases hjk : j < kk
          · have hd : decide (j < kk) = true := decide_eq_true hjk
            have hd2 : decide ((j : Int) < (kk : Int)) = true := decide_eq_true (by omega)
            have hjl : j < l.length := by have := HKL.out.1; omega
            obtain ⟨b', o', eA, hrg, hqa, hqk⟩ := (HT.out.ext (HXW.out.trans HY.out)).at j hjl
            cases eA
            have HR2 := Lib.hid hrg
            have HBB := Lib.hid hqa
            have HYX := Lib.hid hqk
            clear hrg hqa hqk
            generalize (l.getD j (0, 0)).1 = b at *
            generalize (l.getD j (0, 0)).2 = y at *
            go_upto_region 25 with (first
              | ((with_reducible refine wpList_load_at ?_ (.tmp 122) ?_ bb (oo + j * 5) b y ?_ ?_ ?_); (exact rfl); (exact rfl); (exact rfl); (exact HR2.out))
              | ((with_reducible refine wpList_store_at ?_ ?_ (.tmp 18) (.tmp 123) ?_ wr.heap.size 0 0 b y ?_ ?_ ?_ ?_); (exact rfl); (exact rfl); (exact rfl); (exact rfl); (exact rfl); (exact (Cs.new _ _ _ _ rfl)); intro wE kE gE; have KE := Lib.hid kE; have GE := Lib.hid gE; clear kE gE))
            have HYE := Lib.hid (HY.out.trans (((Ext.refl wr).alloc (.cells (okc 0 0) 31)).grown GE.out (Nat.le_refl _)))
            have HQE := Lib.hid KE.out
            clear hd hd2 HR2 GE KE HY
            generalize wr.heap.size = g18 at *
            have HYK := Lib.hid (Qb.key HQE.out)
            go_wp2_with (first
              | ((with_reducible refine wpList_load_wordIn ?_ (.tmp 125) ?_ g18 1 (y) ?_ ?_ ?_); (exact rfl); (exact rfl); (exact rfl); (exact HYK.out)))
            refine (split_any y _ HYX.out).mono ?_
            rintro e wF ⟨rfl, he⟩
            have HYF := Lib.hid (HYE.out.trans he)
            have HQF := Lib.hid (HQE.out.ext he)
            have HKO := Lib.hid (K192_lt (keyN_lt HYX.out))
            clear he HYE HQE HYK
            generalize keyN y = ko at *
            generalize seqN y = so at *
            go_upto_region 26 with (first
              | ((with_reducible refine wpList_store_word ?_ ?_ 29 (.tmp 19) (.tmp 128) ?_ winfo wF.heap.size (wc 0) (ko) ?_ ?_ ?_ ?_ ?_); (exact rfl); (exact rfl); (exact rfl); (exact rfl); (exact rfl); (exact (Cs.new _ _ _ _ rfl)); (exact rfl); intro wG kG gG; have KG := Lib.hid kG; have GG := Lib.hid gG; clear kG gG))
            have HXG := Lib.hid (((Ext.refl wF).alloc (.cells (wc 0) 29)).grown GG.out (Nat.le_refl _))
            have HYG := Lib.hid (HYF.out.trans HXG.out)
            have HQG := Lib.hid (HQF.out.ext HXG.out)
            have HOG := Lib.hid KG.out
            clear HYF HQF GG KG HXG
            generalize wF.heap.size = g19 at *
            have q18 := Qb.addr HQG.out
            have q6 := (HQP.out.ext HYG.out).addr
            have HOW := Lib.hid (Cs.rg HOG.out)
            have HKW := Lib.hid (Cs.rg (Wd.ext HWP.out HYG.out))
            by_cases hba : b = a
            · have hf : ((b : Int) == (a : Int)) = true := by rw [beq_iff_eq]; omega
              by_cases hko : ko = ky
              · have hf2 : (ko == ky) = true := by rw [beq_iff_eq]; exact hko
                clear hba hko
                go_wp2_with (first
                  | ((with_reducible refine wpList_load_wordIn ?_ (.tmp 19) ?_ g19 0 (ko) ?_ ?_ ?_); (exact rfl); (exact rfl); (exact rfl); (exact HOW.out))
                  | ((with_reducible refine wpList_load_wordIn ?_ (.tmp 9) ?_ g9 0 (ky) ?_ ?_ ?_); (exact rfl); (exact rfl); (exact rfl); (exact HKW.out))
                  | ((with_reducible refine wpList_eql_word ?_ (.tmp 136) (.tmp 137) ?_ ko ky HKO.out HKY.out ?_ ?_ ?_); (exact rfl); (exact rfl); (exact rfl); (exact rfl); rw [hf2]))
                exact ⟨⟨j + 1, by omega, by go_num, HYG⟩, by simp [intOf]; omega⟩
              · have hf2 : (ko == ky) = false := by rw [beq_eq_false_iff_ne]; exact hko
                have HEQ := Lib.hid (HUO.out b ko HKO.out (fun h => hko h.2))
                clear hba hko
                go_upto_region 27 with (first
                  | ((with_reducible refine wpList_load_wordIn ?_ (.tmp 19) ?_ g19 0 (ko) ?_ ?_ ?_); (exact rfl); (exact rfl); (exact rfl); (exact HOW.out))
                  | ((with_reducible refine wpList_load_wordIn ?_ (.tmp 9) ?_ g9 0 (ky) ?_ ?_ ?_); (exact rfl); (exact rfl); (exact rfl); (exact HKW.out))
                  | ((with_reducible refine wpList_eql_word ?_ (.tmp 136) (.tmp 137) ?_ ko ky HKO.out HKY.out ?_ ?_ ?_); (exact rfl); (exact rfl); (exact rfl); (exact rfl); rw [hf2]))
                clear hf hf2 q6
                have HOWH := Lib.hid HOW.out
                go_wp2_with (first
                  | ((with_reducible refine wpList_load_wordIn ?_ (.tmp 19) ?_ g19 0 (ko) ?_ ?_ ?_); (exact rfl); (exact rfl); (exact rfl); (exact HOWH.out)))
                refine (nextN_any _ own b ko _ (HNO.out.ext HYG.out) HBB.out HKO.out).mono ?_
                rintro e wI ⟨rfl, he⟩
                have HYI := Lib.hid (HYG.out.trans he)
                have HQI := Lib.hid (HQG.out.ext he)
                have HOI := Lib.hid (Wd.ext HOG.out he)
                have HNWL := Lib.hid (nxW_lt HOKO.out HBB.out HKO.out (a := b) (k := ko))
                clear he q18 HOW HKW HOWH
                generalize nxW own b ko = nw at *
                generalize nxE own b ko = ne at *
                go_upto_region 28 with (first
                  | ((with_reducible refine wpList_store_word ?_ ?_ 29 (.tmp 21) (.tmp 146) ?_ winfo wI.heap.size (wc 0) (nw) ?_ ?_ ?_ ?_ ?_); (exact rfl); (exact rfl); (exact rfl); (exact rfl); (exact rfl); (exact (Cs.new _ _ _ _ rfl)); (exact rfl); intro wJ kJ gJ; have KJ := Lib.hid kJ; have GJ := Lib.hid gJ; clear kJ gJ))
                have HXJ := Lib.hid (((Ext.refl wI).alloc (.cells (wc 0) 29)).grown GJ.out (Nat.le_refl _))
                have HYJ := Lib.hid (HYI.out.trans HXJ.out)
                have HQJ := Lib.hid (HQI.out.ext HXJ.out)
                have HOJ := Lib.hid (Wd.ext HOI.out HXJ.out)
                have HVJ := Lib.hid KJ.out
                clear HYI HQI HOI GJ KJ HXJ
                generalize wI.heap.size = g21 at *
                have q18 := Qb.addr HQJ.out
                have HOWJ := Lib.hid (Cs.rg HOJ.out)
                go_wp2_with (first
                  | ((with_reducible refine wpList_load_wordIn ?_ (.tmp 19) ?_ g19 0 (ko) ?_ ?_ ?_); (exact rfl); (exact rfl); (exact rfl); (exact HOWJ.out)))
                refine (nextN_any _ U b ko _ (HNU.out.ext HYJ.out) HBB.out HKO.out).mono ?_
                rintro e wK ⟨rfl, he⟩
                rw [HEQ.out.1, HEQ.out.2]
                have HYL := Lib.hid (HYJ.out.trans he)
                have HVK := Lib.hid (Wd.ext HVJ.out he)
                clear he q18 HOWJ HYJ HQJ HOJ HVJ
                go_upto_region 29 with (first
                  | ((with_reducible refine wpList_store_word ?_ ?_ 29 (.tmp 23) (.tmp 154) ?_ winfo wK.heap.size (wc 0) (nw) ?_ ?_ ?_ ?_ ?_); (exact rfl); (exact rfl); (exact rfl); (exact rfl); (exact rfl); (exact (Cs.new _ _ _ _ rfl)); (exact rfl); intro wL kL gL; have KL := Lib.hid kL; have GL := Lib.hid gL; clear kL gL))
                have HXL := Lib.hid (((Ext.refl wK).alloc (.cells (wc 0) 29)).grown GL.out (Nat.le_refl _))
                have HYM := Lib.hid (HYL.out.trans HXL.out)
                have HV21 := Lib.hid (Cs.rg (Wd.ext HVK.out HXL.out))
                have HV23 := Lib.hid (Cs.rg KL.out)
                clear HYL HVK GL KL HXL
                have ew : (nw != nw) = false := bne_self_eq_false nw
                have ee : (ne != ne) = false := bne_self_eq_false ne
                go_wp2_with (first
                  | ((with_reducible refine wpList_load_wordIn ?_ (.tmp 21) ?_ g21 0 (nw) ?_ ?_ ?_); (exact rfl); (exact rfl); (exact rfl); (exact HV21.out))
                  | ((with_reducible refine wpList_load_wordIn ?_ (.tmp 23) ?_ wK.heap.size 0 (nw) ?_ ?_ ?_); (exact rfl); (exact rfl); (exact rfl); (exact HV23.out))
                  | ((with_reducible refine wpList_neq_word ?_ (.tmp 156) (.tmp 157) ?_ (nw) (nw) (HNWL.out) (HNWL.out) ?_ ?_ ?_); (exact rfl); (exact rfl); (exact rfl); (exact rfl); rw [ew]))
                exact ⟨⟨j + 1, by omega, by go_num, HYM⟩, by simp [intOf]; omega⟩
            · have hf : ((b : Int) == (a : Int)) = false := by rw [beq_eq_false_iff_ne]; omega
              have HEQ := Lib.hid (HUO.out b ko HKO.out (fun h => hba h.1))
              clear hba
              go_upto_region 27 with fail
              clear hf q6
              have HOWH := Lib.hid HOW.out
              go_wp2_with (first
                | ((with_reducible refine wpList_load_wordIn ?_ (.tmp 19) ?_ g19 0 (ko) ?_ ?_ ?_); (exact rfl); (exact rfl); (exact rfl); (exact HOWH.out)))
              refine (nextN_any _ own b ko _ (HNO.out.ext HYG.out) HBB.out HKO.out).mono ?_
              rintro e wI ⟨rfl, he⟩
              have HYI := Lib.hid (HYG.out.trans he)
              have HQI := Lib.hid (HQG.out.ext he)
              have HOI := Lib.hid (Wd.ext HOG.out he)
              have HNWL := Lib.hid (nxW_lt HOKO.out HBB.out HKO.out (a := b) (k := ko))
              clear he q18 HOW HKW HOWH
              generalize nxW own b ko = nw at *
              generalize nxE own b ko = ne at *
              go_upto_region 28 with (first
                | ((with_reducible refine wpList_store_word ?_ ?_ 29 (.tmp 21) (.tmp 146) ?_ winfo wI.heap.size (wc 0) (nw) ?_ ?_ ?_ ?_ ?_); (exact rfl); (exact rfl); (exact rfl); (exact rfl); (exact rfl); (exact (Cs.new _ _ _ _ rfl)); (exact rfl); intro wJ kJ gJ; have KJ := Lib.hid kJ; have GJ := Lib.hid gJ; clear kJ gJ))
              have HXJ := Lib.hid (((Ext.refl wI).alloc (.cells (wc 0) 29)).grown GJ.out (Nat.le_refl _))
              have HYJ := Lib.hid (HYI.out.trans HXJ.out)
              have HQJ := Lib.hid (HQI.out.ext HXJ.out)
              have HOJ := Lib.hid (Wd.ext HOI.out HXJ.out)
              have HVJ := Lib.hid KJ.out
              clear HYI HQI HOI GJ KJ HXJ
              generalize wI.heap.size = g21 at *
              have q18 := Qb.addr HQJ.out
              have HOWJ := Lib.hid (Cs.rg HOJ.out)
              go_wp2_with (first
                | ((with_reducible refine wpList_load_wordIn ?_ (.tmp 19) ?_ g19 0 (ko) ?_ ?_ ?_); (exact rfl); (exact rfl); (exact rfl); (exact HOWJ.out)))
              refine (nextN_any _ U b ko _ (HNU.out.ext HYJ.out) HBB.out HKO.out).mono ?_
              rintro e wK ⟨rfl, he⟩
              rw [HEQ.out.1, HEQ.out.2]
              have HYL := Lib.hid (HYJ.out.trans he)
              have HVK := Lib.hid (Wd.ext HVJ.out he)
              clear he q18 HOWJ HYJ HQJ HOJ HVJ
              go_upto_region 29 with (first
                | ((with_reducible refine wpList_store_word ?_ ?_ 29 (.tmp 23) (.tmp 154) ?_ winfo wK.heap.size (wc 0) (nw) ?_ ?_ ?_ ?_ ?_); (exact rfl); (exact rfl); (exact rfl); (exact rfl); (exact rfl); (exact (Cs.new _ _ _ _ rfl)); (exact rfl); intro wL kL gL; have KL := Lib.hid kL; have GL := Lib.hid gL; clear kL gL))
              have HXL := Lib.hid (((Ext.refl wK).alloc (.cells (wc 0) 29)).grown GL.out (Nat.le_refl _))
              have HYM := Lib.hid (HYL.out.trans HXL.out)
              have HV21 := Lib.hid (Cs.rg (Wd.ext HVK.out HXL.out))
              have HV23 := Lib.hid (Cs.rg KL.out)
              clear HYL HVK GL KL HXL
              have ew : (nw != nw) = false := bne_self_eq_false nw
              have ee : (ne != ne) = false := bne_self_eq_false ne
              go_wp2_with (first
                | ((with_reducible refine wpList_load_wordIn ?_ (.tmp 21) ?_ g21 0 (nw) ?_ ?_ ?_); (exact rfl); (exact rfl); (exact rfl); (exact HV21.out))
                | ((with_reducible refine wpList_load_wordIn ?_ (.tmp 23) ?_ wK.heap.size 0 (nw) ?_ ?_ ?_); (exact rfl); (exact rfl); (exact rfl); (exact HV23.out))
                | ((with_reducible refine wpList_neq_word ?_ (.tmp 156) (.tmp 157) ?_ (nw) (nw) (HNWL.out) (HNWL.out) ?_ ?_ ?_); (exact rfl); (exact rfl); (exact rfl); (exact rfl); rw [ew]))
              exact ⟨⟨j + 1, by omega, by go_num, HYM⟩, by simp [intOf]; omega⟩
          · obtain rfl : j = kk := by omega
            have hd : decide (j < j) = false := decide_eq_false (by omega)
            have hd2 : decide ((j : Int) < (j : Int)) = false := decide_eq_false (by omega)
            go_wp2_with fail
            exact ⟨⟨i + 1, U, (a, x) :: M, by omega, by have := HI60.out; omega, by go_num, Lib.hid ⟨HNU.out.ext HY.out, KP.out.ext HY.out, HMM.out, HOQ.out, HLM.out, HXW.out.trans HY.out⟩⟩, by simp [intOf]; omega⟩
      · have HUL := Lib.hid (show usL own a x = [] by unfold usL; rw [if_neg hz])
        have e1 : (usE own a x != 0) = true := by simpa using hz
        rw [HUL.out] at HON
        clear hz
        generalize usE own a x = E at *
        obtain ⟨AU, cU, rfl, _, _⟩ := HON.out.len
        go_wp2_with fail
        exact ⟨⟨i + 1, own, M, by omega, by have := HI60.out; omega, by go_num, Lib.hid ⟨HJ5.out.1, HJ5.out.2.1, HJ5.out.2.2.1, HJ5.out.2.2.2.1, by have := HJ5.out.2.2.2.2.1; omega, HJ5.out.2.2.2.2.2⟩⟩, by simp [intOf]; omega⟩
    · obtain rfl : i = l.length := by omega
      have hd : decide (l.length < l.length) = false := decide_eq_false (by omega)
      have hd2 : decide ((l.length : Int) < (l.length : Int)) = false := decide_eq_false (by omega)
      have HX := Lib.hid HJ.out.2.2.2.2.2
      go_wp2_with fail
      go_ret
      exact ⟨rfl, HX.out⟩

set_option maxRecDepth 100000 in
theorem nonceOnce_told (W : World) (args : Array Value) (h : Told Try.f7 W args) : Calls Try.prog 7 args W (RetT W) := by
  obtain ⟨H, enc, base, ds, p, hval, hA⟩ := h
  rw [Try.params7] at hA hval
  obtain ⟨v0, d0, rfl, rfl, h0⟩ := trodAll_one hA
  obtain ⟨A2, n2, c2, rfl⟩ := okWide_slice Try.underlying23 (hval 0 _ v0 rfl rfl)
  obtain ⟨m, hm⟩ := qts_came h0 rfl
  exact nonceOnce_any _ m W hm

set_option maxRecDepth 100000 in
theorem nonceOnce_spec (H : Type) : ∀ ds : List (DataW H), ds.length = Try.f7.params.toList.length → Rows.nonceOnceSpec.fn H ds = { results := [.lit (.bool true)], args := ds }
  | [_], _ => rfl
  | [], h | _ :: _ :: _, h => by rw [Try.params7] at h; simp at h

set_option maxRecDepth 100000 in
theorem nonceOnce_holds : Rows.NonceOnceSaid :=
  OpenClaim.holds_of_wide 7 Try.f7 rfl rfl rfl rfl rfl rfl rfl ⟨rfl, rfl, rfl, rfl, rfl⟩ rfl rfl rfl rfl rfl (by kernel_rfl) Try.func7 (by kernel_rfl)
    (of_decide_eq_true (by kernel_rfl)) (by unfold Func.isWrapper; first | (rw [if_pos (by decide +kernel)]; kernel_rfl) | (rw [if_neg (by decide +kernel)]; exact ⟨rfl, rfl⟩))
    (fun os started H enc _ => law_lifted started (by kernel_rfl) Try.func7 rfl rfl (nonceOnce_spec H) (of_decide_eq_true (by kernel_rfl))
      (ChangeSpec.witness6 (enc := enc) (C := Try.checked) false ⟨#[], #[.slice none 0 0], []⟩ 8 (by kernel_rfl) (by kernel_rfl) (by kernel_rfl) (by kernel_rfl)) nonceOnce_told)
end Go.Proofs.Ytepggbhibpjkpaa
