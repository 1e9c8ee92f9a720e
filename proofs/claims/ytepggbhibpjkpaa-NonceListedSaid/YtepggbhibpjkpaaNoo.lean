/- The law NonceListed: what is listed of an address is what is next of each of its keys. -/
import Derived.Test.YtepggbhibpjkpaaNon
import Derived.Test.YtepggbhibpjkpaaNok
namespace Go.Proofs.Ytepggbhibpjkpaa
open Go.ChangeShapes Go.WideShapes Go.ChangeAt Go.RowKit Go.Shelf

def WdL (w : World) (g8 g11 x : Nat) (W : World) : Prop := Wd W g8 29 x ∧ Wd W g11 29 x ∧ Ext w W
set_option maxRecDepth 100000 in
theorem WdL.ext {w : World} {g8 g11 x : Nat} {W W' : World} (h : WdL w g8 g11 x W) (he : Ext W W') : WdL w g8 g11 x W' := ⟨Wd.ext h.1 he, Wd.ext h.2.1 he, h.2.2.trans he⟩
set_option maxRecDepth 100000 in
set_option maxHeartbeats 4000000 in
theorem nonceListed_any (v : Value) (x0 : List Nn) (a : Nat) (w : World) (hs : Nns w v x0) (ha : a < 18446744073709551616) : Calls Try.prog 9 #[v, .int .u64 (a : Nat)] w (RetT w) := by
  have HS := Lib.hid hs
  have HA := Lib.hid ha
  obtain ⟨A0, c0, rfl, _, _⟩ := hs.len
  clear hs ha
  go_enter Try.func9, Try.ntmps9
  go_wp2_with fail
  refine (wakesN_any _).mono ?_
  rintro e w1 ⟨rfl, he⟩
  have HE1 := Lib.hid he
  clear he
  go_wp2_with fail
  refine (fewN_any _ x0 _ (HS.out.ext HE1.out)).mono ?_
  rintro e w2 ⟨v2, rfl, ho, he⟩
  have HE2 := Lib.hid (HE1.out.trans he)
  have HNL := Lib.hid ho.nns
  clear ho he HE1 HS
  generalize x0.take 49 = l at *
  obtain ⟨A1, c1, rfl, h1, h2⟩ := HNL.out.len
  unfold maxLen at h2
  have HOK := Lib.hid HNL.out.oks
  go_wp2_with fail
  refine (checkN_any _ l _ HNL.out).mono ?_
  rintro e w3 ⟨rfl, he⟩
  have HE3 := Lib.hid (HE2.out.trans he)
  have HNL3 := Lib.hid (HNL.out.ext he)
  clear he HE2 HNL
  cases hr : rightN l with
  | false =>
    rw [chkN_no hr]
    clear hr
    go_wp2_with fail
    go_ret
    exact ⟨rfl, HE3.out⟩
  | true =>
    rw [chkN_yes hr]
    have HRR := Lib.hid hr
    have HOV := Lib.hid (show owN l a = (faN l a).map jnP by unfold owN; rw [hr]; rfl)
    clear hr
    go_wp2_with fail
    refine (ofN_any _ l a _ HNL3.out HA.out).mono ?_
    rintro e wb ⟨v4, rfl, hws, he⟩
    have HEB := Lib.hid (HE3.out.trans he)
    have HNLB := Lib.hid (HNL3.out.ext he)
    rw [HOV.out] at hws
    have HWS := Lib.hid hws
    clear he HE3 HNL3 hws HOV
    obtain ⟨A2, c2, rfl, h3, h4⟩ := HWS.out.len2
    have HLM := Lib.hid (show ((faN l a).map jnP).length = (faN l a).length by simp)
    unfold maxLen at h4
    rw [HLM.out] at h3 HWS ⊢
    obtain ⟨n, hn⟩ : ∃ n, (faN l a).length = n := ⟨_, rfl⟩
    have HNN := Lib.hid hn
    rw [hn] at h3 HWS ⊢
    clear hn
    go_wp2_with fail
    go_loopw [28] (fun iv wr => ∃ k : Nat, k ≤ n ∧ iv = .int .i64 k ∧ Hid (Ext wb wr)) (fun iv _ => n - (intOf iv).toNat)
    case atStart => exact ⟨0, by omega, rfl, Lib.hid (Ext.refl _)⟩
    case round =>
      obtain ⟨k, hk, rfl, HX⟩ := hrel
      by_cases hlt : k < n
      · have hd : decide (k < n) = true := decide_eq_true hlt
        have hd2 : decide ((k : Int) < (n : Int)) = true := decide_eq_true (by omega)
        have hkl : k < (faN l a).length := by rw [HNN.out]; exact hlt
        obtain ⟨bb, oo, rfl, hrg, _⟩ := (HWS.out.ext HX.out).atN k (by rw [HLM.out]; exact hkl)
        rw [owN_get hkl] at hrg
        have HR := Lib.hid hrg
        have HLA := Lib.hid (listed_at HOK.out HRR.out a hkl)
        have HXM := Lib.hid (jnP_lt HOK.out a hkl)
        have HQQ : Hid (∀ j, k = j + 1 → wr.rangeAt bb (oo + j * 4) (wc (jnP ((faN l a).getD j nz0))).toList ∧ jnP ((faN l a).getD j nz0) < M256 ∧ jnP ((faN l a).getD j nz0) < jnP ((faN l a).getD k nz0)) := Lib.hid (fun j hj => by
          have hjl : j < (faN l a).length := by omega
          obtain ⟨b', o', e, hr', _⟩ := (HWS.out.ext HX.out).atN j (by rw [HLM.out]; exact hjl)
          rw [owN_get hjl] at hr'
          cases e
          refine ⟨hr', jnP_lt HOK.out a hjl, ?_⟩
          rw [hj]
          exact listed_rise HOK.out HRR.out a (by omega))
        have HWZ := Lib.hid HX.out.size
        have HSB := Lib.hid HEB.out.size
        clear hrg
        generalize jnP ((faN l a).getD k nz0) = x at *
        go_upto_region 10 with (first
          | ((with_reducible refine wpList_load_wordIn ?_ (.tmp 31) ?_ bb (oo + k * 4) (x) ?_ ?_ ?_); (exact rfl); (exact rfl); (exact rfl); (exact HR.out))
          | ((with_reducible refine wpList_store_word ?_ ?_ 29 (.tmp 8) (.tmp 32) ?_ winfo wr.heap.size (wc 0) (x) ?_ ?_ ?_ ?_ ?_); (exact rfl); (exact rfl); (exact rfl); (exact rfl); (exact rfl); (exact (Cs.new _ _ _ _ rfl)); (exact rfl); intro w8 k8 g8; have K8 := Lib.hid k8; have G8 := Lib.hid g8; clear k8 g8))
        clear hd hd2 HR
        have HE8 := Lib.hid ((HX.out.alloc (.cells (wc 0) 29)).grown G8.out HWZ.out)
        have H8 := Lib.hid K8.out
        clear K8 G8
        have HXR := Lib.hid (show wr.heap.size < w8.heap.size from Wd.lt H8.out)
        generalize hg8 : wr.heap.size = g8 at *
        clear hg8
        have HB8 := Lib.hid (Cs.rg H8.out)
        go_wp2_with (first
          | ((with_reducible refine wpList_load_wordIn ?_ (.tmp 8) ?_ g8 0 (x) ?_ ?_ ?_); (exact rfl); (exact rfl); (exact rfl); (exact HB8.out)))
        refine (split_any x _ HXM.out).mono ?_
        rintro e w9 ⟨rfl, he⟩
        have HE9 := Lib.hid (HE8.out.trans he)
        have H89 := Lib.hid (Wd.ext H8.out he)
        have HZ9 := Lib.hid HE9.out.size
        clear he HB8 H8 HE8
        have HKK := Lib.hid (K192_lt HLA.out.1)
        have HNX := Lib.hid HLA.out.2
        clear HLA
        generalize keyN x = ky at *
        generalize seqN x = q at *
        go_upto_region 11 with (first
          | ((with_reducible refine wpList_store_word ?_ ?_ 29 (.tmp 9) (.tmp 36) ?_ winfo w9.heap.size (wc 0) (ky) ?_ ?_ ?_ ?_ ?_); (exact rfl); (exact rfl); (exact rfl); (exact rfl); (exact rfl); (exact (Cs.new _ _ _ _ rfl)); (exact rfl); intro wA kA gA; have KA := Lib.hid kA; have GA := Lib.hid gA; clear kA gA))
        have HEA := Lib.hid ((HE9.out.alloc (.cells (wc 0) 29)).grown GA.out HZ9.out)
        have H8A := Lib.hid (Wd.kept (Wd.ext H89.out ((Ext.refl _).alloc (.cells (wc 0) 29))) GA.out (some_ne (Nat.ne_of_lt (Wd.lt H89.out))))
        have H9A := Lib.hid (Cs.rg KA.out)
        clear KA GA HE9 HZ9 H89
        generalize hg9 : w9.heap.size = g9 at *
        clear hg9
        go_wp2_with (first
          | ((with_reducible refine wpList_load_wordIn ?_ (.tmp 9) ?_ g9 0 (ky) ?_ ?_ ?_); (exact rfl); (exact rfl); (exact rfl); (exact H9A.out)))
        refine (nextN_any _ l a ky _ (HNLB.out.ext HEA.out) HA.out HKK.out).mono ?_
        rintro e wC ⟨rfl, he⟩
        rw [HNX.out.1, HNX.out.2.1]
        have HEC := Lib.hid (HEA.out.trans he)
        have H8C := Lib.hid (Wd.ext H8A.out he)
        have HZC := Lib.hid HEC.out.size
        clear he H9A H8A HEA
        go_upto_region 12 with (first
          | ((with_reducible refine wpList_store_word ?_ ?_ 29 (.tmp 11) (.tmp 43) ?_ winfo wC.heap.size (wc 0) (x) ?_ ?_ ?_ ?_ ?_); (exact rfl); (exact rfl); (exact rfl); (exact rfl); (exact rfl); (exact (Cs.new _ _ _ _ rfl)); (exact rfl); intro wD kD gD; have KD := Lib.hid kD; have GD := Lib.hid gD; clear kD gD))
        have HED := Lib.hid ((HEC.out.alloc (.cells (wc 0) 29)).grown GD.out HZC.out)
        have HJ12 : Hid (WdL wb g8 wC.heap.size x wD) := Lib.hid ⟨Wd.kept (Wd.ext H8C.out ((Ext.refl _).alloc (.cells (wc 0) 29))) GD.out (some_ne (Nat.ne_of_lt (Wd.lt H8C.out))), KD.out, HED.out⟩
        clear KD GD HEC HZC H8C HED
        generalize hg11 : wC.heap.size = g11 at *
        clear hg11
        have hq0 : ((q : Int) == 0) = false := by rw [beq_eq_false_iff_ne]; have := HNX.out.2.2; omega
        rcases Nat.eq_zero_or_pos k with rfl | hk0
        · clear HQQ
          refine wp_named fun a0 ha0 => ?_
          obtain ⟨fr, hfr⟩ : ∃ fr : (Nat → Value) → Act, ∀ V, fr V = (((((((((((((((((((((((((a0.put (some 45) (V 0)).put (some 46) (V 1)).put (some 47) (V 2)).put (some 48) (V 3)).put (some 49) (V 4)).put (some 50) (V 5)).put (some 51) (V 6)).put (some 52) (V 7)).put (some 53) (V 8)).put (some 54) (V 9)).put (some 55) (V 10)).put (some 56) (V 11)).put (some 57) (V 12)).put (some 58) (V 13)).put (some 59) (V 14)).put (some 60) (V 15)).put (some 61) (V 16)).put (some 62) (V 17)).put (some 63) (V 18)).put (some 64) (V 19)).put (some 65) (V 20)).put (some 66) (V 21)).put (some 67) (V 22)).put (some 68) (V 23)).put (some 69) (V 24)) := ⟨fun V => (((((((((((((((((((((((((a0.put (some 45) (V 0)).put (some 46) (V 1)).put (some 47) (V 2)).put (some 48) (V 3)).put (some 49) (V 4)).put (some 50) (V 5)).put (some 51) (V 6)).put (some 52) (V 7)).put (some 53) (V 8)).put (some 54) (V 9)).put (some 55) (V 10)).put (some 56) (V 11)).put (some 57) (V 12)).put (some 58) (V 13)).put (some 59) (V 14)).put (some 60) (V 15)).put (some 61) (V 16)).put (some 62) (V 17)).put (some 63) (V 18)).put (some 64) (V 19)).put (some 65) (V 20)).put (some 66) (V 21)).put (some 67) (V 22)).put (some 68) (V 23)).put (some 69) (V 24)), fun _ => rfl⟩
          rw [ha0] at hfr
          simp only [Act.put, List.setIfInBounds_toArray, List.set_cons_zero, List.set_cons_succ] at hfr
          have HFR := Lib.hid hfr
          clear hfr
          refine wp_region_inv (by kernel_rfl) (by kernel_rfl) (fun L A W => ∃ V : Nat → Value, A = fr V ∧ Vals (fun j => ([some (.int .i64 0), some (.bool false), some (.bool false), some (wv x), some (wv x), some (.bool false), some (.bool false), some (.bool false), some (.int .u64 (q : Nat)), some (.bool false), some (.bool false), some (.bool false), some (.int .i64 (0 : Nat)), some (.bool false), some (.bool false), some (undef), some (undef), some (undef), some (undef), some (undef), some (undef), some (undef), some (undef), some (.bool false), some (.bool false)] : List (Option Value)).getD j none) L V ∧ (WdL wb g8 g11 x W)) ?_ ⟨?_, ?_, ?_, ?_, ?_, ?_, ?_, ?_, ?_, ?_, ?_, ?_, ?_, ?_, ?_, ?_, ?_, ?_, ?_, ?_, ?_, ?_, ?_, ?_, ?_, trivial⟩ ?_
          · refine ⟨fun j => a0.tmps.getD (([45, 46, 47, 48, 49, 50, 51, 52, 53, 54, 55, 56, 57, 58, 59, 60, 61, 62, 63, 64, 65, 66, 67, 68, 69] : List Nat).getD j 0) undef, ?_, Vals.no _ _ _ (far_none _ _ rfl), HJ12.out.ext ((Ext.refl _).drew)⟩
            rw [HFR.out, ha0]
            rfl
          all_goals clear ha0
          · rintro L A W K hL hC hW ⟨V, rfl, HV, s0⟩ hK
            have H := Lib.hid (show ∀ W', Ext W W' → K (fr (upd V 0 (.int .i64 0))) W' from fun W' he => hK _ _ ⟨upd V 0 (.int .i64 0), rfl, HV.up 0 _ (fun x hx => Option.some.inj hx), WdL.ext s0 he⟩)
            clear hK hC hW hL HV s0
            rw [HFR.out]
            go_wp2_with fail
            show K _ _
            have := H.out _ (Ext.refl _)
            rw [HFR.out] at this
            exact this
          · rintro L A W K hL hC hW ⟨V, rfl, HV, s0⟩ hK
            have e0 : V 0 = .int .i64 0 := HV 0 _ rfl (hW 0 rfl)
            have H := Lib.hid (show ∀ W', Ext W W' → K (fr (upd V 1 (.bool false))) W' from fun W' he => hK _ _ ⟨upd V 1 (.bool false), rfl, HV.up 1 _ (fun x hx => Option.some.inj hx), WdL.ext s0 he⟩)
            have HU := Lib.hid (show (upd V 1 (.bool false)) 0 = .int .i64 0 from e0)
            clear hK hC hW hL HV s0
            rw [HFR.out]
            rw [e0]
            clear e0
            go_wp2_with fail
            show K _ _
            have := H.out _ (Ext.refl _)
            rw [HFR.out] at this
            obtain u0 := HU.out
            rw [u0] at this
            exact this
          · rintro L A W K hL hC hW ⟨V, rfl, HV, s0⟩ hK
            have e1 : V 1 = .bool false := HV 1 _ rfl (hW 1 rfl)
            have H := Lib.hid (show ∀ W', Ext W W' → K (fr (upd V 2 (.bool false))) W' from fun W' he => hK _ _ ⟨upd V 2 (.bool false), rfl, HV.up 2 _ (fun x hx => Option.some.inj hx), WdL.ext s0 he⟩)
            have HU := Lib.hid (show (upd V 2 (.bool false)) 1 = .bool false from e1)
            clear hK hC hW hL HV s0
            rw [HFR.out]
            rw [e1]
            clear e1
            go_wp2_with fail
            show K _ _
            have := H.out _ (Ext.refl _)
            rw [HFR.out] at this
            obtain u1 := HU.out
            rw [u1] at this
            exact this
          · rintro L A W K hL hC hW ⟨V, rfl, HV, s0⟩ hK
            have e2 : V 2 = .bool false := HV 2 _ rfl (hW 2 rfl)
            have hB := s0
            have H := Lib.hid (show ∀ W', Ext W W' → K (fr (upd V 3 (wv x))) W' from fun W' he => hK _ _ ⟨upd V 3 (wv x), rfl, HV.up 3 _ (fun x hx => Option.some.inj hx), WdL.ext s0 he⟩)
            have HU := Lib.hid (show (upd V 3 (wv x)) 2 = .bool false from e2)
            clear hK hC hW hL HV s0
            rw [HFR.out]
            rw [e2]
            clear e2
            have HWW := Lib.hid (Cs.rg hB.2.1)
            clear hB
            refine wpList_load_wordIn rfl (.tmp 11) rfl g11 0 x rfl HWW.out ?_
            show K _ _
            have := H.out _ (Ext.refl _)
            rw [HFR.out] at this
            obtain u2 := HU.out
            rw [u2] at this
            exact this
          · rintro L A W K hL hC hW ⟨V, rfl, HV, s0⟩ hK
            have e2 : V 2 = .bool false := HV 2 _ rfl (hW 2 rfl)
            have hB := s0
            have H := Lib.hid (show ∀ W', Ext W W' → K (fr (upd V 4 (wv x))) W' from fun W' he => hK _ _ ⟨upd V 4 (wv x), rfl, HV.up 4 _ (fun x hx => Option.some.inj hx), WdL.ext s0 he⟩)
            have HU := Lib.hid (show (upd V 4 (wv x)) 2 = .bool false from e2)
            clear hK hC hW hL HV s0
            rw [HFR.out]
            rw [e2]
            clear e2
            have HWW := Lib.hid (Cs.rg hB.1)
            clear hB
            refine wpList_load_wordIn rfl (.tmp 8) rfl g8 0 x rfl HWW.out ?_
            show K _ _
            have := H.out _ (Ext.refl _)
            rw [HFR.out] at this
            obtain u2 := HU.out
            rw [u2] at this
            exact this
          · rintro L A W K hL hC hW ⟨V, rfl, HV, s0⟩ hK
            have e2 : V 2 = .bool false := HV 2 _ rfl (hW 2 rfl)
            have e3 : V 3 = wv x := HV 3 _ rfl (hW 3 rfl)
            have e4 : V 4 = wv x := HV 4 _ rfl (hW 4 rfl)
            have hB := s0
            have H := Lib.hid (show ∀ W', Ext W W' → K (fr (upd V 5 (.bool false))) W' from fun W' he => hK _ _ ⟨upd V 5 (.bool false), rfl, HV.up 5 _ (fun x hx => Option.some.inj hx), WdL.ext s0 he⟩)
            have HU := Lib.hid (show (upd V 5 (.bool false)) 2 = .bool false ∧ (upd V 5 (.bool false)) 3 = wv x ∧ (upd V 5 (.bool false)) 4 = wv x from ⟨e2, e3, e4⟩)
            clear hK hC hW hL HV s0
            rw [HFR.out]
            rw [e2, e3, e4]
            clear e2 e3 e4
            clear hB
            refine wpList_neq_word rfl (.tmp 48) (.tmp 49) rfl x x HXM.out HXM.out rfl rfl ?_
            rw [bne_self_eq_false]
            show K _ _
            have := H.out _ (Ext.refl _)
            rw [HFR.out] at this
            obtain ⟨u2, u3, u4⟩ := HU.out
            rw [u2, u3, u4] at this
            exact this
          · rintro L A W K hL hC hW ⟨V, rfl, HV, s0⟩ hK
            have e2 : V 2 = .bool false := HV 2 _ rfl (hW 2 rfl)
            have e5 : V 5 = .bool false := HV 5 _ rfl (hW 5 rfl)
            have H := Lib.hid (show ∀ W', Ext W W' → K (fr (upd V 6 (.bool false))) W' from fun W' he => hK _ _ ⟨upd V 6 (.bool false), rfl, HV.up 6 _ (fun x hx => Option.some.inj hx), WdL.ext s0 he⟩)
            have HU := Lib.hid (show (upd V 6 (.bool false)) 2 = .bool false ∧ (upd V 6 (.bool false)) 5 = .bool false from ⟨e2, e5⟩)
            clear hK hC hW hL HV s0
            rw [HFR.out]
            rw [e2, e5]
            clear e2 e5
            go_wp2_with fail
            show K _ _
            have := H.out _ (Ext.refl _)
            rw [HFR.out] at this
            obtain ⟨u2, u5⟩ := HU.out
            rw [u2, u5] at this
            exact this
          · rintro L A W K hL hC hW ⟨V, rfl, HV, s0⟩ hK
            have e6 : V 6 = .bool false := HV 6 _ rfl (hW 6 rfl)
            have H := Lib.hid (show ∀ W', Ext W W' → K (fr (upd V 7 (.bool false))) W' from fun W' he => hK _ _ ⟨upd V 7 (.bool false), rfl, HV.up 7 _ (fun x hx => Option.some.inj hx), WdL.ext s0 he⟩)
            have HU := Lib.hid (show (upd V 7 (.bool false)) 6 = .bool false from e6)
            clear hK hC hW hL HV s0
            rw [HFR.out]
            rw [e6]
            clear e6
            go_wp2_with fail
            show K _ _
            have := H.out _ (Ext.refl _)
            rw [HFR.out] at this
            obtain u6 := HU.out
            rw [u6] at this
            exact this
          · rintro L A W K hL hC hW ⟨V, rfl, HV, s0⟩ hK
            have e7 : V 7 = .bool false := HV 7 _ rfl (hW 7 rfl)
            have H := Lib.hid (show ∀ W', Ext W W' → K (fr (upd V 8 (.int .u64 (q : Nat)))) W' from fun W' he => hK _ _ ⟨upd V 8 (.int .u64 (q : Nat)), rfl, HV.up 8 _ (fun x hx => Option.some.inj hx), WdL.ext s0 he⟩)
            have HU := Lib.hid (show (upd V 8 (.int .u64 (q : Nat))) 7 = .bool false from e7)
            clear hK hC hW hL HV s0
            rw [HFR.out]
            rw [e7]
            clear e7
            go_wp2_with fail
            show K _ _
            have := H.out _ (Ext.refl _)
            rw [HFR.out] at this
            obtain u7 := HU.out
            rw [u7] at this
            exact this
          · rintro L A W K hL hC hW ⟨V, rfl, HV, s0⟩ hK
            have e7 : V 7 = .bool false := HV 7 _ rfl (hW 7 rfl)
            have e8 : V 8 = .int .u64 (q : Nat) := HV 8 _ rfl (hW 8 rfl)
            have H := Lib.hid (show ∀ W', Ext W W' → K (fr (upd V 9 (.bool false))) W' from fun W' he => hK _ _ ⟨upd V 9 (.bool false), rfl, HV.up 9 _ (fun x hx => Option.some.inj hx), WdL.ext s0 he⟩)
            have HU := Lib.hid (show (upd V 9 (.bool false)) 7 = .bool false ∧ (upd V 9 (.bool false)) 8 = .int .u64 (q : Nat) from ⟨e7, e8⟩)
            clear hK hC hW hL HV s0
            rw [HFR.out]
            rw [e7, e8]
            clear e7 e8
            go_wp2_with fail
            show K _ _
            have := H.out _ (Ext.refl _)
            rw [HFR.out] at this
            obtain ⟨u7, u8⟩ := HU.out
            rw [u7, u8] at this
            exact this
          · rintro L A W K hL hC hW ⟨V, rfl, HV, s0⟩ hK
            have e7 : V 7 = .bool false := HV 7 _ rfl (hW 7 rfl)
            have e9 : V 9 = .bool false := HV 9 _ rfl (hW 9 rfl)
            have H := Lib.hid (show ∀ W', Ext W W' → K (fr (upd V 10 (.bool false))) W' from fun W' he => hK _ _ ⟨upd V 10 (.bool false), rfl, HV.up 10 _ (fun x hx => Option.some.inj hx), WdL.ext s0 he⟩)
            have HU := Lib.hid (show (upd V 10 (.bool false)) 7 = .bool false ∧ (upd V 10 (.bool false)) 9 = .bool false from ⟨e7, e9⟩)
            clear hK hC hW hL HV s0
            rw [HFR.out]
            rw [e7, e9]
            clear e7 e9
            go_wp2_with fail
            show K _ _
            have := H.out _ (Ext.refl _)
            rw [HFR.out] at this
            obtain ⟨u7, u9⟩ := HU.out
            rw [u7, u9] at this
            exact this
          · rintro L A W K hL hC hW ⟨V, rfl, HV, s0⟩ hK
            have e10 : V 10 = .bool false := HV 10 _ rfl (hW 10 rfl)
            have H := Lib.hid (show ∀ W', Ext W W' → K (fr (upd V 11 (.bool false))) W' from fun W' he => hK _ _ ⟨upd V 11 (.bool false), rfl, HV.up 11 _ (fun x hx => Option.some.inj hx), WdL.ext s0 he⟩)
            have HU := Lib.hid (show (upd V 11 (.bool false)) 10 = .bool false from e10)
            clear hK hC hW hL HV s0
            rw [HFR.out]
            rw [e10]
            clear e10
            go_wp2_with fail
            show K _ _
            have := H.out _ (Ext.refl _)
            rw [HFR.out] at this
            obtain u10 := HU.out
            rw [u10] at this
            exact this
          · rintro L A W K hL hC hW ⟨V, rfl, HV, s0⟩ hK
            have e11 : V 11 = .bool false := HV 11 _ rfl (hW 11 rfl)
            have H := Lib.hid (show ∀ W', Ext W W' → K (fr (upd V 12 (.int .i64 (0 : Nat)))) W' from fun W' he => hK _ _ ⟨upd V 12 (.int .i64 (0 : Nat)), rfl, HV.up 12 _ (fun x hx => Option.some.inj hx), WdL.ext s0 he⟩)
            have HU := Lib.hid (show (upd V 12 (.int .i64 (0 : Nat))) 11 = .bool false from e11)
            clear hK hC hW hL HV s0
            rw [HFR.out]
            rw [e11]
            clear e11
            go_wp2_with fail
            show K _ _
            have := H.out _ (Ext.refl _)
            rw [HFR.out] at this
            obtain u11 := HU.out
            rw [u11] at this
            exact this
          · rintro L A W K hL hC hW ⟨V, rfl, HV, s0⟩ hK
            have e11 : V 11 = .bool false := HV 11 _ rfl (hW 11 rfl)
            have e12 : V 12 = .int .i64 (0 : Nat) := HV 12 _ rfl (hW 12 rfl)
            have H := Lib.hid (show ∀ W', Ext W W' → K (fr (upd V 13 (.bool false))) W' from fun W' he => hK _ _ ⟨upd V 13 (.bool false), rfl, HV.up 13 _ (fun x hx => Option.some.inj hx), WdL.ext s0 he⟩)
            have HU := Lib.hid (show (upd V 13 (.bool false)) 11 = .bool false ∧ (upd V 13 (.bool false)) 12 = .int .i64 (0 : Nat) from ⟨e11, e12⟩)
            clear hK hC hW hL HV s0
            rw [HFR.out]
            rw [e11, e12]
            clear e11 e12
            go_wp2_with fail
            show K _ _
            have := H.out _ (Ext.refl _)
            rw [HFR.out] at this
            obtain ⟨u11, u12⟩ := HU.out
            rw [u11, u12] at this
            exact this
          · rintro L A W K hL hC hW ⟨V, rfl, HV, s0⟩ hK
            have e11 : V 11 = .bool false := HV 11 _ rfl (hW 11 rfl)
            have e13 : V 13 = .bool false := HV 13 _ rfl (hW 13 rfl)
            have H := Lib.hid (show ∀ W', Ext W W' → K (fr (upd V 14 (.bool false))) W' from fun W' he => hK _ _ ⟨upd V 14 (.bool false), rfl, HV.up 14 _ (fun x hx => Option.some.inj hx), WdL.ext s0 he⟩)
            have HU := Lib.hid (show (upd V 14 (.bool false)) 11 = .bool false ∧ (upd V 14 (.bool false)) 13 = .bool false from ⟨e11, e13⟩)
            clear hK hC hW hL HV s0
            rw [HFR.out]
            rw [e11, e13]
            clear e11 e13
            go_wp2_with fail
            show K _ _
            have := H.out _ (Ext.refl _)
            rw [HFR.out] at this
            obtain ⟨u11, u13⟩ := HU.out
            rw [u11, u13] at this
            exact this
          · rintro L A W K hL hC hW ⟨V, rfl, HV, s0⟩ hK
            have e14 : V 14 = .bool false := HV 14 _ rfl (hW 14 rfl)
            have H := Lib.hid (show ∀ W', Ext W W' → K (fr (upd V 15 (undef))) W' from fun W' he => hK _ _ ⟨upd V 15 (undef), rfl, HV.up 15 _ (fun x hx => Option.some.inj hx), WdL.ext s0 he⟩)
            have HU := Lib.hid (show (upd V 15 (undef)) 14 = .bool false from e14)
            clear hK hC hW hL HV s0
            rw [HFR.out]
            rw [e14]
            clear e14
            go_wp2_with fail
            show K _ _
            have := H.out _ (Ext.refl _)
            rw [HFR.out] at this
            obtain u14 := HU.out
            rw [u14] at this
            exact this
          · rintro L A W K hL hC hW ⟨V, rfl, HV, s0⟩ hK
            have e14 : V 14 = .bool false := HV 14 _ rfl (hW 14 rfl)
            have H := Lib.hid (show ∀ W', Ext W W' → K (fr (upd V 16 (undef))) W' from fun W' he => hK _ _ ⟨upd V 16 (undef), rfl, HV.up 16 _ (fun x hx => Option.some.inj hx), WdL.ext s0 he⟩)
            have HU := Lib.hid (show (upd V 16 (undef)) 14 = .bool false from e14)
            clear hK hC hW hL HV s0
            rw [HFR.out]
            rw [e14]
            clear e14
            go_wp2_with fail
            show K _ _
            have := H.out _ (Ext.refl _)
            rw [HFR.out] at this
            obtain u14 := HU.out
            rw [u14] at this
            exact this
          · rintro L A W K hL hC hW ⟨V, rfl, HV, s0⟩ hK
            have e14 : V 14 = .bool false := HV 14 _ rfl (hW 14 rfl)
            have e16 : V 16 = undef := HV 16 _ rfl (hW 16 rfl)
            have H := Lib.hid (show ∀ W', Ext W W' → K (fr (upd V 17 (undef))) W' from fun W' he => hK _ _ ⟨upd V 17 (undef), rfl, HV.up 17 _ (fun x hx => Option.some.inj hx), WdL.ext s0 he⟩)
            have HU := Lib.hid (show (upd V 17 (undef)) 14 = .bool false ∧ (upd V 17 (undef)) 16 = undef from ⟨e14, e16⟩)
            clear hK hC hW hL HV s0
            rw [HFR.out]
            rw [e14, e16]
            clear e14 e16
            go_wp2_with fail
            show K _ _
            have := H.out _ (Ext.refl _)
            rw [HFR.out] at this
            obtain ⟨u14, u16⟩ := HU.out
            rw [u14, u16] at this
            exact this
          · rintro L A W K hL hC hW ⟨V, rfl, HV, s0⟩ hK
            have e14 : V 14 = .bool false := HV 14 _ rfl (hW 14 rfl)
            have e15 : V 15 = undef := HV 15 _ rfl (hW 15 rfl)
            have e17 : V 17 = undef := HV 17 _ rfl (hW 17 rfl)
            have H := Lib.hid (show ∀ W', Ext W W' → K (fr (upd V 18 (undef))) W' from fun W' he => hK _ _ ⟨upd V 18 (undef), rfl, HV.up 18 _ (fun x hx => Option.some.inj hx), WdL.ext s0 he⟩)
            have HU := Lib.hid (show (upd V 18 (undef)) 14 = .bool false ∧ (upd V 18 (undef)) 15 = undef ∧ (upd V 18 (undef)) 17 = undef from ⟨e14, e15, e17⟩)
            clear hK hC hW hL HV s0
            rw [HFR.out]
            rw [e14, e15, e17]
            clear e14 e15 e17
            go_wp2_with fail
            show K _ _
            have := H.out _ (Ext.refl _)
            rw [HFR.out] at this
            obtain ⟨u14, u15, u17⟩ := HU.out
            rw [u14, u15, u17] at this
            exact this
          · rintro L A W K hL hC hW ⟨V, rfl, HV, s0⟩ hK
            have e14 : V 14 = .bool false := HV 14 _ rfl (hW 14 rfl)
            have e18 : V 18 = undef := HV 18 _ rfl (hW 18 rfl)
            have H := Lib.hid (show ∀ W', Ext W W' → K (fr (upd V 19 (undef))) W' from fun W' he => hK _ _ ⟨upd V 19 (undef), rfl, HV.up 19 _ (fun x hx => Option.some.inj hx), WdL.ext s0 he⟩)
            have HU := Lib.hid (show (upd V 19 (undef)) 14 = .bool false ∧ (upd V 19 (undef)) 18 = undef from ⟨e14, e18⟩)
            clear hK hC hW hL HV s0
            rw [HFR.out]
            rw [e14, e18]
            clear e14 e18
            go_wp2_with fail
            show K _ _
            have := H.out _ (Ext.refl _)
            rw [HFR.out] at this
            obtain ⟨u14, u18⟩ := HU.out
            rw [u14, u18] at this
            exact this
          · rintro L A W K hL hC hW ⟨V, rfl, HV, s0⟩ hK
            have e14 : V 14 = .bool false := HV 14 _ rfl (hW 14 rfl)
            have H := Lib.hid (show ∀ W', Ext W W' → K (fr (upd V 20 (undef))) W' from fun W' he => hK _ _ ⟨upd V 20 (undef), rfl, HV.up 20 _ (fun x hx => Option.some.inj hx), WdL.ext s0 he⟩)
            have HU := Lib.hid (show (upd V 20 (undef)) 14 = .bool false from e14)
            clear hK hC hW hL HV s0
            rw [HFR.out]
            rw [e14]
            clear e14
            go_wp2_with fail
            show K _ _
            have := H.out _ (Ext.refl _)
            rw [HFR.out] at this
            obtain u14 := HU.out
            rw [u14] at this
            exact this
          · rintro L A W K hL hC hW ⟨V, rfl, HV, s0⟩ hK
            have e14 : V 14 = .bool false := HV 14 _ rfl (hW 14 rfl)
            have e19 : V 19 = undef := HV 19 _ rfl (hW 19 rfl)
            have e20 : V 20 = undef := HV 20 _ rfl (hW 20 rfl)
            have H := Lib.hid (show ∀ W', Ext W W' → K (fr (upd V 21 (undef))) W' from fun W' he => hK _ _ ⟨upd V 21 (undef), rfl, HV.up 21 _ (fun x hx => Option.some.inj hx), WdL.ext s0 he⟩)
            have HU := Lib.hid (show (upd V 21 (undef)) 14 = .bool false ∧ (upd V 21 (undef)) 19 = undef ∧ (upd V 21 (undef)) 20 = undef from ⟨e14, e19, e20⟩)
            clear hK hC hW hL HV s0
            rw [HFR.out]
            rw [e14, e19, e20]
            clear e14 e19 e20
            go_wp2_with fail
            show K _ _
            have := H.out _ (Ext.refl _)
            rw [HFR.out] at this
            obtain ⟨u14, u19, u20⟩ := HU.out
            rw [u14, u19, u20] at this
            exact this
          · rintro L A W K hL hC hW ⟨V, rfl, HV, s0⟩ hK
            have e14 : V 14 = .bool false := HV 14 _ rfl (hW 14 rfl)
            have e21 : V 21 = undef := HV 21 _ rfl (hW 21 rfl)
            have H := Lib.hid (show ∀ W', Ext W W' → K (fr (upd V 22 (undef))) W' from fun W' he => hK _ _ ⟨upd V 22 (undef), rfl, HV.up 22 _ (fun x hx => Option.some.inj hx), WdL.ext s0 he⟩)
            have HU := Lib.hid (show (upd V 22 (undef)) 14 = .bool false ∧ (upd V 22 (undef)) 21 = undef from ⟨e14, e21⟩)
            clear hK hC hW hL HV s0
            rw [HFR.out]
            rw [e14, e21]
            clear e14 e21
            go_wp2_with fail
            show K _ _
            have := H.out _ (Ext.refl _)
            rw [HFR.out] at this
            obtain ⟨u14, u21⟩ := HU.out
            rw [u14, u21] at this
            exact this
          · rintro L A W K hL hC hW ⟨V, rfl, HV, s0⟩ hK
            have e11 : V 11 = .bool false := HV 11 _ rfl (hW 11 rfl)
            have e14 : V 14 = .bool false := HV 14 _ rfl (hW 14 rfl)
            have e22 : V 22 = undef := HV 22 _ rfl (hW 22 rfl)
            have H := Lib.hid (show ∀ W', Ext W W' → K (fr (upd V 23 (.bool false))) W' from fun W' he => hK _ _ ⟨upd V 23 (.bool false), rfl, HV.up 23 _ (fun x hx => Option.some.inj hx), WdL.ext s0 he⟩)
            have HU := Lib.hid (show (upd V 23 (.bool false)) 11 = .bool false ∧ (upd V 23 (.bool false)) 14 = .bool false ∧ (upd V 23 (.bool false)) 22 = undef from ⟨e11, e14, e22⟩)
            clear hK hC hW hL HV s0
            rw [HFR.out]
            rw [e11, e14, e22]
            clear e11 e14 e22
            go_wp2_with fail
            show K _ _
            have := H.out _ (Ext.refl _)
            rw [HFR.out] at this
            obtain ⟨u11, u14, u22⟩ := HU.out
            rw [u11, u14, u22] at this
            exact this
          · rintro L A W K hL hC hW ⟨V, rfl, HV, s0⟩ hK
            have e11 : V 11 = .bool false := HV 11 _ rfl (hW 11 rfl)
            have e23 : V 23 = .bool false := HV 23 _ rfl (hW 23 rfl)
            have H := Lib.hid (show ∀ W', Ext W W' → K (fr (upd V 24 (.bool false))) W' from fun W' he => hK _ _ ⟨upd V 24 (.bool false), rfl, HV.up 24 _ (fun x hx => Option.some.inj hx), WdL.ext s0 he⟩)
            have HU := Lib.hid (show (upd V 24 (.bool false)) 11 = .bool false ∧ (upd V 24 (.bool false)) 23 = .bool false from ⟨e11, e23⟩)
            clear hK hC hW hL HV s0
            rw [HFR.out]
            rw [e11, e23]
            clear e11 e23
            go_wp2_with fail
            show K _ _
            have := H.out _ (Ext.refl _)
            rw [HFR.out] at this
            obtain ⟨u11, u23⟩ := HU.out
            rw [u11, u23] at this
            exact this
          · rintro L A W hL ⟨V, rfl, HV, s0⟩
            have e0 : V 0 = .int .i64 0 := HV 0 _ rfl (hL 0 (by simp))
            have e1 : V 1 = .bool false := HV 1 _ rfl (hL 1 (by simp))
            have e2 : V 2 = .bool false := HV 2 _ rfl (hL 2 (by simp))
            have e3 : V 3 = wv x := HV 3 _ rfl (hL 3 (by simp))
            have e4 : V 4 = wv x := HV 4 _ rfl (hL 4 (by simp))
            have e5 : V 5 = .bool false := HV 5 _ rfl (hL 5 (by simp))
            have e6 : V 6 = .bool false := HV 6 _ rfl (hL 6 (by simp))
            have e7 : V 7 = .bool false := HV 7 _ rfl (hL 7 (by simp))
            have e8 : V 8 = .int .u64 (q : Nat) := HV 8 _ rfl (hL 8 (by simp))
            have e9 : V 9 = .bool false := HV 9 _ rfl (hL 9 (by simp))
            have e10 : V 10 = .bool false := HV 10 _ rfl (hL 10 (by simp))
            have e11 : V 11 = .bool false := HV 11 _ rfl (hL 11 (by simp))
            have e12 : V 12 = .int .i64 (0 : Nat) := HV 12 _ rfl (hL 12 (by simp))
            have e13 : V 13 = .bool false := HV 13 _ rfl (hL 13 (by simp))
            have e14 : V 14 = .bool false := HV 14 _ rfl (hL 14 (by simp))
            have e15 : V 15 = undef := HV 15 _ rfl (hL 15 (by simp))
            have e16 : V 16 = undef := HV 16 _ rfl (hL 16 (by simp))
            have e17 : V 17 = undef := HV 17 _ rfl (hL 17 (by simp))
            have e18 : V 18 = undef := HV 18 _ rfl (hL 18 (by simp))
            have e19 : V 19 = undef := HV 19 _ rfl (hL 19 (by simp))
            have e20 : V 20 = undef := HV 20 _ rfl (hL 20 (by simp))
            have e21 : V 21 = undef := HV 21 _ rfl (hL 21 (by simp))
            have e22 : V 22 = undef := HV 22 _ rfl (hL 22 (by simp))
            have e23 : V 23 = .bool false := HV 23 _ rfl (hL 23 (by simp))
            have e24 : V 24 = .bool false := HV 24 _ rfl (hL 24 (by simp))
            have hA := s0
            rw [HFR.out]
            rw [e0, e1, e2, e3, e4, e5, e6, e7, e8, e9, e10, e11, e12, e13, e14, e15, e16, e17, e18, e19, e20, e21, e22, e23, e24]
            clear hL HV HFR e0 e1 e2 e3 e4 e5 e6 e7 e8 e9 e10 e11 e12 e13 e14 e15 e16 e17 e18 e19 e20 e21 e22 e23 e24 s0
            have HAA := Lib.hid hA.2.2
            clear hA hq0
            go_wp2_with fail
            exact ⟨⟨0 + 1, by omega, by go_num, HAA⟩, by simp [intOf]; omega⟩
        · obtain ⟨k, rfl⟩ : ∃ j, k = j + 1 := ⟨k - 1, by omega⟩
          have hqq := HQQ.out k rfl
          obtain ⟨y, hy⟩ : ∃ y, jnP ((faN l a).getD k nz0) = y := ⟨_, rfl⟩
          rw [hy] at hqq
          have HRY : Hid (wb.rangeAt bb (oo + k * 4) (wc y).toList) := Lib.hid (by
            obtain ⟨b', o', e, hr', _⟩ := HWS.out.atN k (by rw [HLM.out, HNN.out]; omega)
            rw [owN_get (by rw [HNN.out]; omega), hy] at hr'
            cases e
            exact hr')
          have HYM := Lib.hid hqq.2.1
          have HCM : Hid (decide (0 ≤ cmpN y x) = false) := Lib.hid (by
            unfold cmpN
            rw [if_pos hqq.2.2]
            rfl)
          clear hqq hy HQQ
          have hd3 : decide (0 < k + 1) = true := decide_eq_true (by omega)
          have hd4 : decide ((0 : Int) < ((k + 1 : Nat) : Int)) = true := decide_eq_true (by omega)
          have hd5 : decide (k < n) = true := decide_eq_true (by omega)
          have hd6 : decide ((k : Int) < (n : Int)) = true := decide_eq_true (by omega)
          have hkn : k < n := by omega
          refine wp_named fun a0 ha0 => ?_
          obtain ⟨fr, hfr⟩ : ∃ fr : (Nat → Value) → Act, ∀ V, fr V = (((((((((((((((((((((((((a0.put (some 45) (V 0)).put (some 46) (V 1)).put (some 47) (V 2)).put (some 48) (V 3)).put (some 49) (V 4)).put (some 50) (V 5)).put (some 51) (V 6)).put (some 52) (V 7)).put (some 53) (V 8)).put (some 54) (V 9)).put (some 55) (V 10)).put (some 56) (V 11)).put (some 57) (V 12)).put (some 58) (V 13)).put (some 59) (V 14)).put (some 60) (V 15)).put (some 61) (V 16)).put (some 62) (V 17)).put (some 63) (V 18)).put (some 64) (V 19)).put (some 65) (V 20)).put (some 66) (V 21)).put (some 67) (V 22)).put (some 68) (V 23)).put (some 69) (V 24)) := ⟨fun V => (((((((((((((((((((((((((a0.put (some 45) (V 0)).put (some 46) (V 1)).put (some 47) (V 2)).put (some 48) (V 3)).put (some 49) (V 4)).put (some 50) (V 5)).put (some 51) (V 6)).put (some 52) (V 7)).put (some 53) (V 8)).put (some 54) (V 9)).put (some 55) (V 10)).put (some 56) (V 11)).put (some 57) (V 12)).put (some 58) (V 13)).put (some 59) (V 14)).put (some 60) (V 15)).put (some 61) (V 16)).put (some 62) (V 17)).put (some 63) (V 18)).put (some 64) (V 19)).put (some 65) (V 20)).put (some 66) (V 21)).put (some 67) (V 22)).put (some 68) (V 23)).put (some 69) (V 24)), fun _ => rfl⟩
          rw [ha0] at hfr
          simp only [Act.put, List.setIfInBounds_toArray, List.set_cons_zero, List.set_cons_succ] at hfr
          have HFR := Lib.hid hfr
          clear hfr
          refine wp_region_inv (by kernel_rfl) (by kernel_rfl) (fun L A W => ∃ V : Nat → Value, A = fr V ∧ Vals (fun j => ([some (.int .i64 0), some (.bool false), some (.bool false), some (wv x), some (wv x), some (.bool false), some (.bool false), some (.bool false), some (.int .u64 (q : Nat)), some (.bool false), some (.bool false), some (.bool false), some (.int .i64 ((k + 1 : Nat) : Int)), some (.bool true), some (.bool true), some (.slice (some ⟨bb, oo, none⟩) n c2), some (.int .i64 ((k + 1 : Nat) : Int)), some (.int .i64 (k : Nat)), some (.pointer (some ⟨bb, oo + k * 4, none⟩)), some (wv y), some (wv x), some (.int .i64 (cmpN y x)), some (.bool false), some (.bool false), some (.bool false)] : List (Option Value)).getD j none) L V ∧ (WdL wb g8 g11 x W)) ?_ ⟨?_, ?_, ?_, ?_, ?_, ?_, ?_, ?_, ?_, ?_, ?_, ?_, ?_, ?_, ?_, ?_, ?_, ?_, ?_, ?_, ?_, ?_, ?_, ?_, ?_, trivial⟩ ?_
          · refine ⟨fun j => a0.tmps.getD (([45, 46, 47, 48, 49, 50, 51, 52, 53, 54, 55, 56, 57, 58, 59, 60, 61, 62, 63, 64, 65, 66, 67, 68, 69] : List Nat).getD j 0) undef, ?_, Vals.no _ _ _ (far_none _ _ rfl), HJ12.out.ext ((Ext.refl _).drew)⟩
            rw [HFR.out, ha0]
            rfl
          all_goals clear ha0
          · rintro L A W K hL hC hW ⟨V, rfl, HV, s0⟩ hK
            have H := Lib.hid (show ∀ W', Ext W W' → K (fr (upd V 0 (.int .i64 0))) W' from fun W' he => hK _ _ ⟨upd V 0 (.int .i64 0), rfl, HV.up 0 _ (fun x hx => Option.some.inj hx), WdL.ext s0 he⟩)
            clear hK hC hW hL HV s0
            rw [HFR.out]
            go_wp2_with fail
            show K _ _
            have := H.out _ (Ext.refl _)
            rw [HFR.out] at this
            exact this
          · rintro L A W K hL hC hW ⟨V, rfl, HV, s0⟩ hK
            have e0 : V 0 = .int .i64 0 := HV 0 _ rfl (hW 0 rfl)
            have H := Lib.hid (show ∀ W', Ext W W' → K (fr (upd V 1 (.bool false))) W' from fun W' he => hK _ _ ⟨upd V 1 (.bool false), rfl, HV.up 1 _ (fun x hx => Option.some.inj hx), WdL.ext s0 he⟩)
            have HU := Lib.hid (show (upd V 1 (.bool false)) 0 = .int .i64 0 from e0)
            clear hK hC hW hL HV s0
            rw [HFR.out]
            rw [e0]
            clear e0
            go_wp2_with fail
            show K _ _
            have := H.out _ (Ext.refl _)
            rw [HFR.out] at this
            obtain u0 := HU.out
            rw [u0] at this
            exact this
          · rintro L A W K hL hC hW ⟨V, rfl, HV, s0⟩ hK
            have e1 : V 1 = .bool false := HV 1 _ rfl (hW 1 rfl)
            have H := Lib.hid (show ∀ W', Ext W W' → K (fr (upd V 2 (.bool false))) W' from fun W' he => hK _ _ ⟨upd V 2 (.bool false), rfl, HV.up 2 _ (fun x hx => Option.some.inj hx), WdL.ext s0 he⟩)
            have HU := Lib.hid (show (upd V 2 (.bool false)) 1 = .bool false from e1)
            clear hK hC hW hL HV s0
            rw [HFR.out]
            rw [e1]
            clear e1
            go_wp2_with fail
            show K _ _
            have := H.out _ (Ext.refl _)
            rw [HFR.out] at this
            obtain u1 := HU.out
            rw [u1] at this
            exact this
          · rintro L A W K hL hC hW ⟨V, rfl, HV, s0⟩ hK
            have e2 : V 2 = .bool false := HV 2 _ rfl (hW 2 rfl)
            have hB := s0
            have H := Lib.hid (show ∀ W', Ext W W' → K (fr (upd V 3 (wv x))) W' from fun W' he => hK _ _ ⟨upd V 3 (wv x), rfl, HV.up 3 _ (fun x hx => Option.some.inj hx), WdL.ext s0 he⟩)
            have HU := Lib.hid (show (upd V 3 (wv x)) 2 = .bool false from e2)
            clear hK hC hW hL HV s0
            rw [HFR.out]
            rw [e2]
            clear e2
            have HWW := Lib.hid (Cs.rg hB.2.1)
            clear hB
            refine wpList_load_wordIn rfl (.tmp 11) rfl g11 0 x rfl HWW.out ?_
            show K _ _
            have := H.out _ (Ext.refl _)
            rw [HFR.out] at this
            obtain u2 := HU.out
            rw [u2] at this
            exact this
          · rintro L A W K hL hC hW ⟨V, rfl, HV, s0⟩ hK
            have e2 : V 2 = .bool false := HV 2 _ rfl (hW 2 rfl)
            have hB := s0
            have H := Lib.hid (show ∀ W', Ext W W' → K (fr (upd V 4 (wv x))) W' from fun W' he => hK _ _ ⟨upd V 4 (wv x), rfl, HV.up 4 _ (fun x hx => Option.some.inj hx), WdL.ext s0 he⟩)
            have HU := Lib.hid (show (upd V 4 (wv x)) 2 = .bool false from e2)
            clear hK hC hW hL HV s0
            rw [HFR.out]
            rw [e2]
            clear e2
            have HWW := Lib.hid (Cs.rg hB.1)
            clear hB
            refine wpList_load_wordIn rfl (.tmp 8) rfl g8 0 x rfl HWW.out ?_
            show K _ _
            have := H.out _ (Ext.refl _)
            rw [HFR.out] at this
            obtain u2 := HU.out
            rw [u2] at this
            exact this
          · rintro L A W K hL hC hW ⟨V, rfl, HV, s0⟩ hK
            have e2 : V 2 = .bool false := HV 2 _ rfl (hW 2 rfl)
            have e3 : V 3 = wv x := HV 3 _ rfl (hW 3 rfl)
            have e4 : V 4 = wv x := HV 4 _ rfl (hW 4 rfl)
            have hB := s0
            have H := Lib.hid (show ∀ W', Ext W W' → K (fr (upd V 5 (.bool false))) W' from fun W' he => hK _ _ ⟨upd V 5 (.bool false), rfl, HV.up 5 _ (fun x hx => Option.some.inj hx), WdL.ext s0 he⟩)
            have HU := Lib.hid (show (upd V 5 (.bool false)) 2 = .bool false ∧ (upd V 5 (.bool false)) 3 = wv x ∧ (upd V 5 (.bool false)) 4 = wv x from ⟨e2, e3, e4⟩)
            clear hK hC hW hL HV s0
            rw [HFR.out]
            rw [e2, e3, e4]
            clear e2 e3 e4
            clear hB
            refine wpList_neq_word rfl (.tmp 48) (.tmp 49) rfl x x HXM.out HXM.out rfl rfl ?_
            rw [bne_self_eq_false]
            show K _ _
            have := H.out _ (Ext.refl _)
            rw [HFR.out] at this
            obtain ⟨u2, u3, u4⟩ := HU.out
            rw [u2, u3, u4] at this
            exact this
          · rintro L A W K hL hC hW ⟨V, rfl, HV, s0⟩ hK
            have e2 : V 2 = .bool false := HV 2 _ rfl (hW 2 rfl)
            have e5 : V 5 = .bool false := HV 5 _ rfl (hW 5 rfl)
            have H := Lib.hid (show ∀ W', Ext W W' → K (fr (upd V 6 (.bool false))) W' from fun W' he => hK _ _ ⟨upd V 6 (.bool false), rfl, HV.up 6 _ (fun x hx => Option.some.inj hx), WdL.ext s0 he⟩)
            have HU := Lib.hid (show (upd V 6 (.bool false)) 2 = .bool false ∧ (upd V 6 (.bool false)) 5 = .bool false from ⟨e2, e5⟩)
            clear hK hC hW hL HV s0
            rw [HFR.out]
            rw [e2, e5]
            clear e2 e5
            go_wp2_with fail
            show K _ _
            have := H.out _ (Ext.refl _)
            rw [HFR.out] at this
            obtain ⟨u2, u5⟩ := HU.out
            rw [u2, u5] at this
            exact this
          · rintro L A W K hL hC hW ⟨V, rfl, HV, s0⟩ hK
            have e6 : V 6 = .bool false := HV 6 _ rfl (hW 6 rfl)
            have H := Lib.hid (show ∀ W', Ext W W' → K (fr (upd V 7 (.bool false))) W' from fun W' he => hK _ _ ⟨upd V 7 (.bool false), rfl, HV.up 7 _ (fun x hx => Option.some.inj hx), WdL.ext s0 he⟩)
            have HU := Lib.hid (show (upd V 7 (.bool false)) 6 = .bool false from e6)
            clear hK hC hW hL HV s0
            rw [HFR.out]
            rw [e6]
            clear e6
            go_wp2_with fail
            show K _ _
            have := H.out _ (Ext.refl _)
            rw [HFR.out] at this
            obtain u6 := HU.out
            rw [u6] at this
            exact this
          · rintro L A W K hL hC hW ⟨V, rfl, HV, s0⟩ hK
            have e7 : V 7 = .bool false := HV 7 _ rfl (hW 7 rfl)
            have H := Lib.hid (show ∀ W', Ext W W' → K (fr (upd V 8 (.int .u64 (q : Nat)))) W' from fun W' he => hK _ _ ⟨upd V 8 (.int .u64 (q : Nat)), rfl, HV.up 8 _ (fun x hx => Option.some.inj hx), WdL.ext s0 he⟩)
            have HU := Lib.hid (show (upd V 8 (.int .u64 (q : Nat))) 7 = .bool false from e7)
            clear hK hC hW hL HV s0
            rw [HFR.out]
            rw [e7]
            clear e7
            go_wp2_with fail
            show K _ _
            have := H.out _ (Ext.refl _)
            rw [HFR.out] at this
            obtain u7 := HU.out
            rw [u7] at this
            exact this
          · rintro L A W K hL hC hW ⟨V, rfl, HV, s0⟩ hK
            have e7 : V 7 = .bool false := HV 7 _ rfl (hW 7 rfl)
            have e8 : V 8 = .int .u64 (q : Nat) := HV 8 _ rfl (hW 8 rfl)
            have H := Lib.hid (show ∀ W', Ext W W' → K (fr (upd V 9 (.bool false))) W' from fun W' he => hK _ _ ⟨upd V 9 (.bool false), rfl, HV.up 9 _ (fun x hx => Option.some.inj hx), WdL.ext s0 he⟩)
            have HU := Lib.hid (show (upd V 9 (.bool false)) 7 = .bool false ∧ (upd V 9 (.bool false)) 8 = .int .u64 (q : Nat) from ⟨e7, e8⟩)
            clear hK hC hW hL HV s0
            rw [HFR.out]
            rw [e7, e8]
            clear e7 e8
            go_wp2_with fail
            show K _ _
            have := H.out _ (Ext.refl _)
            rw [HFR.out] at this
            obtain ⟨u7, u8⟩ := HU.out
            rw [u7, u8] at this
            exact this
          · rintro L A W K hL hC hW ⟨V, rfl, HV, s0⟩ hK
            have e7 : V 7 = .bool false := HV 7 _ rfl (hW 7 rfl)
            have e9 : V 9 = .bool false := HV 9 _ rfl (hW 9 rfl)
            have H := Lib.hid (show ∀ W', Ext W W' → K (fr (upd V 10 (.bool false))) W' from fun W' he => hK _ _ ⟨upd V 10 (.bool false), rfl, HV.up 10 _ (fun x hx => Option.some.inj hx), WdL.ext s0 he⟩)
            have HU := Lib.hid (show (upd V 10 (.bool false)) 7 = .bool false ∧ (upd V 10 (.bool false)) 9 = .bool false from ⟨e7, e9⟩)
            clear hK hC hW hL HV s0
            rw [HFR.out]
            rw [e7, e9]
            clear e7 e9
            go_wp2_with fail
            show K _ _
            have := H.out _ (Ext.refl _)
            rw [HFR.out] at this
            obtain ⟨u7, u9⟩ := HU.out
            rw [u7, u9] at this
            exact this
          · rintro L A W K hL hC hW ⟨V, rfl, HV, s0⟩ hK
            have e10 : V 10 = .bool false := HV 10 _ rfl (hW 10 rfl)
            have H := Lib.hid (show ∀ W', Ext W W' → K (fr (upd V 11 (.bool false))) W' from fun W' he => hK _ _ ⟨upd V 11 (.bool false), rfl, HV.up 11 _ (fun x hx => Option.some.inj hx), WdL.ext s0 he⟩)
            have HU := Lib.hid (show (upd V 11 (.bool false)) 10 = .bool false from e10)
            clear hK hC hW hL HV s0
            rw [HFR.out]
            rw [e10]
            clear e10
            go_wp2_with fail
            show K _ _
            have := H.out _ (Ext.refl _)
            rw [HFR.out] at this
            obtain u10 := HU.out
            rw [u10] at this
            exact this
          · rintro L A W K hL hC hW ⟨V, rfl, HV, s0⟩ hK
            have e11 : V 11 = .bool false := HV 11 _ rfl (hW 11 rfl)
            have H := Lib.hid (show ∀ W', Ext W W' → K (fr (upd V 12 (.int .i64 ((k + 1 : Nat) : Int)))) W' from fun W' he => hK _ _ ⟨upd V 12 (.int .i64 ((k + 1 : Nat) : Int)), rfl, HV.up 12 _ (fun x hx => Option.some.inj hx), WdL.ext s0 he⟩)
            have HU := Lib.hid (show (upd V 12 (.int .i64 ((k + 1 : Nat) : Int))) 11 = .bool false from e11)
            clear hK hC hW hL HV s0
            rw [HFR.out]
            rw [e11]
            clear e11
            go_wp2_with fail
            show K _ _
            have := H.out _ (Ext.refl _)
            rw [HFR.out] at this
            obtain u11 := HU.out
            rw [u11] at this
            exact this
          · rintro L A W K hL hC hW ⟨V, rfl, HV, s0⟩ hK
            have e11 : V 11 = .bool false := HV 11 _ rfl (hW 11 rfl)
            have e12 : V 12 = .int .i64 ((k + 1 : Nat) : Int) := HV 12 _ rfl (hW 12 rfl)
            have H := Lib.hid (show ∀ W', Ext W W' → K (fr (upd V 13 (.bool true))) W' from fun W' he => hK _ _ ⟨upd V 13 (.bool true), rfl, HV.up 13 _ (fun x hx => Option.some.inj hx), WdL.ext s0 he⟩)
            have HU := Lib.hid (show (upd V 13 (.bool true)) 11 = .bool false ∧ (upd V 13 (.bool true)) 12 = .int .i64 ((k + 1 : Nat) : Int) from ⟨e11, e12⟩)
            clear hK hC hW hL HV s0
            rw [HFR.out]
            rw [e11, e12]
            clear e11 e12
            go_wp2_with fail
            show K _ _
            have := H.out _ (Ext.refl _)
            rw [HFR.out] at this
            obtain ⟨u11, u12⟩ := HU.out
            rw [u11, u12] at this
            exact this
          · rintro L A W K hL hC hW ⟨V, rfl, HV, s0⟩ hK
            have e11 : V 11 = .bool false := HV 11 _ rfl (hW 11 rfl)
            have e13 : V 13 = .bool true := HV 13 _ rfl (hW 13 rfl)
            have H := Lib.hid (show ∀ W', Ext W W' → K (fr (upd V 14 (.bool true))) W' from fun W' he => hK _ _ ⟨upd V 14 (.bool true), rfl, HV.up 14 _ (fun x hx => Option.some.inj hx), WdL.ext s0 he⟩)
            have HU := Lib.hid (show (upd V 14 (.bool true)) 11 = .bool false ∧ (upd V 14 (.bool true)) 13 = .bool true from ⟨e11, e13⟩)
            clear hK hC hW hL HV s0
            rw [HFR.out]
            rw [e11, e13]
            clear e11 e13
            go_wp2_with fail
            show K _ _
            have := H.out _ (Ext.refl _)
            rw [HFR.out] at this
            obtain ⟨u11, u13⟩ := HU.out
            rw [u11, u13] at this
            exact this
          · rintro L A W K hL hC hW ⟨V, rfl, HV, s0⟩ hK
            have e14 : V 14 = .bool true := HV 14 _ rfl (hW 14 rfl)
            have H := Lib.hid (show ∀ W', Ext W W' → K (fr (upd V 15 (.slice (some ⟨bb, oo, none⟩) n c2))) W' from fun W' he => hK _ _ ⟨upd V 15 (.slice (some ⟨bb, oo, none⟩) n c2), rfl, HV.up 15 _ (fun x hx => Option.some.inj hx), WdL.ext s0 he⟩)
            have HU := Lib.hid (show (upd V 15 (.slice (some ⟨bb, oo, none⟩) n c2)) 14 = .bool true from e14)
            clear hK hC hW hL HV s0
            rw [HFR.out]
            rw [e14]
            clear e14
            go_wp2_with fail
            show K _ _
            have := H.out _ (Ext.refl _)
            rw [HFR.out] at this
            obtain u14 := HU.out
            rw [u14] at this
            exact this
          · rintro L A W K hL hC hW ⟨V, rfl, HV, s0⟩ hK
            have e14 : V 14 = .bool true := HV 14 _ rfl (hW 14 rfl)
            have H := Lib.hid (show ∀ W', Ext W W' → K (fr (upd V 16 (.int .i64 ((k + 1 : Nat) : Int)))) W' from fun W' he => hK _ _ ⟨upd V 16 (.int .i64 ((k + 1 : Nat) : Int)), rfl, HV.up 16 _ (fun x hx => Option.some.inj hx), WdL.ext s0 he⟩)
            have HU := Lib.hid (show (upd V 16 (.int .i64 ((k + 1 : Nat) : Int))) 14 = .bool true from e14)
            clear hK hC hW hL HV s0
            rw [HFR.out]
            rw [e14]
            clear e14
            go_wp2_with fail
            show K _ _
            have := H.out _ (Ext.refl _)
            rw [HFR.out] at this
            obtain u14 := HU.out
            rw [u14] at this
            exact this
          · rintro L A W K hL hC hW ⟨V, rfl, HV, s0⟩ hK
            have e14 : V 14 = .bool true := HV 14 _ rfl (hW 14 rfl)
            have e16 : V 16 = .int .i64 ((k + 1 : Nat) : Int) := HV 16 _ rfl (hW 16 rfl)
            have H := Lib.hid (show ∀ W', Ext W W' → K (fr (upd V 17 (.int .i64 (k : Nat)))) W' from fun W' he => hK _ _ ⟨upd V 17 (.int .i64 (k : Nat)), rfl, HV.up 17 _ (fun x hx => Option.some.inj hx), WdL.ext s0 he⟩)
            have HU := Lib.hid (show (upd V 17 (.int .i64 (k : Nat))) 14 = .bool true ∧ (upd V 17 (.int .i64 (k : Nat))) 16 = .int .i64 ((k + 1 : Nat) : Int) from ⟨e14, e16⟩)
            clear hK hC hW hL HV s0
            rw [HFR.out]
            rw [e14, e16]
            clear e14 e16
            go_wp2_with fail
            show K _ _
            have := H.out _ (Ext.refl _)
            rw [HFR.out] at this
            obtain ⟨u14, u16⟩ := HU.out
            rw [u14, u16] at this
            exact this
          · rintro L A W K hL hC hW ⟨V, rfl, HV, s0⟩ hK
            have e14 : V 14 = .bool true := HV 14 _ rfl (hW 14 rfl)
            have e15 : V 15 = .slice (some ⟨bb, oo, none⟩) n c2 := HV 15 _ rfl (hW 15 rfl)
            have e17 : V 17 = .int .i64 (k : Nat) := HV 17 _ rfl (hW 17 rfl)
            have H := Lib.hid (show ∀ W', Ext W W' → K (fr (upd V 18 (.pointer (some ⟨bb, oo + k * 4, none⟩)))) W' from fun W' he => hK _ _ ⟨upd V 18 (.pointer (some ⟨bb, oo + k * 4, none⟩)), rfl, HV.up 18 _ (fun x hx => Option.some.inj hx), WdL.ext s0 he⟩)
            have HU := Lib.hid (show (upd V 18 (.pointer (some ⟨bb, oo + k * 4, none⟩))) 14 = .bool true ∧ (upd V 18 (.pointer (some ⟨bb, oo + k * 4, none⟩))) 15 = .slice (some ⟨bb, oo, none⟩) n c2 ∧ (upd V 18 (.pointer (some ⟨bb, oo + k * 4, none⟩))) 17 = .int .i64 (k : Nat) from ⟨e14, e15, e17⟩)
            clear hK hC hW hL HV s0
            rw [HFR.out]
            rw [e14, e15, e17]
            clear e14 e15 e17
            go_wp2_with fail
            show K _ _
            have := H.out _ (Ext.refl _)
            rw [HFR.out] at this
            obtain ⟨u14, u15, u17⟩ := HU.out
            rw [u14, u15, u17] at this
            exact this
          · rintro L A W K hL hC hW ⟨V, rfl, HV, s0⟩ hK
            have e14 : V 14 = .bool true := HV 14 _ rfl (hW 14 rfl)
            have e18 : V 18 = .pointer (some ⟨bb, oo + k * 4, none⟩) := HV 18 _ rfl (hW 18 rfl)
            have hB := s0
            have H := Lib.hid (show ∀ W', Ext W W' → K (fr (upd V 19 (wv y))) W' from fun W' he => hK _ _ ⟨upd V 19 (wv y), rfl, HV.up 19 _ (fun x hx => Option.some.inj hx), WdL.ext s0 he⟩)
            have HU := Lib.hid (show (upd V 19 (wv y)) 14 = .bool true ∧ (upd V 19 (wv y)) 18 = .pointer (some ⟨bb, oo + k * 4, none⟩) from ⟨e14, e18⟩)
            clear hK hC hW hL HV s0
            rw [HFR.out]
            rw [e14, e18]
            clear e14 e18
            have HWW := Lib.hid (fun (z : Nat) (u : Value) (hz : (wc y).toList[z]? = some u) => hB.2.2.cell (HRY.out z u hz))
            clear hB
            refine wpList_load_wordIn rfl (.tmp 63) rfl bb (oo + k * 4) y rfl HWW.out ?_
            show K _ _
            have := H.out _ (Ext.refl _)
            rw [HFR.out] at this
            obtain ⟨u14, u18⟩ := HU.out
            rw [u14, u18] at this
            exact this
          · rintro L A W K hL hC hW ⟨V, rfl, HV, s0⟩ hK
            have e14 : V 14 = .bool true := HV 14 _ rfl (hW 14 rfl)
            have hB := s0
            have H := Lib.hid (show ∀ W', Ext W W' → K (fr (upd V 20 (wv x))) W' from fun W' he => hK _ _ ⟨upd V 20 (wv x), rfl, HV.up 20 _ (fun x hx => Option.some.inj hx), WdL.ext s0 he⟩)
            have HU := Lib.hid (show (upd V 20 (wv x)) 14 = .bool true from e14)
            clear hK hC hW hL HV s0
            rw [HFR.out]
            rw [e14]
            clear e14
            have HWW := Lib.hid (Cs.rg hB.1)
            clear hB
            refine wpList_load_wordIn rfl (.tmp 8) rfl g8 0 x rfl HWW.out ?_
            show K _ _
            have := H.out _ (Ext.refl _)
            rw [HFR.out] at this
            obtain u14 := HU.out
            rw [u14] at this
            exact this
          · rintro L A W K hL hC hW ⟨V, rfl, HV, s0⟩ hK
            have e14 : V 14 = .bool true := HV 14 _ rfl (hW 14 rfl)
            have e19 : V 19 = wv y := HV 19 _ rfl (hW 19 rfl)
            have e20 : V 20 = wv x := HV 20 _ rfl (hW 20 rfl)
            have hB := s0
            have H := Lib.hid (show ∀ W', Ext W W' → K (fr (upd V 21 (.int .i64 (cmpN y x)))) W' from fun W' he => hK _ _ ⟨upd V 21 (.int .i64 (cmpN y x)), rfl, HV.up 21 _ (fun x hx => Option.some.inj hx), WdL.ext s0 he⟩)
            have HU := Lib.hid (show (upd V 21 (.int .i64 (cmpN y x))) 14 = .bool true ∧ (upd V 21 (.int .i64 (cmpN y x))) 19 = wv y ∧ (upd V 21 (.int .i64 (cmpN y x))) 20 = wv x from ⟨e14, e19, e20⟩)
            clear hK hC hW hL HV s0
            rw [HFR.out]
            rw [e14, e19, e20]
            clear e14 e19 e20
            clear hB
            go_wp2_with fail
            refine (cmp_any y x _ HYM.out HXM.out).mono ?_
            rintro e wx ⟨rfl, he⟩
            have := H.out _ he
            clear H
            go_wp2_with fail
            show K _ _
            rw [HFR.out] at this
            obtain ⟨u14, u19, u20⟩ := HU.out
            rw [u14, u19, u20] at this
            exact this
          · rintro L A W K hL hC hW ⟨V, rfl, HV, s0⟩ hK
            have e14 : V 14 = .bool true := HV 14 _ rfl (hW 14 rfl)
            have e21 : V 21 = .int .i64 (cmpN y x) := HV 21 _ rfl (hW 21 rfl)
            have H := Lib.hid (show ∀ W', Ext W W' → K (fr (upd V 22 (.bool false))) W' from fun W' he => hK _ _ ⟨upd V 22 (.bool false), rfl, HV.up 22 _ (fun x hx => Option.some.inj hx), WdL.ext s0 he⟩)
            have HU := Lib.hid (show (upd V 22 (.bool false)) 14 = .bool true ∧ (upd V 22 (.bool false)) 21 = .int .i64 (cmpN y x) from ⟨e14, e21⟩)
            clear hK hC hW hL HV s0
            rw [HFR.out]
            rw [e14, e21]
            clear e14 e21
            go_wp2_with fail
            rw [HCM.out]
            show K _ _
            have := H.out _ (Ext.refl _)
            rw [HFR.out] at this
            obtain ⟨u14, u21⟩ := HU.out
            rw [u14, u21] at this
            exact this
          · rintro L A W K hL hC hW ⟨V, rfl, HV, s0⟩ hK
            have e11 : V 11 = .bool false := HV 11 _ rfl (hW 11 rfl)
            have e14 : V 14 = .bool true := HV 14 _ rfl (hW 14 rfl)
            have e22 : V 22 = .bool false := HV 22 _ rfl (hW 22 rfl)
            have H := Lib.hid (show ∀ W', Ext W W' → K (fr (upd V 23 (.bool false))) W' from fun W' he => hK _ _ ⟨upd V 23 (.bool false), rfl, HV.up 23 _ (fun x hx => Option.some.inj hx), WdL.ext s0 he⟩)
            have HU := Lib.hid (show (upd V 23 (.bool false)) 11 = .bool false ∧ (upd V 23 (.bool false)) 14 = .bool true ∧ (upd V 23 (.bool false)) 22 = .bool false from ⟨e11, e14, e22⟩)
            clear hK hC hW hL HV s0
            rw [HFR.out]
            rw [e11, e14, e22]
            clear e11 e14 e22
            go_wp2_with fail
            show K _ _
            have := H.out _ (Ext.refl _)
            rw [HFR.out] at this
            obtain ⟨u11, u14, u22⟩ := HU.out
            rw [u11, u14, u22] at this
            exact this
          · rintro L A W K hL hC hW ⟨V, rfl, HV, s0⟩ hK
            have e11 : V 11 = .bool false := HV 11 _ rfl (hW 11 rfl)
            have e23 : V 23 = .bool false := HV 23 _ rfl (hW 23 rfl)
            have H := Lib.hid (show ∀ W', Ext W W' → K (fr (upd V 24 (.bool false))) W' from fun W' he => hK _ _ ⟨upd V 24 (.bool false), rfl, HV.up 24 _ (fun x hx => Option.some.inj hx), WdL.ext s0 he⟩)
            have HU := Lib.hid (show (upd V 24 (.bool false)) 11 = .bool false ∧ (upd V 24 (.bool false)) 23 = .bool false from ⟨e11, e23⟩)
            clear hK hC hW hL HV s0
            rw [HFR.out]
            rw [e11, e23]
            clear e11 e23
            go_wp2_with fail
            show K _ _
            have := H.out _ (Ext.refl _)
            rw [HFR.out] at this
            obtain ⟨u11, u23⟩ := HU.out
            rw [u11, u23] at this
            exact this
          · rintro L A W hL ⟨V, rfl, HV, s0⟩
            have e0 : V 0 = .int .i64 0 := HV 0 _ rfl (hL 0 (by simp))
            have e1 : V 1 = .bool false := HV 1 _ rfl (hL 1 (by simp))
            have e2 : V 2 = .bool false := HV 2 _ rfl (hL 2 (by simp))
            have e3 : V 3 = wv x := HV 3 _ rfl (hL 3 (by simp))
            have e4 : V 4 = wv x := HV 4 _ rfl (hL 4 (by simp))
            have e5 : V 5 = .bool false := HV 5 _ rfl (hL 5 (by simp))
            have e6 : V 6 = .bool false := HV 6 _ rfl (hL 6 (by simp))
            have e7 : V 7 = .bool false := HV 7 _ rfl (hL 7 (by simp))
            have e8 : V 8 = .int .u64 (q : Nat) := HV 8 _ rfl (hL 8 (by simp))
            have e9 : V 9 = .bool false := HV 9 _ rfl (hL 9 (by simp))
            have e10 : V 10 = .bool false := HV 10 _ rfl (hL 10 (by simp))
            have e11 : V 11 = .bool false := HV 11 _ rfl (hL 11 (by simp))
            have e12 : V 12 = .int .i64 ((k + 1 : Nat) : Int) := HV 12 _ rfl (hL 12 (by simp))
            have e13 : V 13 = .bool true := HV 13 _ rfl (hL 13 (by simp))
            have e14 : V 14 = .bool true := HV 14 _ rfl (hL 14 (by simp))
            have e15 : V 15 = .slice (some ⟨bb, oo, none⟩) n c2 := HV 15 _ rfl (hL 15 (by simp))
            have e16 : V 16 = .int .i64 ((k + 1 : Nat) : Int) := HV 16 _ rfl (hL 16 (by simp))
            have e17 : V 17 = .int .i64 (k : Nat) := HV 17 _ rfl (hL 17 (by simp))
            have e18 : V 18 = .pointer (some ⟨bb, oo + k * 4, none⟩) := HV 18 _ rfl (hL 18 (by simp))
            have e19 : V 19 = wv y := HV 19 _ rfl (hL 19 (by simp))
            have e20 : V 20 = wv x := HV 20 _ rfl (hL 20 (by simp))
            have e21 : V 21 = .int .i64 (cmpN y x) := HV 21 _ rfl (hL 21 (by simp))
            have e22 : V 22 = .bool false := HV 22 _ rfl (hL 22 (by simp))
            have e23 : V 23 = .bool false := HV 23 _ rfl (hL 23 (by simp))
            have e24 : V 24 = .bool false := HV 24 _ rfl (hL 24 (by simp))
            have hA := s0
            rw [HFR.out]
            rw [e0, e1, e2, e3, e4, e5, e6, e7, e8, e9, e10, e11, e12, e13, e14, e15, e16, e17, e18, e19, e20, e21, e22, e23, e24]
            clear hL HV HFR e0 e1 e2 e3 e4 e5 e6 e7 e8 e9 e10 e11 e12 e13 e14 e15 e16 e17 e18 e19 e20 e21 e22 e23 e24 s0
            have HAA := Lib.hid hA.2.2
            clear hA hq0 hd3 hd4
            go_wp2_with fail
            exact ⟨⟨k + 1 + 1, by omega, by go_num, HAA⟩, by simp [intOf]; omega⟩
      · obtain rfl : k = n := by omega
        have hd : decide (k < k) = false := decide_eq_false (by omega)
        have hd2 : decide ((k : Int) < (k : Int)) = false := decide_eq_false (by omega)
        go_wp2_with fail
        clear hd hd2
        go_loopw [73, 13] (fun iv nv ws => ∃ j : Nat, j ≤ l.length ∧ iv = .int .i64 j ∧ nv = .int .i64 (cnN l a j : Nat) ∧ Hid (Ext wb ws)) (fun iv _ _ => l.length - (intOf iv).toNat)
        case atStart => exact ⟨0, by omega, rfl, rfl, HX⟩
        case round =>
          clear HX
          obtain ⟨j, hj, rfl, rfl, HX⟩ := hrel
          by_cases hjl : j < l.length
          · have hd : decide (j < l.length) = true := decide_eq_true hjl
            have hd2 : decide ((j : Int) < (l.length : Int)) = true := decide_eq_true (by omega)
            obtain ⟨b2, o2, rfl, hrg, _⟩ := (HNLB.out.ext HX.out).at j hjl
            have HR := Lib.hid hrg
            have HYES := Lib.hid (fun h => (cnN_yes (l := l) (a := a) hjl h).1)
            have HNO := Lib.hid (fun h => cnN_no (l := l) (a := a) hjl h)
            have HCL := Lib.hid (show cnN l a j < 1000 by have := cnN_le l a j; have := List.length_filter_le (fun p : Nn => decide (p.addr = a)) l; have := right_len HRR.out; unfold faN at *; omega)
            have HWZ := Lib.hid HX.out.size
            clear hrg
            generalize l.getD j nz0 = p at *
            have ARM := HR.out
            by_cases hpa : p.addr = a
            · have hf : ((p.addr : Int) == (a : Int)) = true := by rw [beq_iff_eq]; omega
              have HC := Lib.hid (HYES.out hpa)
              have hcl : ((cnN l a j : Nat) : Int) < 1000 := by have := HCL.out; omega
              clear hpa HYES HNO ARM
              generalize cnN l a j = cj at *
              go_wp2_with (first
                | ((with_reducible refine wpList_load_nn ?_ (.tmp 75) ?_ b2 (o2 + j * 6) p ?_ ?_ ?_); (exact rfl); (exact rfl); (exact rfl); (exact HR.out))
                | ((with_reducible refine wpList_store_nn ?_ ?_ (.tmp 15) (.tmp 76) ?_ wr.heap.size nz0 p ?_ ?_ ?_ ?_); (exact rfl); (exact rfl); (exact rfl); (exact rfl); (exact rfl); (exact (Cs.new _ _ _ _ rfl)); intro w5 k5 g5; have c5 := Nb6.addr k5; have G5 := Lib.hid g5; clear k5 g5))
              exact ⟨⟨j + 1, by omega, by go_num, by rw [HC.out]; go_num, Lib.hid ((HX.out.alloc (.cells (nnc nz0) 38)).grown G5.out HWZ.out)⟩, by simp [intOf]; omega⟩
            · have hf : ((p.addr : Int) == (a : Int)) = false := by rw [beq_eq_false_iff_ne]; omega
              have HC := Lib.hid (HNO.out hpa)
              clear hpa HYES HNO ARM
              generalize cnN l a j = cj at *
              go_wp2_with (first
                | ((with_reducible refine wpList_load_nn ?_ (.tmp 75) ?_ b2 (o2 + j * 6) p ?_ ?_ ?_); (exact rfl); (exact rfl); (exact rfl); (exact HR.out))
                | ((with_reducible refine wpList_store_nn ?_ ?_ (.tmp 15) (.tmp 76) ?_ wr.heap.size nz0 p ?_ ?_ ?_ ?_); (exact rfl); (exact rfl); (exact rfl); (exact rfl); (exact rfl); (exact (Cs.new _ _ _ _ rfl)); intro w5 k5 g5; have c5 := Nb6.addr k5; have G5 := Lib.hid g5; clear k5 g5))
              exact ⟨⟨j + 1, by omega, by go_num, by rw [HC.out], Lib.hid ((HX.out.alloc (.cells (nnc nz0) 38)).grown G5.out HWZ.out)⟩, by simp [intOf]; omega⟩
          · obtain rfl : j = l.length := by omega
            have hd : decide (l.length < l.length) = false := decide_eq_false (by omega)
            have hd2 : decide ((l.length : Int) < (l.length : Int)) = false := decide_eq_false (by omega)
            have hcn : cnN l a l.length = k := by rw [cnN_all]; exact HNN.out
            rw [hcn]
            have hkk : ((k : Int) == (k : Int)) = true := beq_self_eq_true _
            clear hcn
            go_wp2_with fail
            go_ret
            exact ⟨rfl, HEB.out.trans HX.out⟩

set_option maxRecDepth 100000 in
theorem nonceListed_told (W : World) (args : Array Value) (h : Told Try.f9 W args) : Calls Try.prog 9 args W (RetT W) := by
  obtain ⟨H, enc, base, ds, p, hval, hA⟩ := h
  rw [Try.params9] at hA hval
  obtain ⟨v0, v1, d0, d1, p0, p1, rfl, rfl, rfl, h0, h1⟩ := trodAll_two hA
  obtain ⟨A, n, c, rfl⟩ := okWide_slice Try.underlying22 (hval 0 _ v0 rfl rfl)
  obtain ⟨l, hl⟩ := nns_came h0 rfl
  obtain ⟨s, rfl, hs⟩ := u64_came Try.underlying27 (hval 1 _ v1 rfl rfl) h1
  exact nonceListed_any _ l s W hl hs

set_option maxRecDepth 100000 in
theorem nonceListed_spec (H : Type) : ∀ ds : List (DataW H), ds.length = Try.f9.params.toList.length → Rows.nonceListedSpec.fn H ds = { results := [.lit (.bool true)], args := ds }
  | [_, _], _ => rfl
  | [], h | [_], h | _ :: _ :: _ :: _, h => by rw [Try.params9] at h; simp at h

set_option maxRecDepth 100000 in
theorem nonceListed_holds : Rows.NonceListedSaid :=
  OpenClaim.holds_of_wide 9 Try.f9 rfl rfl rfl rfl rfl rfl rfl ⟨rfl, rfl, rfl, rfl, rfl⟩ rfl rfl rfl rfl rfl (by kernel_rfl) Try.func9 (by kernel_rfl)
    (of_decide_eq_true (by kernel_rfl)) (by unfold Func.isWrapper; first | (rw [if_pos (by decide +kernel)]; kernel_rfl) | (rw [if_neg (by decide +kernel)]; exact ⟨rfl, rfl⟩))
    (fun os started H enc _ => law_lifted started (by kernel_rfl) Try.func9 rfl rfl (nonceListed_spec H) (of_decide_eq_true (by kernel_rfl))
      (ChangeSpec.witness6 (enc := enc) (C := Try.checked) false ⟨#[], #[.slice none 0 0, .int .u64 0], []⟩ 8 (by kernel_rfl) (by kernel_rfl) (by kernel_rfl) (by kernel_rfl)) nonceListed_told)
end Go.Proofs.Ytepggbhibpjkpaa
