/- The law NonceWords: nonce words, keys and sequences. -/
import Derived.Test.YtepggbhibpjkpaaNok
namespace Go.Proofs.Ytepggbhibpjkpaa
open Go.ChangeShapes Go.WideShapes Go.ChangeAt Go.RowKit Go.Shelf

def WdJ (w : World) (g6 g13 n m : Nat) (W : World) : Prop := Wd W g6 29 n ∧ Wd W g13 29 m ∧ Ext w W
set_option maxRecDepth 100000 in
theorem WdJ.ext {w : World} {g6 g13 n m : Nat} {W W' : World} (h : WdJ w g6 g13 n m W) (he : Ext W W') : WdJ w g6 g13 n m W' := ⟨Wd.ext h.1 he, Wd.ext h.2.1 he, h.2.2.trans he⟩
set_option maxRecDepth 100000 in
set_option maxHeartbeats 4000000 in
theorem nonceWords_any (v u : Value) (l m : List Nat) (w : World) (hs : Ws w v l) (ht : Sqs w u m) : Calls Try.prog 5 #[v, u] w (RetT w) := by
  have HS := Lib.hid hs
  have HT := Lib.hid ht
  obtain ⟨A1, c1, rfl, h1, h2⟩ := hs.len2
  obtain ⟨A2, c2, rfl, h3, h4⟩ := ht.len
  unfold maxLen at h2 h4
  clear hs ht
  go_enter Try.func5, Try.ntmps5
  go_wp2_with fail
  refine (wakesN_any _).mono ?_
  rintro e w1 ⟨rfl, he1⟩
  have HE1 := Lib.hid he1
  clear he1
  go_wp2_with fail
  go_loopw [19] (fun iv wr => ∃ k : Nat, k ≤ l.length ∧ iv = .int .i64 k ∧ Hid (Ext w wr)) (fun iv _ => l.length - (intOf iv).toNat)
  case atStart => exact ⟨0, by omega, rfl, HE1⟩
  case round =>
    clear HE1
    obtain ⟨k, hk, rfl, HE⟩ := hrel
    by_cases hlt : k < l.length
    · have hd : decide (k < l.length) = true := decide_eq_true hlt
      have hd2 : decide ((k : Int) < (l.length : Int)) = true := decide_eq_true (by omega)
      obtain ⟨bb, oo, rfl, hrg, hp⟩ := (HS.out.ext HE.out).atN k hlt
      have HR := Lib.hid hrg
      have HN := Lib.hid hp
      clear hrg hp
      generalize l.getD k 0 = n at *
      by_cases h10 : k = 10
      · have d10 : ((k : Int) == 10) = true := by rw [beq_iff_eq]; omega
        have d11 : (k == 10) = true := by simp [h10]
        clear h10
        have HZS := Lib.hid HE.out.size
        go_wp2_with (first
          | ((with_reducible refine wpList_load_wordIn ?_ (.tmp 22) ?_ bb (oo + k * 4) (n) ?_ ?_ ?_); (exact rfl); (exact rfl); (exact rfl); (exact HR.out))
          | ((with_reducible refine wpList_store_word ?_ ?_ 29 (.tmp 6) (.tmp 23) ?_ winfo wr.heap.size (wc 0) (n) ?_ ?_ ?_ ?_ ?_); (exact rfl); (exact rfl); (exact rfl); (exact rfl); (exact rfl); (exact (Cs.new _ _ _ _ rfl)); (exact rfl); intro w5 k5 g5; have K5 := Lib.hid k5; have G5 := Lib.hid g5; clear k5 g5))
        go_ret
        exact ⟨rfl, (HE.out.alloc (.cells (wc 0) 29)).grown G5.out HZS.out⟩
      have d10 : ((k : Int) == 10) = false := by rw [beq_eq_false_iff_ne]; omega
      have d11 : (k == 10) = false := by simpa using h10
      clear h10
      have HZS := Lib.hid HE.out.size
      go_upto_region 7 with (first
        | ((with_reducible refine wpList_load_wordIn ?_ (.tmp 22) ?_ bb (oo + k * 4) (n) ?_ ?_ ?_); (exact rfl); (exact rfl); (exact rfl); (exact HR.out))
        | ((with_reducible refine wpList_store_word ?_ ?_ 29 (.tmp 6) (.tmp 23) ?_ winfo wr.heap.size (wc 0) (n) ?_ ?_ ?_ ?_ ?_); (exact rfl); (exact rfl); (exact rfl); (exact rfl); (exact rfl); (exact (Cs.new _ _ _ _ rfl)); (exact rfl); intro w5 k5 g5; have K5 := Lib.hid k5; have G5 := Lib.hid g5; clear k5 g5))
      clear hd hd2 d10 d11
      have HE5 := Lib.hid ((HE.out.alloc (.cells (wc 0) 29)).grown G5.out HZS.out)
      have H6 := Lib.hid K5.out
      clear K5 G5 HE HZS HR
      generalize hg6 : wr.heap.size = g6 at *
      clear hg6
      have HB6 := Lib.hid (Cs.rg H6.out)
      go_wp2_with (first
        | ((with_reducible refine wpList_load_wordIn ?_ (.tmp 6) ?_ g6 0 (n) ?_ ?_ ?_); (exact rfl); (exact rfl); (exact rfl); (exact HB6.out)))
      refine (split_any n _ HN.out).mono ?_
      rintro e w7 ⟨rfl, he⟩
      have HE7 := Lib.hid (HE5.out.trans he)
      have H67 := Lib.hid (Wd.ext H6.out he)
      have HZ7 := Lib.hid HE7.out.size
      clear he HB6 H6 HE5
      have HKL := Lib.hid (K192_lt (keyN_lt HN.out))
      go_upto_region 8 with (first
        | ((with_reducible refine wpList_store_word ?_ ?_ 29 (.tmp 7) (.tmp 29) ?_ winfo w7.heap.size (wc 0) (keyN n) ?_ ?_ ?_ ?_ ?_); (exact rfl); (exact rfl); (exact rfl); (exact rfl); (exact rfl); (exact (Cs.new _ _ _ _ rfl)); (exact rfl); intro w8 k8 g8; have K8 := Lib.hid k8; have G8 := Lib.hid g8; clear k8 g8))
      have HE8 := Lib.hid ((HE7.out.alloc (.cells (wc 0) 29)).grown G8.out HZ7.out)
      have H68 := Lib.hid (Wd.kept (Wd.ext H67.out ((Ext.refl _).alloc (.cells (wc 0) 29))) G8.out (some_ne (Nat.ne_of_lt (Wd.lt H67.out))))
      have H78 := Lib.hid K8.out
      clear K8 G8 HE7 HZ7 H67
      generalize hg7 : w7.heap.size = g7 at *
      clear hg7
      have HB6 := Lib.hid (Cs.rg H68.out)
      go_wp2_with (first
        | ((with_reducible refine wpList_load_wordIn ?_ (.tmp 6) ?_ g6 0 (n) ?_ ?_ ?_); (exact rfl); (exact rfl); (exact rfl); (exact HB6.out)))
      refine (refSplit_any n _ HN.out).mono ?_
      rintro e w9 ⟨rfl, he⟩
      have HE9 := Lib.hid (HE8.out.trans he)
      have H69 := Lib.hid (Wd.ext H68.out he)
      have H79 := Lib.hid (Wd.ext H78.out he)
      have HZ9 := Lib.hid HE9.out.size
      clear he HB6 H68 H78 HE8
      go_upto_region 9 with (first
        | ((with_reducible refine wpList_store_word ?_ ?_ 29 (.tmp 9) (.tmp 34) ?_ winfo w9.heap.size (wc 0) (keyN n) ?_ ?_ ?_ ?_ ?_); (exact rfl); (exact rfl); (exact rfl); (exact rfl); (exact rfl); (exact (Cs.new _ _ _ _ rfl)); (exact rfl); intro wA kA gA; have KA := Lib.hid kA; have GA := Lib.hid gA; clear kA gA))
      have HEA := Lib.hid ((HE9.out.alloc (.cells (wc 0) 29)).grown GA.out HZ9.out)
      have H6A := Lib.hid (Wd.kept (Wd.ext H69.out ((Ext.refl _).alloc (.cells (wc 0) 29))) GA.out (some_ne (Nat.ne_of_lt (Wd.lt H69.out))))
      have H7A := Lib.hid (Cs.rg (Wd.kept (Wd.ext H79.out ((Ext.refl _).alloc (.cells (wc 0) 29))) GA.out (some_ne (Nat.ne_of_lt (Wd.lt H79.out)))))
      have H9A := Lib.hid (Cs.rg KA.out)
      clear KA GA HE9 HZ9 H69 H79
      generalize hg9 : w9.heap.size = g9 at *
      clear hg9
      have e1 : (keyN n != keyN n) = false := bne_self_eq_false _
      have e2 : ((seqN n : Int) != (seqN n : Int)) = false := bne_self_eq_false _
      go_wp2_with (first
        | ((with_reducible refine wpList_load_wordIn ?_ (.tmp 7) ?_ g7 0 (keyN n) ?_ ?_ ?_); (exact rfl); (exact rfl); (exact rfl); (exact H7A.out))
        | ((with_reducible refine wpList_load_wordIn ?_ (.tmp 9) ?_ g9 0 (keyN n) ?_ ?_ ?_); (exact rfl); (exact rfl); (exact rfl); (exact H9A.out))
        | ((with_reducible refine wpList_neq_word ?_ (.tmp 36) (.tmp 37) ?_ (keyN n) (keyN n) HKL.out HKL.out ?_ ?_ ?_); (exact rfl); (exact rfl); (exact rfl); (exact rfl); rw [e1]))
      clear e1 e2 H7A H9A
      go_loopw [46] (fun iv ws => ∃ i : Nat, i ≤ m.length ∧ iv = .int .i64 i ∧ Hid (Wd ws g6 29 n ∧ Ext w ws)) (fun iv _ => m.length - (intOf iv).toNat)
      case atStart => exact ⟨0, by omega, rfl, Lib.hid ⟨H6A.out, HEA.out⟩⟩
      case round =>
        clear H6A HEA
        obtain ⟨i, hi, rfl, HJ⟩ := hrel
        by_cases hil : i < m.length
        · have hd : decide (i < m.length) = true := decide_eq_true hil
          have hd2 : decide ((i : Int) < (m.length : Int)) = true := decide_eq_true (by omega)
          obtain ⟨b2, o2, rfl, hcc, hsl⟩ := (HT.out.ext HJ.out.2).at i hil
          have HSS := Lib.hid hsl
          clear hsl
          generalize m.getD i 0 = s at *
          by_cases h5 : i = 5
          · have d5 : ((i : Int) == 5) = true := by rw [beq_iff_eq]; omega
            have d6 : (i == 5) = true := by simp [h5]
            clear h5
            go_wp2_with fail
            exact ⟨⟨k + 1, by omega, by go_num, Lib.hid HJ.out.2⟩, by simp [intOf]; omega⟩
          have d5 : ((i : Int) == 5) = false := by rw [beq_eq_false_iff_ne]; omega
          have d6 : (i == 5) = false := by simpa using h5
          clear h5
          have HB6 := Lib.hid (Cs.rg HJ.out.1)
          go_wp2_with (first
            | ((with_reducible refine wpList_load_wordIn ?_ (.tmp 6) ?_ g6 0 (n) ?_ ?_ ?_); (exact rfl); (exact rfl); (exact rfl); (exact HB6.out)))
          clear hd hd2 d5 d6 hcc
          refine (join_any n s _ HSS.out).mono ?_
          rintro e wa ⟨rfl, he⟩
          have HEB := Lib.hid (HJ.out.2.trans he)
          have H6B := Lib.hid (Wd.ext HJ.out.1 he)
          have HZB := Lib.hid HEB.out.size
          clear he HB6 HJ
          have HJL := Lib.hid (jnN_lt n s HSS.out)
          have HJW : Hid (jwN n s = if keyB n then jnN n s else 0) := Lib.hid rfl
          have HJE : Hid (jeN n = if keyB n then 0 else 2) := Lib.hid rfl
          have HJM : Hid (jwN n s < M256) := Lib.hid (by rw [HJW.out]; split; exact HJL.out; decide)
          generalize jwN n s = jw at *
          generalize jeN n = je at *
          go_upto_region 16 with (first
            | ((with_reducible refine wpList_store_word ?_ ?_ 29 (.tmp 13) (.tmp 57) ?_ winfo wa.heap.size (wc 0) (jw) ?_ ?_ ?_ ?_ ?_); (exact rfl); (exact rfl); (exact rfl); (exact rfl); (exact rfl); (exact (Cs.new _ _ _ _ rfl)); (exact rfl); intro wC kC gC; have KC := Lib.hid kC; have GC := Lib.hid gC; clear kC gC))
          have HEC := Lib.hid ((HEB.out.alloc (.cells (wc 0) 29)).grown GC.out HZB.out)
          have H6C := Lib.hid (Wd.kept (Wd.ext H6B.out ((Ext.refl _).alloc (.cells (wc 0) 29))) GC.out (some_ne (Nat.ne_of_lt (Wd.lt H6B.out))))
          have H13 := Lib.hid KC.out
          clear KC GC HEB HZB H6B
          generalize hg13 : wa.heap.size = g13 at *
          clear hg13
          have HB6 := Lib.hid (Cs.rg H6C.out)
          go_wp2_with (first
            | ((with_reducible refine wpList_load_wordIn ?_ (.tmp 6) ?_ g6 0 (n) ?_ ?_ ?_); (exact rfl); (exact rfl); (exact rfl); (exact HB6.out)))
          refine (refKey_any n _).mono ?_
          rintro e wd ⟨rfl, he⟩
          have HED := Lib.hid (HEC.out.trans he)
          have HJ19 : Hid (WdJ w g6 g13 n jw wd) := Lib.hid ⟨Wd.ext H6C.out he, Wd.ext H13.out he, HED.out⟩
          clear he HB6 H6C H13 HEC HED
          cases hb : keyB n with
          | false =>
            have hw : jw = 0 := by rw [HJW.out, hb]; rfl
            have hje : je = 2 := by rw [HJE.out, hb]; rfl
            subst hw hje
            clear hb HJW HJE
            have HB13 := Lib.hid (Cs.rg HJ19.out.2.1)
            have e0 : ((0 : Nat) != 0) = false := rfl
            go_wp2_with (first
              | ((with_reducible refine wpList_load_wordIn ?_ (.tmp 13) ?_ g13 0 (0) ?_ ?_ ?_); (exact rfl); (exact rfl); (exact rfl); (exact HB13.out))
              | ((with_reducible refine wpList_neq_word ?_ (.tmp 65) (.tmp 66) ?_ 0 0 (by decide) (by decide) ?_ ?_ ?_); (exact rfl); (exact rfl); (exact rfl); (exact rfl); rw [e0]))
            exact ⟨⟨i + 1, by omega, by go_num, Lib.hid ⟨HJ19.out.1, HJ19.out.2.2⟩⟩, by simp [intOf]; omega⟩
          | true =>
            have hw : jw = jnN n s := by rw [HJW.out, hb]; rfl
            have hje : je = 0 := by rw [HJE.out, hb]; rfl
            subst hw hje
            clear hb HJW HJE HJM
            go_upto_region 19 with fail
            refine wp_named fun a0 ha0 => ?_
            obtain ⟨fr, hfr⟩ : ∃ fr : (Nat → Value) → Act, ∀ V, fr V = (((((((((a0.put (some 69) (V 0)).put (some 70) (V 1)).put (some 71) (V 2)).put (some 72) (V 3)).put (some 73) (V 4)).put (some 74) (V 5)).put (some 75) (V 6)).put (some 76) (V 7)).put (some 77) (V 8)) := ⟨fun V => (((((((((a0.put (some 69) (V 0)).put (some 70) (V 1)).put (some 71) (V 2)).put (some 72) (V 3)).put (some 73) (V 4)).put (some 74) (V 5)).put (some 75) (V 6)).put (some 76) (V 7)).put (some 77) (V 8)), fun _ => rfl⟩
            rw [ha0] at hfr
            simp only [Act.put, List.setIfInBounds_toArray, List.set_cons_zero, List.set_cons_succ] at hfr
            have HFR := Lib.hid hfr
            clear hfr
            refine wp_region_inv (by kernel_rfl) (by kernel_rfl) (fun L A W => ∃ V : Nat → Value, A = fr V ∧ Vals (fun j => ([some (.int .i64 0), some (.bool false), some (.bool false), some (wv (jnN n s)), some (wv n), some (.int .u64 (s : Nat)), some (wv (jnN n s)), some (.bool false), some (.bool false)] : List (Option Value)).getD j none) L V ∧ (WdJ w g6 g13 n (jnN n s) W)) ?_ ⟨?_, ?_, ?_, ?_, ?_, ?_, ?_, ?_, ?_, trivial⟩ ?_
            · refine ⟨fun j => a0.tmps.getD (([69, 70, 71, 72, 73, 74, 75, 76, 77] : List Nat).getD j 0) undef, ?_, Vals.no _ _ _ (far_none _ _ rfl), HJ19.out.ext ((Ext.refl _).drew)⟩
              rw [HFR.out, ha0]
              rfl
            all_goals clear ha0
            · rintro L A W K hL hC hW ⟨V, rfl, HV, s0⟩ hK
              have H := Lib.hid (show ∀ W', Ext W W' → K (fr (upd V 0 (.int .i64 0))) W' from fun W' he => hK _ _ ⟨upd V 0 (.int .i64 0), rfl, HV.up 0 _ (fun x hx => Option.some.inj hx), WdJ.ext s0 he⟩)
              clear hK hC hW hL HV s0
              rw [HFR.out]
              go_wp2_with fail
              show K _ _
              have := H.out _ (Ext.refl _)
              rw [HFR.out] at this
              exact this
            · rintro L A W K hL hC hW ⟨V, rfl, HV, s0⟩ hK
              have e0 : V 0 = .int .i64 0 := HV 0 _ rfl (hW 0 rfl)
              have H := Lib.hid (show ∀ W', Ext W W' → K (fr (upd V 1 (.bool false))) W' from fun W' he => hK _ _ ⟨upd V 1 (.bool false), rfl, HV.up 1 _ (fun x hx => Option.some.inj hx), WdJ.ext s0 he⟩)
              have HU := Lib.hid (show (upd V 1 (.bool false)) 0 = .int .i64 0 from e0)
              clear hK hC hW hL HV s0
              rw [HFR.out]
              rw [e0]
              clear e0
              go_wp2_with fail
              show K _ _
              have := H.out _ (Ext.refl _)
              rw [HFR.out] at this
              obtain u0 := HU.out
              rw [u0] at this
              exact this
            · rintro L A W K hL hC hW ⟨V, rfl, HV, s0⟩ hK
              have e1 : V 1 = .bool false := HV 1 _ rfl (hW 1 rfl)
              have H := Lib.hid (show ∀ W', Ext W W' → K (fr (upd V 2 (.bool false))) W' from fun W' he => hK _ _ ⟨upd V 2 (.bool false), rfl, HV.up 2 _ (fun x hx => Option.some.inj hx), WdJ.ext s0 he⟩)
              have HU := Lib.hid (show (upd V 2 (.bool false)) 1 = .bool false from e1)
              clear hK hC hW hL HV s0
              rw [HFR.out]
              rw [e1]
              clear e1
              go_wp2_with fail
              show K _ _
              have := H.out _ (Ext.refl _)
              rw [HFR.out] at this
              obtain u1 := HU.out
              rw [u1] at this
              exact this
            · rintro L A W K hL hC hW ⟨V, rfl, HV, s0⟩ hK
              have e2 : V 2 = .bool false := HV 2 _ rfl (hW 2 rfl)
              have hB := s0
              have H := Lib.hid (show ∀ W', Ext W W' → K (fr (upd V 3 (wv (jnN n s)))) W' from fun W' he => hK _ _ ⟨upd V 3 (wv (jnN n s)), rfl, HV.up 3 _ (fun x hx => Option.some.inj hx), WdJ.ext s0 he⟩)
              have HU := Lib.hid (show (upd V 3 (wv (jnN n s))) 2 = .bool false from e2)
              clear hK hC hW hL HV s0
              rw [HFR.out]
              rw [e2]
              clear e2
              have HWW := Lib.hid (Cs.rg hB.2.1)
              clear hB
              refine wpList_load_wordIn rfl (.tmp 13) rfl g13 0 (jnN n s) rfl HWW.out ?_
              show K _ _
              have := H.out _ (Ext.refl _)
              rw [HFR.out] at this
              obtain u2 := HU.out
              rw [u2] at this
              exact this
            · rintro L A W K hL hC hW ⟨V, rfl, HV, s0⟩ hK
              have e2 : V 2 = .bool false := HV 2 _ rfl (hW 2 rfl)
              have hB := s0
              have H := Lib.hid (show ∀ W', Ext W W' → K (fr (upd V 4 (wv n))) W' from fun W' he => hK _ _ ⟨upd V 4 (wv n), rfl, HV.up 4 _ (fun x hx => Option.some.inj hx), WdJ.ext s0 he⟩)
              have HU := Lib.hid (show (upd V 4 (wv n)) 2 = .bool false from e2)
              clear hK hC hW hL HV s0
              rw [HFR.out]
              rw [e2]
              clear e2
              have HWW := Lib.hid (Cs.rg hB.1)
              clear hB
              refine wpList_load_wordIn rfl (.tmp 6) rfl g6 0 n rfl HWW.out ?_
              show K _ _
              have := H.out _ (Ext.refl _)
              rw [HFR.out] at this
              obtain u2 := HU.out
              rw [u2] at this
              exact this
            · rintro L A W K hL hC hW ⟨V, rfl, HV, s0⟩ hK
              have e2 : V 2 = .bool false := HV 2 _ rfl (hW 2 rfl)
              have H := Lib.hid (show ∀ W', Ext W W' → K (fr (upd V 5 (.int .u64 (s : Nat)))) W' from fun W' he => hK _ _ ⟨upd V 5 (.int .u64 (s : Nat)), rfl, HV.up 5 _ (fun x hx => Option.some.inj hx), WdJ.ext s0 he⟩)
              have HU := Lib.hid (show (upd V 5 (.int .u64 (s : Nat))) 2 = .bool false from e2)
              clear hK hC hW hL HV s0
              rw [HFR.out]
              rw [e2]
              clear e2
              go_wp2_with fail
              show K _ _
              have := H.out _ (Ext.refl _)
              rw [HFR.out] at this
              obtain u2 := HU.out
              rw [u2] at this
              exact this
            · rintro L A W K hL hC hW ⟨V, rfl, HV, s0⟩ hK
              have e2 : V 2 = .bool false := HV 2 _ rfl (hW 2 rfl)
              have e4 : V 4 = wv n := HV 4 _ rfl (hW 4 rfl)
              have e5 : V 5 = .int .u64 (s : Nat) := HV 5 _ rfl (hW 5 rfl)
              have hB := s0
              have H := Lib.hid (show ∀ W', Ext W W' → K (fr (upd V 6 (wv (jnN n s)))) W' from fun W' he => hK _ _ ⟨upd V 6 (wv (jnN n s)), rfl, HV.up 6 _ (fun x hx => Option.some.inj hx), WdJ.ext s0 he⟩)
              have HU := Lib.hid (show (upd V 6 (wv (jnN n s))) 2 = .bool false ∧ (upd V 6 (wv (jnN n s))) 4 = wv n ∧ (upd V 6 (wv (jnN n s))) 5 = .int .u64 (s : Nat) from ⟨e2, e4, e5⟩)
              clear hK hC hW hL HV s0
              rw [HFR.out]
              rw [e2, e4, e5]
              clear e2 e4 e5
              clear hB
              go_wp2_with fail
              refine (refJoin_any n s _ HSS.out).mono ?_
              rintro e wx ⟨rfl, he⟩
              have := H.out _ he
              clear H
              go_wp2_with fail
              show K _ _
              rw [HFR.out] at this
              obtain ⟨u2, u4, u5⟩ := HU.out
              rw [u2, u4, u5] at this
              exact this
            · rintro L A W K hL hC hW ⟨V, rfl, HV, s0⟩ hK
              have e2 : V 2 = .bool false := HV 2 _ rfl (hW 2 rfl)
              have e3 : V 3 = wv (jnN n s) := HV 3 _ rfl (hW 3 rfl)
              have e6 : V 6 = wv (jnN n s) := HV 6 _ rfl (hW 6 rfl)
              have hB := s0
              have H := Lib.hid (show ∀ W', Ext W W' → K (fr (upd V 7 (.bool false))) W' from fun W' he => hK _ _ ⟨upd V 7 (.bool false), rfl, HV.up 7 _ (fun x hx => Option.some.inj hx), WdJ.ext s0 he⟩)
              have HU := Lib.hid (show (upd V 7 (.bool false)) 2 = .bool false ∧ (upd V 7 (.bool false)) 3 = wv (jnN n s) ∧ (upd V 7 (.bool false)) 6 = wv (jnN n s) from ⟨e2, e3, e6⟩)
              clear hK hC hW hL HV s0
              rw [HFR.out]
              rw [e2, e3, e6]
              clear e2 e3 e6
              clear hB
              refine wpList_neq_word rfl (.tmp 72) (.tmp 75) rfl (jnN n s) (jnN n s) HJL.out HJL.out rfl rfl ?_
              rw [bne_self_eq_false]
              show K _ _
              have := H.out _ (Ext.refl _)
              rw [HFR.out] at this
              obtain ⟨u2, u3, u6⟩ := HU.out
              rw [u2, u3, u6] at this
              exact this
            · rintro L A W K hL hC hW ⟨V, rfl, HV, s0⟩ hK
              have e2 : V 2 = .bool false := HV 2 _ rfl (hW 2 rfl)
              have e7 : V 7 = .bool false := HV 7 _ rfl (hW 7 rfl)
              have H := Lib.hid (show ∀ W', Ext W W' → K (fr (upd V 8 (.bool false))) W' from fun W' he => hK _ _ ⟨upd V 8 (.bool false), rfl, HV.up 8 _ (fun x hx => Option.some.inj hx), WdJ.ext s0 he⟩)
              have HU := Lib.hid (show (upd V 8 (.bool false)) 2 = .bool false ∧ (upd V 8 (.bool false)) 7 = .bool false from ⟨e2, e7⟩)
              clear hK hC hW hL HV s0
              rw [HFR.out]
              rw [e2, e7]
              clear e2 e7
              go_wp2_with fail
              show K _ _
              have := H.out _ (Ext.refl _)
              rw [HFR.out] at this
              obtain ⟨u2, u7⟩ := HU.out
              rw [u2, u7] at this
              exact this
            · rintro L A W hL ⟨V, rfl, HV, s0⟩
              have e0 : V 0 = .int .i64 0 := HV 0 _ rfl (hL 0 (by simp))
              have e1 : V 1 = .bool false := HV 1 _ rfl (hL 1 (by simp))
              have e2 : V 2 = .bool false := HV 2 _ rfl (hL 2 (by simp))
              have e3 : V 3 = wv (jnN n s) := HV 3 _ rfl (hL 3 (by simp))
              have e4 : V 4 = wv n := HV 4 _ rfl (hL 4 (by simp))
              have e5 : V 5 = .int .u64 (s : Nat) := HV 5 _ rfl (hL 5 (by simp))
              have e6 : V 6 = wv (jnN n s) := HV 6 _ rfl (hL 6 (by simp))
              have e7 : V 7 = .bool false := HV 7 _ rfl (hL 7 (by simp))
              have e8 : V 8 = .bool false := HV 8 _ rfl (hL 8 (by simp))
              have hA := s0
              rw [HFR.out]
              rw [e0, e1, e2, e3, e4, e5, e6, e7, e8]
              clear hL HV HFR e0 e1 e2 e3 e4 e5 e6 e7 e8 s0
              go_wp2_with fail
              exact ⟨⟨i + 1, by omega, by go_num, Lib.hid ⟨hA.1, hA.2.2⟩⟩, by simp [intOf]; omega⟩
        · obtain rfl : i = m.length := by omega
          have hd : decide (m.length < m.length) = false := decide_eq_false (by omega)
          have hd2 : decide ((m.length : Int) < (m.length : Int)) = false := decide_eq_false (by omega)
          go_wp2_with fail
          exact ⟨⟨k + 1, by omega, by go_num, Lib.hid HJ.out.2⟩, by simp [intOf]; omega⟩
    · obtain rfl : k = l.length := by omega
      have hd : decide (l.length < l.length) = false := decide_eq_false (by omega)
      have hd2 : decide ((l.length : Int) < (l.length : Int)) = false := decide_eq_false (by omega)
      go_wp2_with fail
      go_ret
      exact ⟨rfl, HE.out⟩

set_option maxRecDepth 100000 in
theorem nonceWords_told (W : World) (args : Array Value) (h : Told Try.f5 W args) : Calls Try.prog 5 args W (RetT W) := by
  obtain ⟨H, enc, base, ds, p, hval, hA⟩ := h
  rw [Try.params5] at hA hval
  obtain ⟨v0, v1, d0, d1, p0, p1, rfl, rfl, rfl, h0, h1⟩ := trodAll_two hA
  obtain ⟨l, hl⟩ := ws_came (hval 0 _ v0 rfl rfl) h0
  obtain ⟨A, n, c, rfl⟩ := okWide_slice Try.underlying51 (hval 1 _ v1 rfl rfl)
  obtain ⟨m, hm⟩ := sqs_came h1 rfl
  exact nonceWords_any v0 _ l m W hl hm

set_option maxRecDepth 100000 in
theorem nonceWords_spec (H : Type) : ∀ ds : List (DataW H), ds.length = Try.f5.params.toList.length → Rows.nonceWordsSpec.fn H ds = { results := [.lit (.bool true)], args := ds }
  | [_, _], _ => rfl
  | [], h | [_], h | _ :: _ :: _ :: _, h => by rw [Try.params5] at h; simp at h

set_option maxRecDepth 100000 in
theorem nonceWords_holds : Rows.NonceWordsSaid :=
  OpenClaim.holds_of_wide 5 Try.f5 rfl rfl rfl rfl rfl rfl rfl ⟨rfl, rfl, rfl, rfl, rfl⟩ rfl rfl rfl rfl rfl (by kernel_rfl) Try.func5 (by kernel_rfl)
    (of_decide_eq_true (by kernel_rfl)) (by unfold Func.isWrapper; first | (rw [if_pos (by decide +kernel)]; kernel_rfl) | (rw [if_neg (by decide +kernel)]; exact ⟨rfl, rfl⟩))
    (fun os started H enc _ => law_lifted started (by kernel_rfl) Try.func5 rfl rfl (nonceWords_spec H) (of_decide_eq_true (by kernel_rfl))
      (ChangeSpec.witness6 (enc := enc) (C := Try.checked) false ⟨#[], #[.slice none 0 0, .slice none 0 0], []⟩ 8 (by kernel_rfl) (by kernel_rfl) (by kernel_rfl) (by kernel_rfl)) nonceWords_told)
end Go.Proofs.Ytepggbhibpjkpaa
