/- SpongePads: the walk, the row and its card. -/
import Derived.Test.YthjmjccggkejhaaDoorSqc
namespace Go.Proofs.YthjmjccggkejhaaDoor
open Go.ChangeShapes Go.WideShapes Go.ChangeAt Go.RowKit Go.Shelf

/-- Two digests that lie there. -/
def PdB (w : World) (g7 g8 : Nat) (f g : Nat → Nat) (W : World) : Prop := Ib W g7 f ∧ Ib W g8 g ∧ Ext w W
set_option maxRecDepth 100000 in
theorem PdB.ext {w : World} {g7 g8 : Nat} {f g : Nat → Nat} {W W' : World} (h : PdB w g7 g8 f g W) (he : Ext W W') : PdB w g7 g8 f g W' := ⟨h.1.ext he, h.2.1.ext he, h.2.2.trans he⟩
set_option maxRecDepth 100000 in
theorem PdB.drew {w : World} {g7 g8 : Nat} {f g : Nat → Nat} {W : World} (h : PdB w g7 g8 f g W) : PdB w g7 g8 f g W.drew := h.ext (ext_of_grown (grown_drew (World.grownBy.refl _ _)))
set_option maxRecDepth 100000 in
theorem sumF_lt (b : List UInt8) (i : Nat) (_ : i < 32) : sumF b i < 256 := by unfold sumF dgB; exact Nat.mod_lt _ (by decide)
set_option maxRecDepth 100000 in
theorem idP_lt (s : ByteArray) (h : okS s = true) (i : Nat) (hi : i < 32) : idP (dS s) i < 256 := by
  unfold okS at h
  rw [Bool.and_eq_true, List.all_eq_true] at h
  have h1 : dS s (2 * i) < 16 := by simpa using h.2 (2 * i) (by simp; omega)
  have h2 : dS s (2 * i + 1) < 16 := by simpa using h.2 (2 * i + 1) (by simp; omega)
  unfold idP
  omega

set_option maxRecDepth 100000 in
set_option maxHeartbeats 8000000 in
theorem pads_any (v0 v1 : Value) (a0 b0 : List UInt8) (s : ByteArray) (w : World) (h0 : Bs w v0 a0) (h1 : Bs w v1 b0) (ht : Tb w) : Calls Tryd.prog 9 #[v0, v1, .string s] w (RetT w) := by
  have H0 := Lib.hid h0
  have H1 := Lib.hid h1
  have HT := Lib.hid ht
  clear h0 h1 ht
  go_enter Tryd.func9, Tryd.ntmps9
  go_wp2_with fail
  refine (wakes_any _ HT.out).mono ?_
  rintro e w1 ⟨rfl, he1⟩
  have HE1 := Lib.hid he1
  clear he1
  go_wp2_with fail
  refine (few_any v0 a0 _ (H0.out.ext HE1.out)).mono ?_
  rintro e w2 ⟨va, rfl, ho, he⟩
  have HA := Lib.hid (Own.bs ho)
  have HE2 := Lib.hid (HE1.out.trans he)
  have hla : (a0.take 800).length ≤ 800 := by simp; omega
  generalize a0.take 800 = a at *
  clear ho he HE1
  go_wp2_with fail
  refine (few_any v1 b0 _ (H1.out.ext HE2.out)).mono ?_
  rintro e w3 ⟨vb, rfl, ho, he⟩
  have HB := Lib.hid (Own.bs ho)
  have HA := Lib.hid (HA.out.ext he)
  have HE3 := Lib.hid (HE2.out.trans he)
  have hlb : (b0.take 800).length ≤ 800 := by simp; omega
  generalize b0.take 800 = b at *
  clear ho he HE2 H0 H1
  obtain ⟨eb, heb⟩ : ∃ eb, (a == b) = eb := ⟨_, rfl⟩
  have HEB := Lib.hid (And.intro heb ((pad_same a b).trans heb))
  clear heb
  go_wp2_with fail
  refine (bytesEqual_any va vb a b _ HA.out HB.out).mono ?_
  rintro e w4 ⟨rfl, rfl⟩
  rw [HEB.out.1]
  go_wp2_with fail
  refine (pad_any va a _ HA.out (by omega)).mono ?_
  rintro e w4 ⟨vpa, rfl, ho, he⟩
  have HPA := Lib.hid (Own.bs ho)
  have HA := Lib.hid (HA.out.ext he)
  have HB := Lib.hid (HB.out.ext he)
  have HE4 := Lib.hid (HE3.out.trans he)
  clear ho he HE3
  go_wp2_with fail
  refine (pad_any vb b _ HB.out (by omega)).mono ?_
  rintro e w5 ⟨vpb, rfl, ho, he⟩
  have HPB := Lib.hid (Own.bs ho)
  have HPA := Lib.hid (HPA.out.ext he)
  have HA := Lib.hid (HA.out.ext he)
  have HB := Lib.hid (HB.out.ext he)
  have HE5 := Lib.hid (HE4.out.trans he)
  clear ho he HE4
  go_wp2_with fail
  refine (bytesEqual_any vpa vpb (padL a) (padL b) _ HPA.out HPB.out).mono ?_
  rintro e w6 ⟨rfl, rfl⟩
  rw [HEB.out.2]
  have hbb : (eb != eb) = false := bne_self_eq_false eb
  clear HPA HPB
  go_wp2_with fail
  refine (sum_any va a _ HA.out (by omega) (HT.out.ext HE5.out)).mono ?_
  rintro e w6 ⟨rfl, he⟩
  have HB := Lib.hid (HB.out.ext he)
  have HE6 := Lib.hid (HE5.out.trans he)
  clear he HE5 hbb HEB HA
  have HF := Lib.hid (sumF_lt a)
  generalize sumF a = f at *
  go_wp2_with fail
  refine (sum_any vb b _ HB.out (by omega) (HT.out.ext HE6.out)).mono ?_
  rintro e w7 ⟨rfl, he⟩
  have HE7 := Lib.hid (HE6.out.trans he)
  clear he HE6 HB
  have HG := Lib.hid (sumF_lt b)
  generalize sumF b = g at *
  have HTX := Lib.hid (fun W => (show Calls Tryd.prog 26 #[idv f] W fun e w' => e = .returned (.string (txB f)) ∧ Ext W w' from text_any f W HF.out))
  have HTY := Lib.hid (fun W => (show Calls Tryd.prog 26 #[idv g] W fun e w' => e = .returned (.string (txB g)) ∧ Ext W w' from text_any g W HG.out))
  have HPS := Lib.hid (show prsV (txB f) = .tuple #[idv f, .int .i64 0] by
    unfold prsV
    rw [if_pos (ok_tx f HF.out)]
    unfold idv
    rw [ic_congr (idP_tx f HF.out)])
  have htxs := txB_size f
  obtain ⟨tx, htx⟩ : ∃ tx, tx = txB f := ⟨_, rfl⟩
  obtain ⟨ty, hty⟩ : ∃ ty, ty = txB g := ⟨_, rfl⟩
  rw [← htx] at HTX HPS htxs
  rw [← hty] at HTY
  have HTE := Lib.hid (And.intro htx hty)
  clear htx hty
  have hts : ((tx.size : Int) != 64) = false := by rw [htxs]; rfl
  have HTS := Lib.hid htxs
  clear htxs
  go_wp2_with (first
    | ((with_reducible refine wpList_store_id ?_ ?_ (.tmp 7) (.tmp 30) ?_ w7.heap.size (ic fun _ => 0) f ?_ ?_ ?_ ?_ ?_); (exact rfl); (exact rfl); (exact rfl); (exact rfl); (exact rfl); (exact (Cs.new _ _ _ _ rfl).alloc _); (exact ic_size _); intro w8 k8 q8; have K8 := Lib.hid k8; have Z8 := Lib.hid (Cs.kept (Cs.new (w7.alloc (.cells (ic fun _ => 0) 27)) (ic fun _ => 0) 27 (w7.heap.size + 1) (by simp)) q8 (some_ne (by omega))); have HE8 := Lib.hid (((HE7.out.alloc _).alloc _).grown q8 HE7.out.size); clear k8 q8)
    | ((with_reducible refine wpList_store_id ?_ ?_ (.tmp 8) (.tmp 32) ?_ (w7.heap.size + 1) (ic fun _ => 0) g ?_ ?_ ?_ ?_ ?_); (exact rfl); (exact rfl); (exact rfl); (exact rfl); (exact rfl); (exact Z8.out); (exact ic_size _); intro w9 k9 q9; have HB0 : Hid (PdB w w7.heap.size (w7.heap.size + 1) f g w9) := ⟨Cs.kept K8.out q9 (some_ne (by omega)), k9, HE8.out.grown q9 (by have := HE7.out.size; omega)⟩; clear k9 q9)
    | ((with_reducible refine wpList_load_id ?_ (.tmp 7) ?_ w7.heap.size f ?_ ?_ ?_); (exact rfl); (exact rfl); (exact rfl); (exact HB0.out.1)))
  have hg78 : w7.heap.size ≠ w7.heap.size + 1 := by omega
  generalize w7.heap.size + 1 = g8 at *
  generalize w7.heap.size = g7 at *
  clear K8 Z8 HE8 HE7
  refine (HTX.out _).mono ?_
  rintro e w10 ⟨rfl, he⟩
  have HB0 := Lib.hid (HB0.out.ext he)
  clear he
  go_wp2_with fail
  refine (parse_any tx _).mono ?_
  rintro e w10 ⟨rfl, he⟩
  rw [HPS.out]
  have HB0 := Lib.hid (HB0.out.ext he)
  clear he
  go_wp2_with (first
    | ((with_reducible refine wpList_store_id ?_ ?_ (.tmp 10) (.tmp 38) ?_ w10.heap.size (ic fun _ => 0) f ?_ ?_ ?_ ?_ ?_); (exact rfl); (exact rfl); (exact rfl); (exact rfl); (exact rfl); (exact Cs.new _ _ _ _ rfl); (exact ic_size _); intro w11 k11 q11; have K11 := Lib.hid k11; have HB1 : Hid (PdB w g7 g8 f g w11) := ⟨Cs.kept (Cs.alloc HB0.out.1 _) q11 (some_ne (by have := Cs.lt HB0.out.1; omega)), Cs.kept (Cs.alloc HB0.out.2.1 _) q11 (some_ne (by have := Cs.lt HB0.out.2.1; omega)), (HB0.out.2.2.alloc _).grown q11 HB0.out.2.2.size⟩; clear k11 q11)
    | ((with_reducible refine wpList_load_id ?_ (.tmp 10) ?_ w10.heap.size f ?_ ?_ ?_); (exact rfl); (exact rfl); (exact rfl); (exact K11.out))
    | ((with_reducible refine wpList_load_id ?_ (.tmp 7) ?_ g7 f ?_ ?_ ?_); (exact rfl); (exact rfl); (exact rfl); (exact HB1.out.1))
    | ((with_reducible refine wpList_neq_id ?_ (.tmp 43) (.tmp 44) ?_ f f false ?_ ?_ (same_self f) ?_); (exact rfl); (exact rfl); (exact rfl); (exact rfl)))
  clear K11 HTX hts HTS HPS
  have HB0 := HB1
  clear HB1
  refine (parse_any s _).mono ?_
  rintro e w11 ⟨rfl, he⟩
  have HB0 := Lib.hid (HB0.out.ext he)
  clear he
  cases hok : okS s with
  | true =>
    have HV := Lib.hid (show prsV s = .tuple #[idv (idP (dS s)), .int .i64 0] by unfold prsV; rw [if_pos hok])
    have HTP := Lib.hid (fun W => (show Calls Tryd.prog 26 #[idv (idP (dS s))] W fun e w' => e = .returned (.string s) ∧ Ext W w' from by
      have := text_any (idP (dS s)) W (idP_lt s hok)
      rw [show (⟨(txI (idP (dS s)) 32).toArray⟩ : ByteArray) = s from tx_idP s hok] at this
      exact this))
    rw [HV.out]
    clear HV hok
    generalize idP (dS s) = p at *
    go_wp2_with (first
      | ((with_reducible refine wpList_store_id ?_ ?_ (.tmp 12) (.tmp 55) ?_ w11.heap.size (ic fun _ => 0) p ?_ ?_ ?_ ?_ ?_); (exact rfl); (exact rfl); (exact rfl); (exact rfl); (exact rfl); (exact Cs.new _ _ _ _ rfl); (exact ic_size _); intro w12 k12 q12; have K12 := Lib.hid k12; have HB1 : Hid (PdB w g7 g8 f g w12) := ⟨Cs.kept (Cs.alloc HB0.out.1 _) q12 (some_ne (by have := Cs.lt HB0.out.1; omega)), Cs.kept (Cs.alloc HB0.out.2.1 _) q12 (some_ne (by have := Cs.lt HB0.out.2.1; omega)), (HB0.out.2.2.alloc _).grown q12 HB0.out.2.2.size⟩; clear k12 q12)
      | ((with_reducible refine wpList_load_id ?_ (.tmp 12) ?_ w11.heap.size p ?_ ?_ ?_); (exact rfl); (exact rfl); (exact rfl); (exact K12.out)))
    refine (HTP.out _).mono ?_
    rintro e w13 ⟨rfl, he⟩
    have HB0 := Lib.hid (HB1.out.ext he)
    clear he HB1 HTP K12
    go_upto_region 14 with fail
    obtain ⟨x1, hx1⟩ : ∃ x, lsR f g 32 0 = x := ⟨_, rfl⟩
    obtain ⟨x2, hx2⟩ : ∃ x, lsR g f 32 0 = x := ⟨_, rfl⟩
    have hb12 := lsR_both f g 32 0
    have hsm := same_less f g
    rw [hx1, hx2] at hb12 hsm
    have HL1 := Lib.hid (fun W => less_any f g W)
    have HL2 := Lib.hid (fun W => less_any g f W)
    rw [hx1] at HL1
    rw [hx2] at HL2
    have HTL := Lib.hid (show Op.bytesLess tx.toList ty.toList = x1 by rw [HTE.out.1, HTE.out.2, tx_less f g HF.out HG.out, hx1])
    clear hx1 hx2 HTE
    cases x1 with
    | true =>
      cases x2 with
      | true => exact absurd hb12 (by simp)
      | false =>
        have HEQ := Lib.hid (show same32 f g = false by rw [hsm]; rfl)
        clear hb12 hsm
        refine wp_named fun a0 ha0 => ?_
        obtain ⟨fr, hfr⟩ : ∃ fr : (Nat → Value) → Act, ∀ V, fr V = ((((((((((((((((((((((((((((((((((((a0.put (some 74) (V 0)).put (some 75) (V 1)).put (some 76) (V 2)).put (some 77) (V 3)).put (some 78) (V 4)).put (some 79) (V 5)).put (some 80) (V 6)).put (some 81) (V 7)).put (some 82) (V 8)).put (some 83) (V 9)).put (some 84) (V 10)).put (some 85) (V 11)).put (some 86) (V 12)).put (some 87) (V 13)).put (some 88) (V 14)).put (some 89) (V 15)).put (some 90) (V 16)).put (some 91) (V 17)).put (some 92) (V 18)).put (some 93) (V 19)).put (some 94) (V 20)).put (some 95) (V 21)).put (some 96) (V 22)).put (some 97) (V 23)).put (some 98) (V 24)).put (some 99) (V 25)).put (some 100) (V 26)).put (some 101) (V 27)).put (some 102) (V 28)).put (some 103) (V 29)).put (some 104) (V 30)).put (some 105) (V 31)).put (some 106) (V 32)).put (some 107) (V 33)).put (some 108) (V 34)).put (some 6) (V 35)) := ⟨fun V => ((((((((((((((((((((((((((((((((((((a0.put (some 74) (V 0)).put (some 75) (V 1)).put (some 76) (V 2)).put (some 77) (V 3)).put (some 78) (V 4)).put (some 79) (V 5)).put (some 80) (V 6)).put (some 81) (V 7)).put (some 82) (V 8)).put (some 83) (V 9)).put (some 84) (V 10)).put (some 85) (V 11)).put (some 86) (V 12)).put (some 87) (V 13)).put (some 88) (V 14)).put (some 89) (V 15)).put (some 90) (V 16)).put (some 91) (V 17)).put (some 92) (V 18)).put (some 93) (V 19)).put (some 94) (V 20)).put (some 95) (V 21)).put (some 96) (V 22)).put (some 97) (V 23)).put (some 98) (V 24)).put (some 99) (V 25)).put (some 100) (V 26)).put (some 101) (V 27)).put (some 102) (V 28)).put (some 103) (V 29)).put (some 104) (V 30)).put (some 105) (V 31)).put (some 106) (V 32)).put (some 107) (V 33)).put (some 108) (V 34)).put (some 6) (V 35)), fun _ => rfl⟩
        rw [ha0] at hfr
        simp only [Act.put, List.setIfInBounds_toArray, List.set_cons_zero, List.set_cons_succ] at hfr
        have HFR := Lib.hid hfr
        clear hfr
        refine wp_region_inv (by kernel_rfl) (by kernel_rfl) (fun L A W => ∃ V : Nat → Value, A = fr V ∧ Vals (fun j => ([some (idv f), some (idv g), some (.bool true), some (.string tx), some (idv g), some (.string ty), some (.bool true), some (.bool true), some (.bool true), some (idv f), some (idv g), some (.bool true), some (.bool true), some (idv g), some (idv f), some (.bool false), some (.bool false), some (.bool true), some (.bool true), some (.bool true), some (idv f), some (idv g), some (.bool false), some (idv f), some (idv g), some (.bool true), some (.bool false), some (.bool false), some (undef), some (undef), some (undef), some (undef), some (.bool false), some (.bool true), some (.bool true), some (.bool true)] : List (Option Value)).getD j none) L V ∧ PdB w g7 g8 f g W) ?_ ⟨?_, ?_, ?_, ?_, ?_, ?_, ?_, ?_, ?_, ?_, ?_, ?_, ?_, ?_, ?_, ?_, ?_, ?_, ?_, ?_, ?_, ?_, ?_, ?_, ?_, ?_, ?_, ?_, ?_, ?_, ?_, ?_, ?_, ?_, ?_, ?_, trivial⟩ ?_
        · refine ⟨fun j => a0.tmps.getD (([74, 75, 76, 77, 78, 79, 80, 81, 82, 83, 84, 85, 86, 87, 88, 89, 90, 91, 92, 93, 94, 95, 96, 97, 98, 99, 100, 101, 102, 103, 104, 105, 106, 107, 108, 6] : List Nat).getD j 0) undef, ?_, Vals.no _ _ _ (far_none _ _ rfl), HB0.out.drew⟩
          rw [HFR.out, ha0]
          rfl
        all_goals clear ha0
        · rintro L A W K hL hC hW ⟨V, rfl, HV, hB⟩ hK
          have H := Lib.hid (show ∀ W', Ext W W' → K (fr (upd V 0 (idv f))) W' from fun W' he => hK _ W' ⟨upd V 0 (idv f), rfl, HV.up 0 _ (fun x hx => Option.some.inj hx), PdB.ext hB he⟩)
          clear hK hC hW hL HV
          rw [HFR.out]
          have HLn := Lib.hid hB.1
          clear hB
          go_wp2_with ((with_reducible refine wpList_load_id ?_ (.tmp 7) ?_ (g7) f ?_ ?_ ?_); (exact rfl); (exact rfl); (exact rfl); (exact HLn.out))
          show K _ _
          have := H.out _ (Ext.refl _)
          rw [HFR.out] at this
          exact this
        · rintro L A W K hL hC hW ⟨V, rfl, HV, hB⟩ hK
          have H := Lib.hid (show ∀ W', Ext W W' → K (fr (upd V 1 (idv g))) W' from fun W' he => hK _ W' ⟨upd V 1 (idv g), rfl, HV.up 1 _ (fun x hx => Option.some.inj hx), PdB.ext hB he⟩)
          clear hK hC hW hL HV
          rw [HFR.out]
          have HLn := Lib.hid hB.2.1
          clear hB
          go_wp2_with ((with_reducible refine wpList_load_id ?_ (.tmp 8) ?_ (g8) g ?_ ?_ ?_); (exact rfl); (exact rfl); (exact rfl); (exact HLn.out))
          show K _ _
          have := H.out _ (Ext.refl _)
          rw [HFR.out] at this
          exact this
        · rintro L A W K hL hC hW ⟨V, rfl, HV, hB⟩ hK
          have e0 : V 0 = idv f := HV 0 _ rfl (hW 0 rfl)
          have e1 : V 1 = idv g := HV 1 _ rfl (hW 1 rfl)
          have H := Lib.hid (show ∀ W', Ext W W' → K (fr (upd V 2 (.bool true))) W' from fun W' he => hK _ W' ⟨upd V 2 (.bool true), rfl, HV.up 2 _ (fun x hx => Option.some.inj hx), PdB.ext hB he⟩)
          clear hK hC hW hL HV
          have u0 : (upd V 2 (.bool true)) 0 = idv f := e0
          have u1 : (upd V 2 (.bool true)) 1 = idv g := e1
          have HU := Lib.hid (show (upd V 2 (.bool true)) 0 = idv f ∧ (upd V 2 (.bool true)) 1 = idv g from ⟨u0, u1⟩)
          clear u0 u1
          rw [HFR.out]
          rw [e0, e1]
          clear e0 e1
          go_wp2_with fail
          refine (HL1.out _).mono ?_
          rintro e wx ⟨rfl, he⟩
          go_wp2_with fail
          show K _ _
          have := H.out _ he
          rw [HFR.out] at this
          obtain ⟨u0, u1⟩ := HU.out
          rw [u0, u1] at this
          exact this
        · rintro L A W K hL hC hW ⟨V, rfl, HV, hB⟩ hK
          have H := Lib.hid (show ∀ W', Ext W W' → K (fr (upd V 3 (.string tx))) W' from fun W' he => hK _ W' ⟨upd V 3 (.string tx), rfl, HV.up 3 _ (fun x hx => Option.some.inj hx), PdB.ext hB he⟩)
          clear hK hC hW hL HV
          rw [HFR.out]
          clear hB
          go_wp2_with fail
          show K _ _
          have := H.out _ (Ext.refl _)
          rw [HFR.out] at this
          exact this
        · rintro L A W K hL hC hW ⟨V, rfl, HV, hB⟩ hK
          have H := Lib.hid (show ∀ W', Ext W W' → K (fr (upd V 4 (idv g))) W' from fun W' he => hK _ W' ⟨upd V 4 (idv g), rfl, HV.up 4 _ (fun x hx => Option.some.inj hx), PdB.ext hB he⟩)
          clear hK hC hW hL HV
          rw [HFR.out]
          have HLn := Lib.hid hB.2.1
          clear hB
          go_wp2_with ((with_reducible refine wpList_load_id ?_ (.tmp 8) ?_ (g8) g ?_ ?_ ?_); (exact rfl); (exact rfl); (exact rfl); (exact HLn.out))
          show K _ _
          have := H.out _ (Ext.refl _)
          rw [HFR.out] at this
          exact this
        · rintro L A W K hL hC hW ⟨V, rfl, HV, hB⟩ hK
          have e4 : V 4 = idv g := HV 4 _ rfl (hW 4 rfl)
          have H := Lib.hid (show ∀ W', Ext W W' → K (fr (upd V 5 (.string ty))) W' from fun W' he => hK _ W' ⟨upd V 5 (.string ty), rfl, HV.up 5 _ (fun x hx => Option.some.inj hx), PdB.ext hB he⟩)
          clear hK hC hW hL HV
          have u4 : (upd V 5 (.string ty)) 4 = idv g := e4
          have HU := Lib.hid (show (upd V 5 (.string ty)) 4 = idv g from u4)
          clear u4
          rw [HFR.out]
          rw [e4]
          clear e4
          go_wp2_with fail
          refine (HTY.out _).mono ?_
          rintro e wx ⟨rfl, he⟩
          go_wp2_with fail
          show K _ _
          have := H.out _ he
          rw [HFR.out] at this
          obtain u4 := HU.out
          rw [u4] at this
          exact this
        · rintro L A W K hL hC hW ⟨V, rfl, HV, hB⟩ hK
          have e3 : V 3 = .string tx := HV 3 _ rfl (hW 3 rfl)
          have e5 : V 5 = .string ty := HV 5 _ rfl (hW 5 rfl)
          have H := Lib.hid (show ∀ W', Ext W W' → K (fr (upd V 6 (.bool true))) W' from fun W' he => hK _ W' ⟨upd V 6 (.bool true), rfl, HV.up 6 _ (fun x hx => Option.some.inj hx), PdB.ext hB he⟩)
          clear hK hC hW hL HV
          have u3 : (upd V 6 (.bool true)) 3 = .string tx := e3
          have u5 : (upd V 6 (.bool true)) 5 = .string ty := e5
          have HU := Lib.hid (show (upd V 6 (.bool true)) 3 = .string tx ∧ (upd V 6 (.bool true)) 5 = .string ty from ⟨u3, u5⟩)
          clear u3 u5
          rw [HFR.out]
          rw [e3, e5]
          clear e3 e5
          have hls := HTL.out
          clear hB
          go_wp2_with fail
          show K _ _
          have := H.out _ (Ext.refl _)
          rw [HFR.out] at this
          obtain ⟨u3, u5⟩ := HU.out
          rw [u3, u5] at this
          exact this
        · rintro L A W K hL hC hW ⟨V, rfl, HV, hB⟩ hK
          have e2 : V 2 = .bool true := HV 2 _ rfl (hW 2 rfl)
          have e6 : V 6 = .bool true := HV 6 _ rfl (hW 6 rfl)
          have H := Lib.hid (show ∀ W', Ext W W' → K (fr (upd V 7 (.bool true))) W' from fun W' he => hK _ W' ⟨upd V 7 (.bool true), rfl, HV.up 7 _ (fun x hx => Option.some.inj hx), PdB.ext hB he⟩)
          clear hK hC hW hL HV
          have u2 : (upd V 7 (.bool true)) 2 = .bool true := e2
          have u6 : (upd V 7 (.bool true)) 6 = .bool true := e6
          have HU := Lib.hid (show (upd V 7 (.bool true)) 2 = .bool true ∧ (upd V 7 (.bool true)) 6 = .bool true from ⟨u2, u6⟩)
          clear u2 u6
          rw [HFR.out]
          rw [e2, e6]
          clear e2 e6
          clear hB
          go_wp2_with fail
          show K _ _
          have := H.out _ (Ext.refl _)
          rw [HFR.out] at this
          obtain ⟨u2, u6⟩ := HU.out
          rw [u2, u6] at this
          exact this
        · rintro L A W K hL hC hW ⟨V, rfl, HV, hB⟩ hK
          have e7 : V 7 = .bool true := HV 7 _ rfl (hW 7 rfl)
          have H := Lib.hid (show ∀ W', Ext W W' → K (fr (upd V 8 (.bool true))) W' from fun W' he => hK _ W' ⟨upd V 8 (.bool true), rfl, HV.up 8 _ (fun x hx => Option.some.inj hx), PdB.ext hB he⟩)
          clear hK hC hW hL HV
          have u7 : (upd V 8 (.bool true)) 7 = .bool true := e7
          have HU := Lib.hid (show (upd V 8 (.bool true)) 7 = .bool true from u7)
          clear u7
          rw [HFR.out]
          rw [e7]
          clear e7
          clear hB
          go_wp2_with fail
          show K _ _
          have := H.out _ (Ext.refl _)
          rw [HFR.out] at this
          obtain u7 := HU.out
          rw [u7] at this
          exact this
        · rintro L A W K hL hC hW ⟨V, rfl, HV, hB⟩ hK
          have e8 : V 8 = .bool true := HV 8 _ rfl (hW 8 rfl)
          have H := Lib.hid (show ∀ W', Ext W W' → K (fr (upd V 9 (idv f))) W' from fun W' he => hK _ W' ⟨upd V 9 (idv f), rfl, HV.up 9 _ (fun x hx => Option.some.inj hx), PdB.ext hB he⟩)
          clear hK hC hW hL HV
          have u8 : (upd V 9 (idv f)) 8 = .bool true := e8
          have HU := Lib.hid (show (upd V 9 (idv f)) 8 = .bool true from u8)
          clear u8
          rw [HFR.out]
          rw [e8]
          clear e8
          have HLn := Lib.hid hB.1
          clear hB
          go_wp2_with ((with_reducible refine wpList_load_id ?_ (.tmp 7) ?_ (g7) f ?_ ?_ ?_); (exact rfl); (exact rfl); (exact rfl); (exact HLn.out))
          show K _ _
          have := H.out _ (Ext.refl _)
          rw [HFR.out] at this
          obtain u8 := HU.out
          rw [u8] at this
          exact this
        · rintro L A W K hL hC hW ⟨V, rfl, HV, hB⟩ hK
          have e8 : V 8 = .bool true := HV 8 _ rfl (hW 8 rfl)
          have H := Lib.hid (show ∀ W', Ext W W' → K (fr (upd V 10 (idv g))) W' from fun W' he => hK _ W' ⟨upd V 10 (idv g), rfl, HV.up 10 _ (fun x hx => Option.some.inj hx), PdB.ext hB he⟩)
          clear hK hC hW hL HV
          have u8 : (upd V 10 (idv g)) 8 = .bool true := e8
          have HU := Lib.hid (show (upd V 10 (idv g)) 8 = .bool true from u8)
          clear u8
          rw [HFR.out]
          rw [e8]
          clear e8
          have HLn := Lib.hid hB.2.1
          clear hB
          go_wp2_with ((with_reducible refine wpList_load_id ?_ (.tmp 8) ?_ (g8) g ?_ ?_ ?_); (exact rfl); (exact rfl); (exact rfl); (exact HLn.out))
          show K _ _
          have := H.out _ (Ext.refl _)
          rw [HFR.out] at this
          obtain u8 := HU.out
          rw [u8] at this
          exact this
        · rintro L A W K hL hC hW ⟨V, rfl, HV, hB⟩ hK
          have e8 : V 8 = .bool true := HV 8 _ rfl (hW 8 rfl)
          have e9 : V 9 = idv f := HV 9 _ rfl (hW 9 rfl)
          have e10 : V 10 = idv g := HV 10 _ rfl (hW 10 rfl)
          have H := Lib.hid (show ∀ W', Ext W W' → K (fr (upd V 11 (.bool true))) W' from fun W' he => hK _ W' ⟨upd V 11 (.bool true), rfl, HV.up 11 _ (fun x hx => Option.some.inj hx), PdB.ext hB he⟩)
          clear hK hC hW hL HV
          have u8 : (upd V 11 (.bool true)) 8 = .bool true := e8
          have u9 : (upd V 11 (.bool true)) 9 = idv f := e9
          have u10 : (upd V 11 (.bool true)) 10 = idv g := e10
          have HU := Lib.hid (show (upd V 11 (.bool true)) 8 = .bool true ∧ (upd V 11 (.bool true)) 9 = idv f ∧ (upd V 11 (.bool true)) 10 = idv g from ⟨u8, u9, u10⟩)
          clear u8 u9 u10
          rw [HFR.out]
          rw [e8, e9, e10]
          clear e8 e9 e10
          go_wp2_with fail
          refine (HL1.out _).mono ?_
          rintro e wx ⟨rfl, he⟩
          go_wp2_with fail
          show K _ _
          have := H.out _ he
          rw [HFR.out] at this
          obtain ⟨u8, u9, u10⟩ := HU.out
          rw [u8, u9, u10] at this
          exact this
        · rintro L A W K hL hC hW ⟨V, rfl, HV, hB⟩ hK
          have e8 : V 8 = .bool true := HV 8 _ rfl (hW 8 rfl)
          have e11 : V 11 = .bool true := HV 11 _ rfl (hW 11 rfl)
          have H := Lib.hid (show ∀ W', Ext W W' → K (fr (upd V 12 (.bool true))) W' from fun W' he => hK _ W' ⟨upd V 12 (.bool true), rfl, HV.up 12 _ (fun x hx => Option.some.inj hx), PdB.ext hB he⟩)
          clear hK hC hW hL HV
          have u8 : (upd V 12 (.bool true)) 8 = .bool true := e8
          have u11 : (upd V 12 (.bool true)) 11 = .bool true := e11
          have HU := Lib.hid (show (upd V 12 (.bool true)) 8 = .bool true ∧ (upd V 12 (.bool true)) 11 = .bool true from ⟨u8, u11⟩)
          clear u8 u11
          rw [HFR.out]
          rw [e8, e11]
          clear e8 e11
          clear hB
          go_wp2_with fail
          show K _ _
          have := H.out _ (Ext.refl _)
          rw [HFR.out] at this
          obtain ⟨u8, u11⟩ := HU.out
          rw [u8, u11] at this
          exact this
        · rintro L A W K hL hC hW ⟨V, rfl, HV, hB⟩ hK
          have e12 : V 12 = .bool true := HV 12 _ rfl (hW 12 rfl)
          have H := Lib.hid (show ∀ W', Ext W W' → K (fr (upd V 13 (idv g))) W' from fun W' he => hK _ W' ⟨upd V 13 (idv g), rfl, HV.up 13 _ (fun x hx => Option.some.inj hx), PdB.ext hB he⟩)
          clear hK hC hW hL HV
          have u12 : (upd V 13 (idv g)) 12 = .bool true := e12
          have HU := Lib.hid (show (upd V 13 (idv g)) 12 = .bool true from u12)
          clear u12
          rw [HFR.out]
          rw [e12]
          clear e12
          have HLn := Lib.hid hB.2.1
          clear hB
          go_wp2_with ((with_reducible refine wpList_load_id ?_ (.tmp 8) ?_ (g8) g ?_ ?_ ?_); (exact rfl); (exact rfl); (exact rfl); (exact HLn.out))
          show K _ _
          have := H.out _ (Ext.refl _)
          rw [HFR.out] at this
          obtain u12 := HU.out
          rw [u12] at this
          exact this
        · rintro L A W K hL hC hW ⟨V, rfl, HV, hB⟩ hK
          have e12 : V 12 = .bool true := HV 12 _ rfl (hW 12 rfl)
          have H := Lib.hid (show ∀ W', Ext W W' → K (fr (upd V 14 (idv f))) W' from fun W' he => hK _ W' ⟨upd V 14 (idv f), rfl, HV.up 14 _ (fun x hx => Option.some.inj hx), PdB.ext hB he⟩)
          clear hK hC hW hL HV
          have u12 : (upd V 14 (idv f)) 12 = .bool true := e12
          have HU := Lib.hid (show (upd V 14 (idv f)) 12 = .bool true from u12)
          clear u12
          rw [HFR.out]
          rw [e12]
          clear e12
          have HLn := Lib.hid hB.1
          clear hB
          go_wp2_with ((with_reducible refine wpList_load_id ?_ (.tmp 7) ?_ (g7) f ?_ ?_ ?_); (exact rfl); (exact rfl); (exact rfl); (exact HLn.out))
          show K _ _
          have := H.out _ (Ext.refl _)
          rw [HFR.out] at this
          obtain u12 := HU.out
          rw [u12] at this
          exact this
        · rintro L A W K hL hC hW ⟨V, rfl, HV, hB⟩ hK
          have e12 : V 12 = .bool true := HV 12 _ rfl (hW 12 rfl)
          have e13 : V 13 = idv g := HV 13 _ rfl (hW 13 rfl)
          have e14 : V 14 = idv f := HV 14 _ rfl (hW 14 rfl)
          have H := Lib.hid (show ∀ W', Ext W W' → K (fr (upd V 15 (.bool false))) W' from fun W' he => hK _ W' ⟨upd V 15 (.bool false), rfl, HV.up 15 _ (fun x hx => Option.some.inj hx), PdB.ext hB he⟩)
          clear hK hC hW hL HV
          have u12 : (upd V 15 (.bool false)) 12 = .bool true := e12
          have u13 : (upd V 15 (.bool false)) 13 = idv g := e13
          have u14 : (upd V 15 (.bool false)) 14 = idv f := e14
          have HU := Lib.hid (show (upd V 15 (.bool false)) 12 = .bool true ∧ (upd V 15 (.bool false)) 13 = idv g ∧ (upd V 15 (.bool false)) 14 = idv f from ⟨u12, u13, u14⟩)
          clear u12 u13 u14
          rw [HFR.out]
          rw [e12, e13, e14]
          clear e12 e13 e14
          go_wp2_with fail
          refine (HL2.out _).mono ?_
          rintro e wx ⟨rfl, he⟩
          go_wp2_with fail
          show K _ _
          have := H.out _ he
          rw [HFR.out] at this
          obtain ⟨u12, u13, u14⟩ := HU.out
          rw [u12, u13, u14] at this
          exact this
        · rintro L A W K hL hC hW ⟨V, rfl, HV, hB⟩ hK
          have e8 : V 8 = .bool true := HV 8 _ rfl (hW 8 rfl)
          have e12 : V 12 = .bool true := HV 12 _ rfl (hW 12 rfl)
          have e15 : V 15 = .bool false := HV 15 _ rfl (hW 15 rfl)
          have H := Lib.hid (show ∀ W', Ext W W' → K (fr (upd V 16 (.bool false))) W' from fun W' he => hK _ W' ⟨upd V 16 (.bool false), rfl, HV.up 16 _ (fun x hx => Option.some.inj hx), PdB.ext hB he⟩)
          clear hK hC hW hL HV
          have u8 : (upd V 16 (.bool false)) 8 = .bool true := e8
          have u12 : (upd V 16 (.bool false)) 12 = .bool true := e12
          have u15 : (upd V 16 (.bool false)) 15 = .bool false := e15
          have HU := Lib.hid (show (upd V 16 (.bool false)) 8 = .bool true ∧ (upd V 16 (.bool false)) 12 = .bool true ∧ (upd V 16 (.bool false)) 15 = .bool false from ⟨u8, u12, u15⟩)
          clear u8 u12 u15
          rw [HFR.out]
          rw [e8, e12, e15]
          clear e8 e12 e15
          clear hB
          go_wp2_with fail
          show K _ _
          have := H.out _ (Ext.refl _)
          rw [HFR.out] at this
          obtain ⟨u8, u12, u15⟩ := HU.out
          rw [u8, u12, u15] at this
          exact this
        · rintro L A W K hL hC hW ⟨V, rfl, HV, hB⟩ hK
          have e8 : V 8 = .bool true := HV 8 _ rfl (hW 8 rfl)
          have e16 : V 16 = .bool false := HV 16 _ rfl (hW 16 rfl)
          have H := Lib.hid (show ∀ W', Ext W W' → K (fr (upd V 17 (.bool true))) W' from fun W' he => hK _ W' ⟨upd V 17 (.bool true), rfl, HV.up 17 _ (fun x hx => Option.some.inj hx), PdB.ext hB he⟩)
          clear hK hC hW hL HV
          have u8 : (upd V 17 (.bool true)) 8 = .bool true := e8
          have u16 : (upd V 17 (.bool true)) 16 = .bool false := e16
          have HU := Lib.hid (show (upd V 17 (.bool true)) 8 = .bool true ∧ (upd V 17 (.bool true)) 16 = .bool false from ⟨u8, u16⟩)
          clear u8 u16
          rw [HFR.out]
          rw [e8, e16]
          clear e8 e16
          clear hB
          go_wp2_with fail
          show K _ _
          have := H.out _ (Ext.refl _)
          rw [HFR.out] at this
          obtain ⟨u8, u16⟩ := HU.out
          rw [u8, u16] at this
          exact this
        · rintro L A W K hL hC hW ⟨V, rfl, HV, hB⟩ hK
          have e8 : V 8 = .bool true := HV 8 _ rfl (hW 8 rfl)
          have e17 : V 17 = .bool true := HV 17 _ rfl (hW 17 rfl)
          have H := Lib.hid (show ∀ W', Ext W W' → K (fr (upd V 18 (.bool true))) W' from fun W' he => hK _ W' ⟨upd V 18 (.bool true), rfl, HV.up 18 _ (fun x hx => Option.some.inj hx), PdB.ext hB he⟩)
          clear hK hC hW hL HV
          have u8 : (upd V 18 (.bool true)) 8 = .bool true := e8
          have u17 : (upd V 18 (.bool true)) 17 = .bool true := e17
          have HU := Lib.hid (show (upd V 18 (.bool true)) 8 = .bool true ∧ (upd V 18 (.bool true)) 17 = .bool true from ⟨u8, u17⟩)
          clear u8 u17
          rw [HFR.out]
          rw [e8, e17]
          clear e8 e17
          clear hB
          go_wp2_with fail
          show K _ _
          have := H.out _ (Ext.refl _)
          rw [HFR.out] at this
          obtain ⟨u8, u17⟩ := HU.out
          rw [u8, u17] at this
          exact this
        · rintro L A W K hL hC hW ⟨V, rfl, HV, hB⟩ hK
          have e18 : V 18 = .bool true := HV 18 _ rfl (hW 18 rfl)
          have H := Lib.hid (show ∀ W', Ext W W' → K (fr (upd V 19 (.bool true))) W' from fun W' he => hK _ W' ⟨upd V 19 (.bool true), rfl, HV.up 19 _ (fun x hx => Option.some.inj hx), PdB.ext hB he⟩)
          clear hK hC hW hL HV
          have u18 : (upd V 19 (.bool true)) 18 = .bool true := e18
          have HU := Lib.hid (show (upd V 19 (.bool true)) 18 = .bool true from u18)
          clear u18
          rw [HFR.out]
          rw [e18]
          clear e18
          clear hB
          go_wp2_with fail
          show K _ _
          have := H.out _ (Ext.refl _)
          rw [HFR.out] at this
          obtain u18 := HU.out
          rw [u18] at this
          exact this
        · rintro L A W K hL hC hW ⟨V, rfl, HV, hB⟩ hK
          have e19 : V 19 = .bool true := HV 19 _ rfl (hW 19 rfl)
          have H := Lib.hid (show ∀ W', Ext W W' → K (fr (upd V 20 (idv f))) W' from fun W' he => hK _ W' ⟨upd V 20 (idv f), rfl, HV.up 20 _ (fun x hx => Option.some.inj hx), PdB.ext hB he⟩)
          clear hK hC hW hL HV
          have u19 : (upd V 20 (idv f)) 19 = .bool true := e19
          have HU := Lib.hid (show (upd V 20 (idv f)) 19 = .bool true from u19)
          clear u19
          rw [HFR.out]
          rw [e19]
          clear e19
          have HLn := Lib.hid hB.1
          clear hB
          go_wp2_with ((with_reducible refine wpList_load_id ?_ (.tmp 7) ?_ (g7) f ?_ ?_ ?_); (exact rfl); (exact rfl); (exact rfl); (exact HLn.out))
          show K _ _
          have := H.out _ (Ext.refl _)
          rw [HFR.out] at this
          obtain u19 := HU.out
          rw [u19] at this
          exact this
        · rintro L A W K hL hC hW ⟨V, rfl, HV, hB⟩ hK
          have e19 : V 19 = .bool true := HV 19 _ rfl (hW 19 rfl)
          have H := Lib.hid (show ∀ W', Ext W W' → K (fr (upd V 21 (idv g))) W' from fun W' he => hK _ W' ⟨upd V 21 (idv g), rfl, HV.up 21 _ (fun x hx => Option.some.inj hx), PdB.ext hB he⟩)
          clear hK hC hW hL HV
          have u19 : (upd V 21 (idv g)) 19 = .bool true := e19
          have HU := Lib.hid (show (upd V 21 (idv g)) 19 = .bool true from u19)
          clear u19
          rw [HFR.out]
          rw [e19]
          clear e19
          have HLn := Lib.hid hB.2.1
          clear hB
          go_wp2_with ((with_reducible refine wpList_load_id ?_ (.tmp 8) ?_ (g8) g ?_ ?_ ?_); (exact rfl); (exact rfl); (exact rfl); (exact HLn.out))
          show K _ _
          have := H.out _ (Ext.refl _)
          rw [HFR.out] at this
          obtain u19 := HU.out
          rw [u19] at this
          exact this
        · rintro L A W K hL hC hW ⟨V, rfl, HV, hB⟩ hK
          have e19 : V 19 = .bool true := HV 19 _ rfl (hW 19 rfl)
          have e20 : V 20 = idv f := HV 20 _ rfl (hW 20 rfl)
          have e21 : V 21 = idv g := HV 21 _ rfl (hW 21 rfl)
          have H := Lib.hid (show ∀ W', Ext W W' → K (fr (upd V 22 (.bool false))) W' from fun W' he => hK _ W' ⟨upd V 22 (.bool false), rfl, HV.up 22 _ (fun x hx => Option.some.inj hx), PdB.ext hB he⟩)
          clear hK hC hW hL HV
          have u19 : (upd V 22 (.bool false)) 19 = .bool true := e19
          have u20 : (upd V 22 (.bool false)) 20 = idv f := e20
          have u21 : (upd V 22 (.bool false)) 21 = idv g := e21
          have HU := Lib.hid (show (upd V 22 (.bool false)) 19 = .bool true ∧ (upd V 22 (.bool false)) 20 = idv f ∧ (upd V 22 (.bool false)) 21 = idv g from ⟨u19, u20, u21⟩)
          clear u19 u20 u21
          rw [HFR.out]
          rw [e19, e20, e21]
          clear e19 e20 e21
          clear hB
          go_wp2_with ((with_reducible refine wpList_eql_id ?_ (.tmp 94) (.tmp 95) ?_ f g false ?_ ?_ HEQ.out ?_); (exact rfl); (exact rfl); (exact rfl); (exact rfl))
          show K _ _
          have := H.out _ (Ext.refl _)
          rw [HFR.out] at this
          obtain ⟨u19, u20, u21⟩ := HU.out
          rw [u19, u20, u21] at this
          exact this
        · rintro L A W K hL hC hW ⟨V, rfl, HV, hB⟩ hK
          have e19 : V 19 = .bool true := HV 19 _ rfl (hW 19 rfl)
          have H := Lib.hid (show ∀ W', Ext W W' → K (fr (upd V 23 (idv f))) W' from fun W' he => hK _ W' ⟨upd V 23 (idv f), rfl, HV.up 23 _ (fun x hx => Option.some.inj hx), PdB.ext hB he⟩)
          clear hK hC hW hL HV
          have u19 : (upd V 23 (idv f)) 19 = .bool true := e19
          have HU := Lib.hid (show (upd V 23 (idv f)) 19 = .bool true from u19)
          clear u19
          rw [HFR.out]
          rw [e19]
          clear e19
          have HLn := Lib.hid hB.1
          clear hB
          go_wp2_with ((with_reducible refine wpList_load_id ?_ (.tmp 7) ?_ (g7) f ?_ ?_ ?_); (exact rfl); (exact rfl); (exact rfl); (exact HLn.out))
          show K _ _
          have := H.out _ (Ext.refl _)
          rw [HFR.out] at this
          obtain u19 := HU.out
          rw [u19] at this
          exact this
        · rintro L A W K hL hC hW ⟨V, rfl, HV, hB⟩ hK
          have e19 : V 19 = .bool true := HV 19 _ rfl (hW 19 rfl)
          have H := Lib.hid (show ∀ W', Ext W W' → K (fr (upd V 24 (idv g))) W' from fun W' he => hK _ W' ⟨upd V 24 (idv g), rfl, HV.up 24 _ (fun x hx => Option.some.inj hx), PdB.ext hB he⟩)
          clear hK hC hW hL HV
          have u19 : (upd V 24 (idv g)) 19 = .bool true := e19
          have HU := Lib.hid (show (upd V 24 (idv g)) 19 = .bool true from u19)
          clear u19
          rw [HFR.out]
          rw [e19]
          clear e19
          have HLn := Lib.hid hB.2.1
          clear hB
          go_wp2_with ((with_reducible refine wpList_load_id ?_ (.tmp 8) ?_ (g8) g ?_ ?_ ?_); (exact rfl); (exact rfl); (exact rfl); (exact HLn.out))
          show K _ _
          have := H.out _ (Ext.refl _)
          rw [HFR.out] at this
          obtain u19 := HU.out
          rw [u19] at this
          exact this
        · rintro L A W K hL hC hW ⟨V, rfl, HV, hB⟩ hK
          have e19 : V 19 = .bool true := HV 19 _ rfl (hW 19 rfl)
          have e23 : V 23 = idv f := HV 23 _ rfl (hW 23 rfl)
          have e24 : V 24 = idv g := HV 24 _ rfl (hW 24 rfl)
          have H := Lib.hid (show ∀ W', Ext W W' → K (fr (upd V 25 (.bool true))) W' from fun W' he => hK _ W' ⟨upd V 25 (.bool true), rfl, HV.up 25 _ (fun x hx => Option.some.inj hx), PdB.ext hB he⟩)
          clear hK hC hW hL HV
          have u19 : (upd V 25 (.bool true)) 19 = .bool true := e19
          have u23 : (upd V 25 (.bool true)) 23 = idv f := e23
          have u24 : (upd V 25 (.bool true)) 24 = idv g := e24
          have HU := Lib.hid (show (upd V 25 (.bool true)) 19 = .bool true ∧ (upd V 25 (.bool true)) 23 = idv f ∧ (upd V 25 (.bool true)) 24 = idv g from ⟨u19, u23, u24⟩)
          clear u19 u23 u24
          rw [HFR.out]
          rw [e19, e23, e24]
          clear e19 e23 e24
          go_wp2_with fail
          refine (HL1.out _).mono ?_
          rintro e wx ⟨rfl, he⟩
          go_wp2_with fail
          show K _ _
          have := H.out _ he
          rw [HFR.out] at this
          obtain ⟨u19, u23, u24⟩ := HU.out
          rw [u19, u23, u24] at this
          exact this
        · rintro L A W K hL hC hW ⟨V, rfl, HV, hB⟩ hK
          have e19 : V 19 = .bool true := HV 19 _ rfl (hW 19 rfl)
          have e25 : V 25 = .bool true := HV 25 _ rfl (hW 25 rfl)
          have H := Lib.hid (show ∀ W', Ext W W' → K (fr (upd V 26 (.bool false))) W' from fun W' he => hK _ W' ⟨upd V 26 (.bool false), rfl, HV.up 26 _ (fun x hx => Option.some.inj hx), PdB.ext hB he⟩)
          clear hK hC hW hL HV
          have u19 : (upd V 26 (.bool false)) 19 = .bool true := e19
          have u25 : (upd V 26 (.bool false)) 25 = .bool true := e25
          have HU := Lib.hid (show (upd V 26 (.bool false)) 19 = .bool true ∧ (upd V 26 (.bool false)) 25 = .bool true from ⟨u19, u25⟩)
          clear u19 u25
          rw [HFR.out]
          rw [e19, e25]
          clear e19 e25
          clear hB
          go_wp2_with fail
          show K _ _
          have := H.out _ (Ext.refl _)
          rw [HFR.out] at this
          obtain ⟨u19, u25⟩ := HU.out
          rw [u19, u25] at this
          exact this
        · rintro L A W K hL hC hW ⟨V, rfl, HV, hB⟩ hK
          have e19 : V 19 = .bool true := HV 19 _ rfl (hW 19 rfl)
          have e26 : V 26 = .bool false := HV 26 _ rfl (hW 26 rfl)
          have H := Lib.hid (show ∀ W', Ext W W' → K (fr (upd V 27 (.bool false))) W' from fun W' he => hK _ W' ⟨upd V 27 (.bool false), rfl, HV.up 27 _ (fun x hx => Option.some.inj hx), PdB.ext hB he⟩)
          clear hK hC hW hL HV
          have u19 : (upd V 27 (.bool false)) 19 = .bool true := e19
          have u26 : (upd V 27 (.bool false)) 26 = .bool false := e26
          have HU := Lib.hid (show (upd V 27 (.bool false)) 19 = .bool true ∧ (upd V 27 (.bool false)) 26 = .bool false from ⟨u19, u26⟩)
          clear u19 u26
          rw [HFR.out]
          rw [e19, e26]
          clear e19 e26
          clear hB
          go_wp2_with fail
          show K _ _
          have := H.out _ (Ext.refl _)
          rw [HFR.out] at this
          obtain ⟨u19, u26⟩ := HU.out
          rw [u19, u26] at this
          exact this
        · rintro L A W K hL hC hW ⟨V, rfl, HV, hB⟩ hK
          have e27 : V 27 = .bool false := HV 27 _ rfl (hW 27 rfl)
          have H := Lib.hid (show ∀ W', Ext W W' → K (fr (upd V 28 (undef))) W' from fun W' he => hK _ W' ⟨upd V 28 (undef), rfl, HV.up 28 _ (fun x hx => Option.some.inj hx), PdB.ext hB he⟩)
          clear hK hC hW hL HV
          have u27 : (upd V 28 (undef)) 27 = .bool false := e27
          have HU := Lib.hid (show (upd V 28 (undef)) 27 = .bool false from u27)
          clear u27
          rw [HFR.out]
          rw [e27]
          clear e27
          clear hB
          go_wp2_with fail
          show K _ _
          have := H.out _ (Ext.refl _)
          rw [HFR.out] at this
          obtain u27 := HU.out
          rw [u27] at this
          exact this
        · rintro L A W K hL hC hW ⟨V, rfl, HV, hB⟩ hK
          have e27 : V 27 = .bool false := HV 27 _ rfl (hW 27 rfl)
          have H := Lib.hid (show ∀ W', Ext W W' → K (fr (upd V 29 (undef))) W' from fun W' he => hK _ W' ⟨upd V 29 (undef), rfl, HV.up 29 _ (fun x hx => Option.some.inj hx), PdB.ext hB he⟩)
          clear hK hC hW hL HV
          have u27 : (upd V 29 (undef)) 27 = .bool false := e27
          have HU := Lib.hid (show (upd V 29 (undef)) 27 = .bool false from u27)
          clear u27
          rw [HFR.out]
          rw [e27]
          clear e27
          clear hB
          go_wp2_with fail
          show K _ _
          have := H.out _ (Ext.refl _)
          rw [HFR.out] at this
          obtain u27 := HU.out
          rw [u27] at this
          exact this
        · rintro L A W K hL hC hW ⟨V, rfl, HV, hB⟩ hK
          have e27 : V 27 = .bool false := HV 27 _ rfl (hW 27 rfl)
          have e28 : V 28 = undef := HV 28 _ rfl (hW 28 rfl)
          have e29 : V 29 = undef := HV 29 _ rfl (hW 29 rfl)
          have H := Lib.hid (show ∀ W', Ext W W' → K (fr (upd V 30 (undef))) W' from fun W' he => hK _ W' ⟨upd V 30 (undef), rfl, HV.up 30 _ (fun x hx => Option.some.inj hx), PdB.ext hB he⟩)
          clear hK hC hW hL HV
          have u27 : (upd V 30 (undef)) 27 = .bool false := e27
          have u28 : (upd V 30 (undef)) 28 = undef := e28
          have u29 : (upd V 30 (undef)) 29 = undef := e29
          have HU := Lib.hid (show (upd V 30 (undef)) 27 = .bool false ∧ (upd V 30 (undef)) 28 = undef ∧ (upd V 30 (undef)) 29 = undef from ⟨u27, u28, u29⟩)
          clear u27 u28 u29
          rw [HFR.out]
          rw [e27, e28, e29]
          clear e27 e28 e29
          clear hB
          go_wp2_with fail
          show K _ _
          have := H.out _ (Ext.refl _)
          rw [HFR.out] at this
          obtain ⟨u27, u28, u29⟩ := HU.out
          rw [u27, u28, u29] at this
          exact this
        · rintro L A W K hL hC hW ⟨V, rfl, HV, hB⟩ hK
          have e27 : V 27 = .bool false := HV 27 _ rfl (hW 27 rfl)
          have e30 : V 30 = undef := HV 30 _ rfl (hW 30 rfl)
          have H := Lib.hid (show ∀ W', Ext W W' → K (fr (upd V 31 (undef))) W' from fun W' he => hK _ W' ⟨upd V 31 (undef), rfl, HV.up 31 _ (fun x hx => Option.some.inj hx), PdB.ext hB he⟩)
          clear hK hC hW hL HV
          have u27 : (upd V 31 (undef)) 27 = .bool false := e27
          have u30 : (upd V 31 (undef)) 30 = undef := e30
          have HU := Lib.hid (show (upd V 31 (undef)) 27 = .bool false ∧ (upd V 31 (undef)) 30 = undef from ⟨u27, u30⟩)
          clear u27 u30
          rw [HFR.out]
          rw [e27, e30]
          clear e27 e30
          clear hB
          go_wp2_with fail
          show K _ _
          have := H.out _ (Ext.refl _)
          rw [HFR.out] at this
          obtain ⟨u27, u30⟩ := HU.out
          rw [u27, u30] at this
          exact this
        · rintro L A W K hL hC hW ⟨V, rfl, HV, hB⟩ hK
          have e19 : V 19 = .bool true := HV 19 _ rfl (hW 19 rfl)
          have e27 : V 27 = .bool false := HV 27 _ rfl (hW 27 rfl)
          have e31 : V 31 = undef := HV 31 _ rfl (hW 31 rfl)
          have H := Lib.hid (show ∀ W', Ext W W' → K (fr (upd V 32 (.bool false))) W' from fun W' he => hK _ W' ⟨upd V 32 (.bool false), rfl, HV.up 32 _ (fun x hx => Option.some.inj hx), PdB.ext hB he⟩)
          clear hK hC hW hL HV
          have u19 : (upd V 32 (.bool false)) 19 = .bool true := e19
          have u27 : (upd V 32 (.bool false)) 27 = .bool false := e27
          have u31 : (upd V 32 (.bool false)) 31 = undef := e31
          have HU := Lib.hid (show (upd V 32 (.bool false)) 19 = .bool true ∧ (upd V 32 (.bool false)) 27 = .bool false ∧ (upd V 32 (.bool false)) 31 = undef from ⟨u19, u27, u31⟩)
          clear u19 u27 u31
          rw [HFR.out]
          rw [e19, e27, e31]
          clear e19 e27 e31
          clear hB
          go_wp2_with fail
          show K _ _
          have := H.out _ (Ext.refl _)
          rw [HFR.out] at this
          obtain ⟨u19, u27, u31⟩ := HU.out
          rw [u19, u27, u31] at this
          exact this
        · rintro L A W K hL hC hW ⟨V, rfl, HV, hB⟩ hK
          have e19 : V 19 = .bool true := HV 19 _ rfl (hW 19 rfl)
          have e22 : V 22 = .bool false := HV 22 _ rfl (hW 22 rfl)
          have e32 : V 32 = .bool false := HV 32 _ rfl (hW 32 rfl)
          have H := Lib.hid (show ∀ W', Ext W W' → K (fr (upd V 33 (.bool true))) W' from fun W' he => hK _ W' ⟨upd V 33 (.bool true), rfl, HV.up 33 _ (fun x hx => Option.some.inj hx), PdB.ext hB he⟩)
          clear hK hC hW hL HV
          have u19 : (upd V 33 (.bool true)) 19 = .bool true := e19
          have u22 : (upd V 33 (.bool true)) 22 = .bool false := e22
          have u32 : (upd V 33 (.bool true)) 32 = .bool false := e32
          have HU := Lib.hid (show (upd V 33 (.bool true)) 19 = .bool true ∧ (upd V 33 (.bool true)) 22 = .bool false ∧ (upd V 33 (.bool true)) 32 = .bool false from ⟨u19, u22, u32⟩)
          clear u19 u22 u32
          rw [HFR.out]
          rw [e19, e22, e32]
          clear e19 e22 e32
          clear hB
          go_wp2_with fail
          show K _ _
          have := H.out _ (Ext.refl _)
          rw [HFR.out] at this
          obtain ⟨u19, u22, u32⟩ := HU.out
          rw [u19, u22, u32] at this
          exact this
        · rintro L A W K hL hC hW ⟨V, rfl, HV, hB⟩ hK
          have e19 : V 19 = .bool true := HV 19 _ rfl (hW 19 rfl)
          have e33 : V 33 = .bool true := HV 33 _ rfl (hW 33 rfl)
          have H := Lib.hid (show ∀ W', Ext W W' → K (fr (upd V 34 (.bool true))) W' from fun W' he => hK _ W' ⟨upd V 34 (.bool true), rfl, HV.up 34 _ (fun x hx => Option.some.inj hx), PdB.ext hB he⟩)
          clear hK hC hW hL HV
          have u19 : (upd V 34 (.bool true)) 19 = .bool true := e19
          have u33 : (upd V 34 (.bool true)) 33 = .bool true := e33
          have HU := Lib.hid (show (upd V 34 (.bool true)) 19 = .bool true ∧ (upd V 34 (.bool true)) 33 = .bool true from ⟨u19, u33⟩)
          clear u19 u33
          rw [HFR.out]
          rw [e19, e33]
          clear e19 e33
          clear hB
          go_wp2_with fail
          show K _ _
          have := H.out _ (Ext.refl _)
          rw [HFR.out] at this
          obtain ⟨u19, u33⟩ := HU.out
          rw [u19, u33] at this
          exact this
        · rintro L A W K hL hC hW ⟨V, rfl, HV, hB⟩ hK
          have e34 : V 34 = .bool true := HV 34 _ rfl (hW 34 rfl)
          have H := Lib.hid (show ∀ W', Ext W W' → K (fr (upd V 35 (.bool true))) W' from fun W' he => hK _ W' ⟨upd V 35 (.bool true), rfl, HV.up 35 _ (fun x hx => Option.some.inj hx), PdB.ext hB he⟩)
          clear hK hC hW hL HV
          have u34 : (upd V 35 (.bool true)) 34 = .bool true := e34
          have HU := Lib.hid (show (upd V 35 (.bool true)) 34 = .bool true from u34)
          clear u34
          rw [HFR.out]
          rw [e34]
          clear e34
          clear hB
          go_wp2_with fail
          show K _ _
          have := H.out _ (Ext.refl _)
          rw [HFR.out] at this
          obtain u34 := HU.out
          rw [u34] at this
          exact this
        · rintro L A W hL ⟨V, rfl, HV, hB⟩
          have e0 : V 0 = idv f := HV 0 _ rfl (hL 0 (by simp))
          have e1 : V 1 = idv g := HV 1 _ rfl (hL 1 (by simp))
          have e2 : V 2 = .bool true := HV 2 _ rfl (hL 2 (by simp))
          have e3 : V 3 = .string tx := HV 3 _ rfl (hL 3 (by simp))
          have e4 : V 4 = idv g := HV 4 _ rfl (hL 4 (by simp))
          have e5 : V 5 = .string ty := HV 5 _ rfl (hL 5 (by simp))
          have e6 : V 6 = .bool true := HV 6 _ rfl (hL 6 (by simp))
          have e7 : V 7 = .bool true := HV 7 _ rfl (hL 7 (by simp))
          have e8 : V 8 = .bool true := HV 8 _ rfl (hL 8 (by simp))
          have e9 : V 9 = idv f := HV 9 _ rfl (hL 9 (by simp))
          have e10 : V 10 = idv g := HV 10 _ rfl (hL 10 (by simp))
          have e11 : V 11 = .bool true := HV 11 _ rfl (hL 11 (by simp))
          have e12 : V 12 = .bool true := HV 12 _ rfl (hL 12 (by simp))
          have e13 : V 13 = idv g := HV 13 _ rfl (hL 13 (by simp))
          have e14 : V 14 = idv f := HV 14 _ rfl (hL 14 (by simp))
          have e15 : V 15 = .bool false := HV 15 _ rfl (hL 15 (by simp))
          have e16 : V 16 = .bool false := HV 16 _ rfl (hL 16 (by simp))
          have e17 : V 17 = .bool true := HV 17 _ rfl (hL 17 (by simp))
          have e18 : V 18 = .bool true := HV 18 _ rfl (hL 18 (by simp))
          have e19 : V 19 = .bool true := HV 19 _ rfl (hL 19 (by simp))
          have e20 : V 20 = idv f := HV 20 _ rfl (hL 20 (by simp))
          have e21 : V 21 = idv g := HV 21 _ rfl (hL 21 (by simp))
          have e22 : V 22 = .bool false := HV 22 _ rfl (hL 22 (by simp))
          have e23 : V 23 = idv f := HV 23 _ rfl (hL 23 (by simp))
          have e24 : V 24 = idv g := HV 24 _ rfl (hL 24 (by simp))
          have e25 : V 25 = .bool true := HV 25 _ rfl (hL 25 (by simp))
          have e26 : V 26 = .bool false := HV 26 _ rfl (hL 26 (by simp))
          have e27 : V 27 = .bool false := HV 27 _ rfl (hL 27 (by simp))
          have e28 : V 28 = undef := HV 28 _ rfl (hL 28 (by simp))
          have e29 : V 29 = undef := HV 29 _ rfl (hL 29 (by simp))
          have e30 : V 30 = undef := HV 30 _ rfl (hL 30 (by simp))
          have e31 : V 31 = undef := HV 31 _ rfl (hL 31 (by simp))
          have e32 : V 32 = .bool false := HV 32 _ rfl (hL 32 (by simp))
          have e33 : V 33 = .bool true := HV 33 _ rfl (hL 33 (by simp))
          have e34 : V 34 = .bool true := HV 34 _ rfl (hL 34 (by simp))
          have e35 : V 35 = .bool true := HV 35 _ rfl (hL 35 (by simp))
          rw [HFR.out]
          rw [e0, e1, e2, e3, e4, e5, e6, e7, e8, e9, e10, e11, e12, e13, e14, e15, e16, e17, e18, e19, e20, e21, e22, e23, e24, e25, e26, e27, e28, e29, e30, e31, e32, e33, e34, e35]
          clear hL HV HFR e0 e1 e2 e3 e4 e5 e6 e7 e8 e9 e10 e11 e12 e13 e14 e15 e16 e17 e18 e19 e20 e21 e22 e23 e24 e25 e26 e27 e28 e29 e30 e31 e32 e33 e34 e35
          go_wp2_with fail
          go_ret
          exact ⟨rfl, hB.2.2⟩
    | false =>
      cases x2 with
      | true =>
        have HEQ := Lib.hid (show same32 f g = false by rw [hsm]; rfl)
        clear hb12 hsm
        refine wp_named fun a0 ha0 => ?_
        obtain ⟨fr, hfr⟩ : ∃ fr : (Nat → Value) → Act, ∀ V, fr V = ((((((((((((((((((((((((((((((((((((a0.put (some 74) (V 0)).put (some 75) (V 1)).put (some 76) (V 2)).put (some 77) (V 3)).put (some 78) (V 4)).put (some 79) (V 5)).put (some 80) (V 6)).put (some 81) (V 7)).put (some 82) (V 8)).put (some 83) (V 9)).put (some 84) (V 10)).put (some 85) (V 11)).put (some 86) (V 12)).put (some 87) (V 13)).put (some 88) (V 14)).put (some 89) (V 15)).put (some 90) (V 16)).put (some 91) (V 17)).put (some 92) (V 18)).put (some 93) (V 19)).put (some 94) (V 20)).put (some 95) (V 21)).put (some 96) (V 22)).put (some 97) (V 23)).put (some 98) (V 24)).put (some 99) (V 25)).put (some 100) (V 26)).put (some 101) (V 27)).put (some 102) (V 28)).put (some 103) (V 29)).put (some 104) (V 30)).put (some 105) (V 31)).put (some 106) (V 32)).put (some 107) (V 33)).put (some 108) (V 34)).put (some 6) (V 35)) := ⟨fun V => ((((((((((((((((((((((((((((((((((((a0.put (some 74) (V 0)).put (some 75) (V 1)).put (some 76) (V 2)).put (some 77) (V 3)).put (some 78) (V 4)).put (some 79) (V 5)).put (some 80) (V 6)).put (some 81) (V 7)).put (some 82) (V 8)).put (some 83) (V 9)).put (some 84) (V 10)).put (some 85) (V 11)).put (some 86) (V 12)).put (some 87) (V 13)).put (some 88) (V 14)).put (some 89) (V 15)).put (some 90) (V 16)).put (some 91) (V 17)).put (some 92) (V 18)).put (some 93) (V 19)).put (some 94) (V 20)).put (some 95) (V 21)).put (some 96) (V 22)).put (some 97) (V 23)).put (some 98) (V 24)).put (some 99) (V 25)).put (some 100) (V 26)).put (some 101) (V 27)).put (some 102) (V 28)).put (some 103) (V 29)).put (some 104) (V 30)).put (some 105) (V 31)).put (some 106) (V 32)).put (some 107) (V 33)).put (some 108) (V 34)).put (some 6) (V 35)), fun _ => rfl⟩
        rw [ha0] at hfr
        simp only [Act.put, List.setIfInBounds_toArray, List.set_cons_zero, List.set_cons_succ] at hfr
        have HFR := Lib.hid hfr
        clear hfr
        refine wp_region_inv (by kernel_rfl) (by kernel_rfl) (fun L A W => ∃ V : Nat → Value, A = fr V ∧ Vals (fun j => ([some (idv f), some (idv g), some (.bool false), some (.string tx), some (idv g), some (.string ty), some (.bool false), some (.bool true), some (.bool true), some (idv f), some (idv g), some (.bool false), some (.bool false), some (undef), some (undef), some (undef), some (.bool false), some (.bool true), some (.bool true), some (.bool true), some (idv f), some (idv g), some (.bool false), some (idv f), some (idv g), some (.bool false), some (.bool true), some (.bool true), some (idv g), some (idv f), some (.bool true), some (.bool false), some (.bool false), some (.bool true), some (.bool true), some (.bool true)] : List (Option Value)).getD j none) L V ∧ PdB w g7 g8 f g W) ?_ ⟨?_, ?_, ?_, ?_, ?_, ?_, ?_, ?_, ?_, ?_, ?_, ?_, ?_, ?_, ?_, ?_, ?_, ?_, ?_, ?_, ?_, ?_, ?_, ?_, ?_, ?_, ?_, ?_, ?_, ?_, ?_, ?_, ?_, ?_, ?_, ?_, trivial⟩ ?_
        · refine ⟨fun j => a0.tmps.getD (([74, 75, 76, 77, 78, 79, 80, 81, 82, 83, 84, 85, 86, 87, 88, 89, 90, 91, 92, 93, 94, 95, 96, 97, 98, 99, 100, 101, 102, 103, 104, 105, 106, 107, 108, 6] : List Nat).getD j 0) undef, ?_, Vals.no _ _ _ (far_none _ _ rfl), HB0.out.drew⟩
          rw [HFR.out, ha0]
          rfl
        all_goals clear ha0
        · rintro L A W K hL hC hW ⟨V, rfl, HV, hB⟩ hK
          have H := Lib.hid (show ∀ W', Ext W W' → K (fr (upd V 0 (idv f))) W' from fun W' he => hK _ W' ⟨upd V 0 (idv f), rfl, HV.up 0 _ (fun x hx => Option.some.inj hx), PdB.ext hB he⟩)
          clear hK hC hW hL HV
          rw [HFR.out]
          have HLn := Lib.hid hB.1
          clear hB
          go_wp2_with ((with_reducible refine wpList_load_id ?_ (.tmp 7) ?_ (g7) f ?_ ?_ ?_); (exact rfl); (exact rfl); (exact rfl); (exact HLn.out))
          show K _ _
          have := H.out _ (Ext.refl _)
          rw [HFR.out] at this
          exact this
        · rintro L A W K hL hC hW ⟨V, rfl, HV, hB⟩ hK
          have H := Lib.hid (show ∀ W', Ext W W' → K (fr (upd V 1 (idv g))) W' from fun W' he => hK _ W' ⟨upd V 1 (idv g), rfl, HV.up 1 _ (fun x hx => Option.some.inj hx), PdB.ext hB he⟩)
          clear hK hC hW hL HV
          rw [HFR.out]
          have HLn := Lib.hid hB.2.1
          clear hB
          go_wp2_with ((with_reducible refine wpList_load_id ?_ (.tmp 8) ?_ (g8) g ?_ ?_ ?_); (exact rfl); (exact rfl); (exact rfl); (exact HLn.out))
          show K _ _
          have := H.out _ (Ext.refl _)
          rw [HFR.out] at this
          exact this
        · rintro L A W K hL hC hW ⟨V, rfl, HV, hB⟩ hK
          have e0 : V 0 = idv f := HV 0 _ rfl (hW 0 rfl)
          have e1 : V 1 = idv g := HV 1 _ rfl (hW 1 rfl)
          have H := Lib.hid (show ∀ W', Ext W W' → K (fr (upd V 2 (.bool false))) W' from fun W' he => hK _ W' ⟨upd V 2 (.bool false), rfl, HV.up 2 _ (fun x hx => Option.some.inj hx), PdB.ext hB he⟩)
          clear hK hC hW hL HV
          have u0 : (upd V 2 (.bool false)) 0 = idv f := e0
          have u1 : (upd V 2 (.bool false)) 1 = idv g := e1
          have HU := Lib.hid (show (upd V 2 (.bool false)) 0 = idv f ∧ (upd V 2 (.bool false)) 1 = idv g from ⟨u0, u1⟩)
          clear u0 u1
          rw [HFR.out]
          rw [e0, e1]
          clear e0 e1
          go_wp2_with fail
          refine (HL1.out _).mono ?_
          rintro e wx ⟨rfl, he⟩
          go_wp2_with fail
          show K _ _
          have := H.out _ he
          rw [HFR.out] at this
          obtain ⟨u0, u1⟩ := HU.out
          rw [u0, u1] at this
          exact this
        · rintro L A W K hL hC hW ⟨V, rfl, HV, hB⟩ hK
          have H := Lib.hid (show ∀ W', Ext W W' → K (fr (upd V 3 (.string tx))) W' from fun W' he => hK _ W' ⟨upd V 3 (.string tx), rfl, HV.up 3 _ (fun x hx => Option.some.inj hx), PdB.ext hB he⟩)
          clear hK hC hW hL HV
          rw [HFR.out]
          clear hB
          go_wp2_with fail
          show K _ _
          have := H.out _ (Ext.refl _)
          rw [HFR.out] at this
          exact this
        · rintro L A W K hL hC hW ⟨V, rfl, HV, hB⟩ hK
          have H := Lib.hid (show ∀ W', Ext W W' → K (fr (upd V 4 (idv g))) W' from fun W' he => hK _ W' ⟨upd V 4 (idv g), rfl, HV.up 4 _ (fun x hx => Option.some.inj hx), PdB.ext hB he⟩)
          clear hK hC hW hL HV
          rw [HFR.out]
          have HLn := Lib.hid hB.2.1
          clear hB
          go_wp2_with ((with_reducible refine wpList_load_id ?_ (.tmp 8) ?_ (g8) g ?_ ?_ ?_); (exact rfl); (exact rfl); (exact rfl); (exact HLn.out))
          show K _ _
          have := H.out _ (Ext.refl _)
          rw [HFR.out] at this
          exact this
        · rintro L A W K hL hC hW ⟨V, rfl, HV, hB⟩ hK
          have e4 : V 4 = idv g := HV 4 _ rfl (hW 4 rfl)
          have H := Lib.hid (show ∀ W', Ext W W' → K (fr (upd V 5 (.string ty))) W' from fun W' he => hK _ W' ⟨upd V 5 (.string ty), rfl, HV.up 5 _ (fun x hx => Option.some.inj hx), PdB.ext hB he⟩)
          clear hK hC hW hL HV
          have u4 : (upd V 5 (.string ty)) 4 = idv g := e4
          have HU := Lib.hid (show (upd V 5 (.string ty)) 4 = idv g from u4)
          clear u4
          rw [HFR.out]
          rw [e4]
          clear e4
          go_wp2_with fail
          refine (HTY.out _).mono ?_
          rintro e wx ⟨rfl, he⟩
          go_wp2_with fail
          show K _ _
          have := H.out _ he
          rw [HFR.out] at this
          obtain u4 := HU.out
          rw [u4] at this
          exact this
        · rintro L A W K hL hC hW ⟨V, rfl, HV, hB⟩ hK
          have e3 : V 3 = .string tx := HV 3 _ rfl (hW 3 rfl)
          have e5 : V 5 = .string ty := HV 5 _ rfl (hW 5 rfl)
          have H := Lib.hid (show ∀ W', Ext W W' → K (fr (upd V 6 (.bool false))) W' from fun W' he => hK _ W' ⟨upd V 6 (.bool false), rfl, HV.up 6 _ (fun x hx => Option.some.inj hx), PdB.ext hB he⟩)
          clear hK hC hW hL HV
          have u3 : (upd V 6 (.bool false)) 3 = .string tx := e3
          have u5 : (upd V 6 (.bool false)) 5 = .string ty := e5
          have HU := Lib.hid (show (upd V 6 (.bool false)) 3 = .string tx ∧ (upd V 6 (.bool false)) 5 = .string ty from ⟨u3, u5⟩)
          clear u3 u5
          rw [HFR.out]
          rw [e3, e5]
          clear e3 e5
          have hls := HTL.out
          clear hB
          go_wp2_with fail
          show K _ _
          have := H.out _ (Ext.refl _)
          rw [HFR.out] at this
          obtain ⟨u3, u5⟩ := HU.out
          rw [u3, u5] at this
          exact this
        · rintro L A W K hL hC hW ⟨V, rfl, HV, hB⟩ hK
          have e2 : V 2 = .bool false := HV 2 _ rfl (hW 2 rfl)
          have e6 : V 6 = .bool false := HV 6 _ rfl (hW 6 rfl)
          have H := Lib.hid (show ∀ W', Ext W W' → K (fr (upd V 7 (.bool true))) W' from fun W' he => hK _ W' ⟨upd V 7 (.bool true), rfl, HV.up 7 _ (fun x hx => Option.some.inj hx), PdB.ext hB he⟩)
          clear hK hC hW hL HV
          have u2 : (upd V 7 (.bool true)) 2 = .bool false := e2
          have u6 : (upd V 7 (.bool true)) 6 = .bool false := e6
          have HU := Lib.hid (show (upd V 7 (.bool true)) 2 = .bool false ∧ (upd V 7 (.bool true)) 6 = .bool false from ⟨u2, u6⟩)
          clear u2 u6
          rw [HFR.out]
          rw [e2, e6]
          clear e2 e6
          clear hB
          go_wp2_with fail
          show K _ _
          have := H.out _ (Ext.refl _)
          rw [HFR.out] at this
          obtain ⟨u2, u6⟩ := HU.out
          rw [u2, u6] at this
          exact this
        · rintro L A W K hL hC hW ⟨V, rfl, HV, hB⟩ hK
          have e7 : V 7 = .bool true := HV 7 _ rfl (hW 7 rfl)
          have H := Lib.hid (show ∀ W', Ext W W' → K (fr (upd V 8 (.bool true))) W' from fun W' he => hK _ W' ⟨upd V 8 (.bool true), rfl, HV.up 8 _ (fun x hx => Option.some.inj hx), PdB.ext hB he⟩)
          clear hK hC hW hL HV
          have u7 : (upd V 8 (.bool true)) 7 = .bool true := e7
          have HU := Lib.hid (show (upd V 8 (.bool true)) 7 = .bool true from u7)
          clear u7
          rw [HFR.out]
          rw [e7]
          clear e7
          clear hB
          go_wp2_with fail
          show K _ _
          have := H.out _ (Ext.refl _)
          rw [HFR.out] at this
          obtain u7 := HU.out
          rw [u7] at this
          exact this
        · rintro L A W K hL hC hW ⟨V, rfl, HV, hB⟩ hK
          have e8 : V 8 = .bool true := HV 8 _ rfl (hW 8 rfl)
          have H := Lib.hid (show ∀ W', Ext W W' → K (fr (upd V 9 (idv f))) W' from fun W' he => hK _ W' ⟨upd V 9 (idv f), rfl, HV.up 9 _ (fun x hx => Option.some.inj hx), PdB.ext hB he⟩)
          clear hK hC hW hL HV
          have u8 : (upd V 9 (idv f)) 8 = .bool true := e8
          have HU := Lib.hid (show (upd V 9 (idv f)) 8 = .bool true from u8)
          clear u8
          rw [HFR.out]
          rw [e8]
          clear e8
          have HLn := Lib.hid hB.1
          clear hB
          go_wp2_with ((with_reducible refine wpList_load_id ?_ (.tmp 7) ?_ (g7) f ?_ ?_ ?_); (exact rfl); (exact rfl); (exact rfl); (exact HLn.out))
          show K _ _
          have := H.out _ (Ext.refl _)
          rw [HFR.out] at this
          obtain u8 := HU.out
          rw [u8] at this
          exact this
        · rintro L A W K hL hC hW ⟨V, rfl, HV, hB⟩ hK
          have e8 : V 8 = .bool true := HV 8 _ rfl (hW 8 rfl)
          have H := Lib.hid (show ∀ W', Ext W W' → K (fr (upd V 10 (idv g))) W' from fun W' he => hK _ W' ⟨upd V 10 (idv g), rfl, HV.up 10 _ (fun x hx => Option.some.inj hx), PdB.ext hB he⟩)
          clear hK hC hW hL HV
          have u8 : (upd V 10 (idv g)) 8 = .bool true := e8
          have HU := Lib.hid (show (upd V 10 (idv g)) 8 = .bool true from u8)
          clear u8
          rw [HFR.out]
          rw [e8]
          clear e8
          have HLn := Lib.hid hB.2.1
          clear hB
          go_wp2_with ((with_reducible refine wpList_load_id ?_ (.tmp 8) ?_ (g8) g ?_ ?_ ?_); (exact rfl); (exact rfl); (exact rfl); (exact HLn.out))
          show K _ _
          have := H.out _ (Ext.refl _)
          rw [HFR.out] at this
          obtain u8 := HU.out
          rw [u8] at this
          exact this
        · rintro L A W K hL hC hW ⟨V, rfl, HV, hB⟩ hK
          have e8 : V 8 = .bool true := HV 8 _ rfl (hW 8 rfl)
          have e9 : V 9 = idv f := HV 9 _ rfl (hW 9 rfl)
          have e10 : V 10 = idv g := HV 10 _ rfl (hW 10 rfl)
          have H := Lib.hid (show ∀ W', Ext W W' → K (fr (upd V 11 (.bool false))) W' from fun W' he => hK _ W' ⟨upd V 11 (.bool false), rfl, HV.up 11 _ (fun x hx => Option.some.inj hx), PdB.ext hB he⟩)
          clear hK hC hW hL HV
          have u8 : (upd V 11 (.bool false)) 8 = .bool true := e8
          have u9 : (upd V 11 (.bool false)) 9 = idv f := e9
          have u10 : (upd V 11 (.bool false)) 10 = idv g := e10
          have HU := Lib.hid (show (upd V 11 (.bool false)) 8 = .bool true ∧ (upd V 11 (.bool false)) 9 = idv f ∧ (upd V 11 (.bool false)) 10 = idv g from ⟨u8, u9, u10⟩)
          clear u8 u9 u10
          rw [HFR.out]
          rw [e8, e9, e10]
          clear e8 e9 e10
          go_wp2_with fail
          refine (HL1.out _).mono ?_
          rintro e wx ⟨rfl, he⟩
          go_wp2_with fail
          show K _ _
          have := H.out _ he
          rw [HFR.out] at this
          obtain ⟨u8, u9, u10⟩ := HU.out
          rw [u8, u9, u10] at this
          exact this
        · rintro L A W K hL hC hW ⟨V, rfl, HV, hB⟩ hK
          have e8 : V 8 = .bool true := HV 8 _ rfl (hW 8 rfl)
          have e11 : V 11 = .bool false := HV 11 _ rfl (hW 11 rfl)
          have H := Lib.hid (show ∀ W', Ext W W' → K (fr (upd V 12 (.bool false))) W' from fun W' he => hK _ W' ⟨upd V 12 (.bool false), rfl, HV.up 12 _ (fun x hx => Option.some.inj hx), PdB.ext hB he⟩)
          clear hK hC hW hL HV
          have u8 : (upd V 12 (.bool false)) 8 = .bool true := e8
          have u11 : (upd V 12 (.bool false)) 11 = .bool false := e11
          have HU := Lib.hid (show (upd V 12 (.bool false)) 8 = .bool true ∧ (upd V 12 (.bool false)) 11 = .bool false from ⟨u8, u11⟩)
          clear u8 u11
          rw [HFR.out]
          rw [e8, e11]
          clear e8 e11
          clear hB
          go_wp2_with fail
          show K _ _
          have := H.out _ (Ext.refl _)
          rw [HFR.out] at this
          obtain ⟨u8, u11⟩ := HU.out
          rw [u8, u11] at this
          exact this
        · rintro L A W K hL hC hW ⟨V, rfl, HV, hB⟩ hK
          have e12 : V 12 = .bool false := HV 12 _ rfl (hW 12 rfl)
          have H := Lib.hid (show ∀ W', Ext W W' → K (fr (upd V 13 (undef))) W' from fun W' he => hK _ W' ⟨upd V 13 (undef), rfl, HV.up 13 _ (fun x hx => Option.some.inj hx), PdB.ext hB he⟩)
          clear hK hC hW hL HV
          have u12 : (upd V 13 (undef)) 12 = .bool false := e12
          have HU := Lib.hid (show (upd V 13 (undef)) 12 = .bool false from u12)
          clear u12
          rw [HFR.out]
          rw [e12]
          clear e12
          clear hB
          go_wp2_with fail
          show K _ _
          have := H.out _ (Ext.refl _)
          rw [HFR.out] at this
          obtain u12 := HU.out
          rw [u12] at this
          exact this
        · rintro L A W K hL hC hW ⟨V, rfl, HV, hB⟩ hK
          have e12 : V 12 = .bool false := HV 12 _ rfl (hW 12 rfl)
          have H := Lib.hid (show ∀ W', Ext W W' → K (fr (upd V 14 (undef))) W' from fun W' he => hK _ W' ⟨upd V 14 (undef), rfl, HV.up 14 _ (fun x hx => Option.some.inj hx), PdB.ext hB he⟩)
          clear hK hC hW hL HV
          have u12 : (upd V 14 (undef)) 12 = .bool false := e12
          have HU := Lib.hid (show (upd V 14 (undef)) 12 = .bool false from u12)
          clear u12
          rw [HFR.out]
          rw [e12]
          clear e12
          clear hB
          go_wp2_with fail
          show K _ _
          have := H.out _ (Ext.refl _)
          rw [HFR.out] at this
          obtain u12 := HU.out
          rw [u12] at this
          exact this
        · rintro L A W K hL hC hW ⟨V, rfl, HV, hB⟩ hK
          have e12 : V 12 = .bool false := HV 12 _ rfl (hW 12 rfl)
          have e13 : V 13 = undef := HV 13 _ rfl (hW 13 rfl)
          have e14 : V 14 = undef := HV 14 _ rfl (hW 14 rfl)
          have H := Lib.hid (show ∀ W', Ext W W' → K (fr (upd V 15 (undef))) W' from fun W' he => hK _ W' ⟨upd V 15 (undef), rfl, HV.up 15 _ (fun x hx => Option.some.inj hx), PdB.ext hB he⟩)
          clear hK hC hW hL HV
          have u12 : (upd V 15 (undef)) 12 = .bool false := e12
          have u13 : (upd V 15 (undef)) 13 = undef := e13
          have u14 : (upd V 15 (undef)) 14 = undef := e14
          have HU := Lib.hid (show (upd V 15 (undef)) 12 = .bool false ∧ (upd V 15 (undef)) 13 = undef ∧ (upd V 15 (undef)) 14 = undef from ⟨u12, u13, u14⟩)
          clear u12 u13 u14
          rw [HFR.out]
          rw [e12, e13, e14]
          clear e12 e13 e14
          clear hB
          go_wp2_with fail
          show K _ _
          have := H.out _ (Ext.refl _)
          rw [HFR.out] at this
          obtain ⟨u12, u13, u14⟩ := HU.out
          rw [u12, u13, u14] at this
          exact this
        · rintro L A W K hL hC hW ⟨V, rfl, HV, hB⟩ hK
          have e8 : V 8 = .bool true := HV 8 _ rfl (hW 8 rfl)
          have e12 : V 12 = .bool false := HV 12 _ rfl (hW 12 rfl)
          have e15 : V 15 = undef := HV 15 _ rfl (hW 15 rfl)
          have H := Lib.hid (show ∀ W', Ext W W' → K (fr (upd V 16 (.bool false))) W' from fun W' he => hK _ W' ⟨upd V 16 (.bool false), rfl, HV.up 16 _ (fun x hx => Option.some.inj hx), PdB.ext hB he⟩)
          clear hK hC hW hL HV
          have u8 : (upd V 16 (.bool false)) 8 = .bool true := e8
          have u12 : (upd V 16 (.bool false)) 12 = .bool false := e12
          have u15 : (upd V 16 (.bool false)) 15 = undef := e15
          have HU := Lib.hid (show (upd V 16 (.bool false)) 8 = .bool true ∧ (upd V 16 (.bool false)) 12 = .bool false ∧ (upd V 16 (.bool false)) 15 = undef from ⟨u8, u12, u15⟩)
          clear u8 u12 u15
          rw [HFR.out]
          rw [e8, e12, e15]
          clear e8 e12 e15
          clear hB
          go_wp2_with fail
          show K _ _
          have := H.out _ (Ext.refl _)
          rw [HFR.out] at this
          obtain ⟨u8, u12, u15⟩ := HU.out
          rw [u8, u12, u15] at this
          exact this
        · rintro L A W K hL hC hW ⟨V, rfl, HV, hB⟩ hK
          have e8 : V 8 = .bool true := HV 8 _ rfl (hW 8 rfl)
          have e16 : V 16 = .bool false := HV 16 _ rfl (hW 16 rfl)
          have H := Lib.hid (show ∀ W', Ext W W' → K (fr (upd V 17 (.bool true))) W' from fun W' he => hK _ W' ⟨upd V 17 (.bool true), rfl, HV.up 17 _ (fun x hx => Option.some.inj hx), PdB.ext hB he⟩)
          clear hK hC hW hL HV
          have u8 : (upd V 17 (.bool true)) 8 = .bool true := e8
          have u16 : (upd V 17 (.bool true)) 16 = .bool false := e16
          have HU := Lib.hid (show (upd V 17 (.bool true)) 8 = .bool true ∧ (upd V 17 (.bool true)) 16 = .bool false from ⟨u8, u16⟩)
          clear u8 u16
          rw [HFR.out]
          rw [e8, e16]
          clear e8 e16
          clear hB
          go_wp2_with fail
          show K _ _
          have := H.out _ (Ext.refl _)
          rw [HFR.out] at this
          obtain ⟨u8, u16⟩ := HU.out
          rw [u8, u16] at this
          exact this
        · rintro L A W K hL hC hW ⟨V, rfl, HV, hB⟩ hK
          have e8 : V 8 = .bool true := HV 8 _ rfl (hW 8 rfl)
          have e17 : V 17 = .bool true := HV 17 _ rfl (hW 17 rfl)
          have H := Lib.hid (show ∀ W', Ext W W' → K (fr (upd V 18 (.bool true))) W' from fun W' he => hK _ W' ⟨upd V 18 (.bool true), rfl, HV.up 18 _ (fun x hx => Option.some.inj hx), PdB.ext hB he⟩)
          clear hK hC hW hL HV
          have u8 : (upd V 18 (.bool true)) 8 = .bool true := e8
          have u17 : (upd V 18 (.bool true)) 17 = .bool true := e17
          have HU := Lib.hid (show (upd V 18 (.bool true)) 8 = .bool true ∧ (upd V 18 (.bool true)) 17 = .bool true from ⟨u8, u17⟩)
          clear u8 u17
          rw [HFR.out]
          rw [e8, e17]
          clear e8 e17
          clear hB
          go_wp2_with fail
          show K _ _
          have := H.out _ (Ext.refl _)
          rw [HFR.out] at this
          obtain ⟨u8, u17⟩ := HU.out
          rw [u8, u17] at this
          exact this
        · rintro L A W K hL hC hW ⟨V, rfl, HV, hB⟩ hK
          have e18 : V 18 = .bool true := HV 18 _ rfl (hW 18 rfl)
          have H := Lib.hid (show ∀ W', Ext W W' → K (fr (upd V 19 (.bool true))) W' from fun W' he => hK _ W' ⟨upd V 19 (.bool true), rfl, HV.up 19 _ (fun x hx => Option.some.inj hx), PdB.ext hB he⟩)
          clear hK hC hW hL HV
          have u18 : (upd V 19 (.bool true)) 18 = .bool true := e18
          have HU := Lib.hid (show (upd V 19 (.bool true)) 18 = .bool true from u18)
          clear u18
          rw [HFR.out]
          rw [e18]
          clear e18
          clear hB
          go_wp2_with fail
          show K _ _
          have := H.out _ (Ext.refl _)
          rw [HFR.out] at this
          obtain u18 := HU.out
          rw [u18] at this
          exact this
        · rintro L A W K hL hC hW ⟨V, rfl, HV, hB⟩ hK
          have e19 : V 19 = .bool true := HV 19 _ rfl (hW 19 rfl)
          have H := Lib.hid (show ∀ W', Ext W W' → K (fr (upd V 20 (idv f))) W' from fun W' he => hK _ W' ⟨upd V 20 (idv f), rfl, HV.up 20 _ (fun x hx => Option.some.inj hx), PdB.ext hB he⟩)
          clear hK hC hW hL HV
          have u19 : (upd V 20 (idv f)) 19 = .bool true := e19
          have HU := Lib.hid (show (upd V 20 (idv f)) 19 = .bool true from u19)
          clear u19
          rw [HFR.out]
          rw [e19]
          clear e19
          have HLn := Lib.hid hB.1
          clear hB
          go_wp2_with ((with_reducible refine wpList_load_id ?_ (.tmp 7) ?_ (g7) f ?_ ?_ ?_); (exact rfl); (exact rfl); (exact rfl); (exact HLn.out))
          show K _ _
          have := H.out _ (Ext.refl _)
          rw [HFR.out] at this
          obtain u19 := HU.out
          rw [u19] at this
          exact this
        · rintro L A W K hL hC hW ⟨V, rfl, HV, hB⟩ hK
          have e19 : V 19 = .bool true := HV 19 _ rfl (hW 19 rfl)
          have H := Lib.hid (show ∀ W', Ext W W' → K (fr (upd V 21 (idv g))) W' from fun W' he => hK _ W' ⟨upd V 21 (idv g), rfl, HV.up 21 _ (fun x hx => Option.some.inj hx), PdB.ext hB he⟩)
          clear hK hC hW hL HV
          have u19 : (upd V 21 (idv g)) 19 = .bool true := e19
          have HU := Lib.hid (show (upd V 21 (idv g)) 19 = .bool true from u19)
          clear u19
          rw [HFR.out]
          rw [e19]
          clear e19
          have HLn := Lib.hid hB.2.1
          clear hB
          go_wp2_with ((with_reducible refine wpList_load_id ?_ (.tmp 8) ?_ (g8) g ?_ ?_ ?_); (exact rfl); (exact rfl); (exact rfl); (exact HLn.out))
          show K _ _
          have := H.out _ (Ext.refl _)
          rw [HFR.out] at this
          obtain u19 := HU.out
          rw [u19] at this
          exact this
        · rintro L A W K hL hC hW ⟨V, rfl, HV, hB⟩ hK
          have e19 : V 19 = .bool true := HV 19 _ rfl (hW 19 rfl)
          have e20 : V 20 = idv f := HV 20 _ rfl (hW 20 rfl)
          have e21 : V 21 = idv g := HV 21 _ rfl (hW 21 rfl)
          have H := Lib.hid (show ∀ W', Ext W W' → K (fr (upd V 22 (.bool false))) W' from fun W' he => hK _ W' ⟨upd V 22 (.bool false), rfl, HV.up 22 _ (fun x hx => Option.some.inj hx), PdB.ext hB he⟩)
          clear hK hC hW hL HV
          have u19 : (upd V 22 (.bool false)) 19 = .bool true := e19
          have u20 : (upd V 22 (.bool false)) 20 = idv f := e20
          have u21 : (upd V 22 (.bool false)) 21 = idv g := e21
          have HU := Lib.hid (show (upd V 22 (.bool false)) 19 = .bool true ∧ (upd V 22 (.bool false)) 20 = idv f ∧ (upd V 22 (.bool false)) 21 = idv g from ⟨u19, u20, u21⟩)
          clear u19 u20 u21
          rw [HFR.out]
          rw [e19, e20, e21]
          clear e19 e20 e21
          clear hB
          go_wp2_with ((with_reducible refine wpList_eql_id ?_ (.tmp 94) (.tmp 95) ?_ f g false ?_ ?_ HEQ.out ?_); (exact rfl); (exact rfl); (exact rfl); (exact rfl))
          show K _ _
          have := H.out _ (Ext.refl _)
          rw [HFR.out] at this
          obtain ⟨u19, u20, u21⟩ := HU.out
          rw [u19, u20, u21] at this
          exact this
        · rintro L A W K hL hC hW ⟨V, rfl, HV, hB⟩ hK
          have e19 : V 19 = .bool true := HV 19 _ rfl (hW 19 rfl)
          have H := Lib.hid (show ∀ W', Ext W W' → K (fr (upd V 23 (idv f))) W' from fun W' he => hK _ W' ⟨upd V 23 (idv f), rfl, HV.up 23 _ (fun x hx => Option.some.inj hx), PdB.ext hB he⟩)
          clear hK hC hW hL HV
          have u19 : (upd V 23 (idv f)) 19 = .bool true := e19
          have HU := Lib.hid (show (upd V 23 (idv f)) 19 = .bool true from u19)
          clear u19
          rw [HFR.out]
          rw [e19]
          clear e19
          have HLn := Lib.hid hB.1
          clear hB
          go_wp2_with ((with_reducible refine wpList_load_id ?_ (.tmp 7) ?_ (g7) f ?_ ?_ ?_); (exact rfl); (exact rfl); (exact rfl); (exact HLn.out))
          show K _ _
          have := H.out _ (Ext.refl _)
          rw [HFR.out] at this
          obtain u19 := HU.out
          rw [u19] at this
          exact this
        · rintro L A W K hL hC hW ⟨V, rfl, HV, hB⟩ hK
          have e19 : V 19 = .bool true := HV 19 _ rfl (hW 19 rfl)
          have H := Lib.hid (show ∀ W', Ext W W' → K (fr (upd V 24 (idv g))) W' from fun W' he => hK _ W' ⟨upd V 24 (idv g), rfl, HV.up 24 _ (fun x hx => Option.some.inj hx), PdB.ext hB he⟩)
          clear hK hC hW hL HV
          have u19 : (upd V 24 (idv g)) 19 = .bool true := e19
          have HU := Lib.hid (show (upd V 24 (idv g)) 19 = .bool true from u19)
          clear u19
          rw [HFR.out]
          rw [e19]
          clear e19
          have HLn := Lib.hid hB.2.1
          clear hB
          go_wp2_with ((with_reducible refine wpList_load_id ?_ (.tmp 8) ?_ (g8) g ?_ ?_ ?_); (exact rfl); (exact rfl); (exact rfl); (exact HLn.out))
          show K _ _
          have := H.out _ (Ext.refl _)
          rw [HFR.out] at this
          obtain u19 := HU.out
          rw [u19] at this
          exact this
        · rintro L A W K hL hC hW ⟨V, rfl, HV, hB⟩ hK
          have e19 : V 19 = .bool true := HV 19 _ rfl (hW 19 rfl)
          have e23 : V 23 = idv f := HV 23 _ rfl (hW 23 rfl)
          have e24 : V 24 = idv g := HV 24 _ rfl (hW 24 rfl)
          have H := Lib.hid (show ∀ W', Ext W W' → K (fr (upd V 25 (.bool false))) W' from fun W' he => hK _ W' ⟨upd V 25 (.bool false), rfl, HV.up 25 _ (fun x hx => Option.some.inj hx), PdB.ext hB he⟩)
          clear hK hC hW hL HV
          have u19 : (upd V 25 (.bool false)) 19 = .bool true := e19
          have u23 : (upd V 25 (.bool false)) 23 = idv f := e23
          have u24 : (upd V 25 (.bool false)) 24 = idv g := e24
          have HU := Lib.hid (show (upd V 25 (.bool false)) 19 = .bool true ∧ (upd V 25 (.bool false)) 23 = idv f ∧ (upd V 25 (.bool false)) 24 = idv g from ⟨u19, u23, u24⟩)
          clear u19 u23 u24
          rw [HFR.out]
          rw [e19, e23, e24]
          clear e19 e23 e24
          go_wp2_with fail
          refine (HL1.out _).mono ?_
          rintro e wx ⟨rfl, he⟩
          go_wp2_with fail
          show K _ _
          have := H.out _ he
          rw [HFR.out] at this
          obtain ⟨u19, u23, u24⟩ := HU.out
          rw [u19, u23, u24] at this
          exact this
        · rintro L A W K hL hC hW ⟨V, rfl, HV, hB⟩ hK
          have e19 : V 19 = .bool true := HV 19 _ rfl (hW 19 rfl)
          have e25 : V 25 = .bool false := HV 25 _ rfl (hW 25 rfl)
          have H := Lib.hid (show ∀ W', Ext W W' → K (fr (upd V 26 (.bool true))) W' from fun W' he => hK _ W' ⟨upd V 26 (.bool true), rfl, HV.up 26 _ (fun x hx => Option.some.inj hx), PdB.ext hB he⟩)
          clear hK hC hW hL HV
          have u19 : (upd V 26 (.bool true)) 19 = .bool true := e19
          have u25 : (upd V 26 (.bool true)) 25 = .bool false := e25
          have HU := Lib.hid (show (upd V 26 (.bool true)) 19 = .bool true ∧ (upd V 26 (.bool true)) 25 = .bool false from ⟨u19, u25⟩)
          clear u19 u25
          rw [HFR.out]
          rw [e19, e25]
          clear e19 e25
          clear hB
          go_wp2_with fail
          show K _ _
          have := H.out _ (Ext.refl _)
          rw [HFR.out] at this
          obtain ⟨u19, u25⟩ := HU.out
          rw [u19, u25] at this
          exact this
        · rintro L A W K hL hC hW ⟨V, rfl, HV, hB⟩ hK
          have e19 : V 19 = .bool true := HV 19 _ rfl (hW 19 rfl)
          have e26 : V 26 = .bool true := HV 26 _ rfl (hW 26 rfl)
          have H := Lib.hid (show ∀ W', Ext W W' → K (fr (upd V 27 (.bool true))) W' from fun W' he => hK _ W' ⟨upd V 27 (.bool true), rfl, HV.up 27 _ (fun x hx => Option.some.inj hx), PdB.ext hB he⟩)
          clear hK hC hW hL HV
          have u19 : (upd V 27 (.bool true)) 19 = .bool true := e19
          have u26 : (upd V 27 (.bool true)) 26 = .bool true := e26
          have HU := Lib.hid (show (upd V 27 (.bool true)) 19 = .bool true ∧ (upd V 27 (.bool true)) 26 = .bool true from ⟨u19, u26⟩)
          clear u19 u26
          rw [HFR.out]
          rw [e19, e26]
          clear e19 e26
          clear hB
          go_wp2_with fail
          show K _ _
          have := H.out _ (Ext.refl _)
          rw [HFR.out] at this
          obtain ⟨u19, u26⟩ := HU.out
          rw [u19, u26] at this
          exact this
        · rintro L A W K hL hC hW ⟨V, rfl, HV, hB⟩ hK
          have e27 : V 27 = .bool true := HV 27 _ rfl (hW 27 rfl)
          have H := Lib.hid (show ∀ W', Ext W W' → K (fr (upd V 28 (idv g))) W' from fun W' he => hK _ W' ⟨upd V 28 (idv g), rfl, HV.up 28 _ (fun x hx => Option.some.inj hx), PdB.ext hB he⟩)
          clear hK hC hW hL HV
          have u27 : (upd V 28 (idv g)) 27 = .bool true := e27
          have HU := Lib.hid (show (upd V 28 (idv g)) 27 = .bool true from u27)
          clear u27
          rw [HFR.out]
          rw [e27]
          clear e27
          have HLn := Lib.hid hB.2.1
          clear hB
          go_wp2_with ((with_reducible refine wpList_load_id ?_ (.tmp 8) ?_ (g8) g ?_ ?_ ?_); (exact rfl); (exact rfl); (exact rfl); (exact HLn.out))
          show K _ _
          have := H.out _ (Ext.refl _)
          rw [HFR.out] at this
          obtain u27 := HU.out
          rw [u27] at this
          exact this
        · rintro L A W K hL hC hW ⟨V, rfl, HV, hB⟩ hK
          have e27 : V 27 = .bool true := HV 27 _ rfl (hW 27 rfl)
          have H := Lib.hid (show ∀ W', Ext W W' → K (fr (upd V 29 (idv f))) W' from fun W' he => hK _ W' ⟨upd V 29 (idv f), rfl, HV.up 29 _ (fun x hx => Option.some.inj hx), PdB.ext hB he⟩)
          clear hK hC hW hL HV
          have u27 : (upd V 29 (idv f)) 27 = .bool true := e27
          have HU := Lib.hid (show (upd V 29 (idv f)) 27 = .bool true from u27)
          clear u27
          rw [HFR.out]
          rw [e27]
          clear e27
          have HLn := Lib.hid hB.1
          clear hB
          go_wp2_with ((with_reducible refine wpList_load_id ?_ (.tmp 7) ?_ (g7) f ?_ ?_ ?_); (exact rfl); (exact rfl); (exact rfl); (exact HLn.out))
          show K _ _
          have := H.out _ (Ext.refl _)
          rw [HFR.out] at this
          obtain u27 := HU.out
          rw [u27] at this
          exact this
        · rintro L A W K hL hC hW ⟨V, rfl, HV, hB⟩ hK
          have e27 : V 27 = .bool true := HV 27 _ rfl (hW 27 rfl)
          have e28 : V 28 = idv g := HV 28 _ rfl (hW 28 rfl)
          have e29 : V 29 = idv f := HV 29 _ rfl (hW 29 rfl)
          have H := Lib.hid (show ∀ W', Ext W W' → K (fr (upd V 30 (.bool true))) W' from fun W' he => hK _ W' ⟨upd V 30 (.bool true), rfl, HV.up 30 _ (fun x hx => Option.some.inj hx), PdB.ext hB he⟩)
          clear hK hC hW hL HV
          have u27 : (upd V 30 (.bool true)) 27 = .bool true := e27
          have u28 : (upd V 30 (.bool true)) 28 = idv g := e28
          have u29 : (upd V 30 (.bool true)) 29 = idv f := e29
          have HU := Lib.hid (show (upd V 30 (.bool true)) 27 = .bool true ∧ (upd V 30 (.bool true)) 28 = idv g ∧ (upd V 30 (.bool true)) 29 = idv f from ⟨u27, u28, u29⟩)
          clear u27 u28 u29
          rw [HFR.out]
          rw [e27, e28, e29]
          clear e27 e28 e29
          go_wp2_with fail
          refine (HL2.out _).mono ?_
          rintro e wx ⟨rfl, he⟩
          go_wp2_with fail
          show K _ _
          have := H.out _ he
          rw [HFR.out] at this
          obtain ⟨u27, u28, u29⟩ := HU.out
          rw [u27, u28, u29] at this
          exact this
        · rintro L A W K hL hC hW ⟨V, rfl, HV, hB⟩ hK
          have e27 : V 27 = .bool true := HV 27 _ rfl (hW 27 rfl)
          have e30 : V 30 = .bool true := HV 30 _ rfl (hW 30 rfl)
          have H := Lib.hid (show ∀ W', Ext W W' → K (fr (upd V 31 (.bool false))) W' from fun W' he => hK _ W' ⟨upd V 31 (.bool false), rfl, HV.up 31 _ (fun x hx => Option.some.inj hx), PdB.ext hB he⟩)
          clear hK hC hW hL HV
          have u27 : (upd V 31 (.bool false)) 27 = .bool true := e27
          have u30 : (upd V 31 (.bool false)) 30 = .bool true := e30
          have HU := Lib.hid (show (upd V 31 (.bool false)) 27 = .bool true ∧ (upd V 31 (.bool false)) 30 = .bool true from ⟨u27, u30⟩)
          clear u27 u30
          rw [HFR.out]
          rw [e27, e30]
          clear e27 e30
          clear hB
          go_wp2_with fail
          show K _ _
          have := H.out _ (Ext.refl _)
          rw [HFR.out] at this
          obtain ⟨u27, u30⟩ := HU.out
          rw [u27, u30] at this
          exact this
        · rintro L A W K hL hC hW ⟨V, rfl, HV, hB⟩ hK
          have e19 : V 19 = .bool true := HV 19 _ rfl (hW 19 rfl)
          have e27 : V 27 = .bool true := HV 27 _ rfl (hW 27 rfl)
          have e31 : V 31 = .bool false := HV 31 _ rfl (hW 31 rfl)
          have H := Lib.hid (show ∀ W', Ext W W' → K (fr (upd V 32 (.bool false))) W' from fun W' he => hK _ W' ⟨upd V 32 (.bool false), rfl, HV.up 32 _ (fun x hx => Option.some.inj hx), PdB.ext hB he⟩)
          clear hK hC hW hL HV
          have u19 : (upd V 32 (.bool false)) 19 = .bool true := e19
          have u27 : (upd V 32 (.bool false)) 27 = .bool true := e27
          have u31 : (upd V 32 (.bool false)) 31 = .bool false := e31
          have HU := Lib.hid (show (upd V 32 (.bool false)) 19 = .bool true ∧ (upd V 32 (.bool false)) 27 = .bool true ∧ (upd V 32 (.bool false)) 31 = .bool false from ⟨u19, u27, u31⟩)
          clear u19 u27 u31
          rw [HFR.out]
          rw [e19, e27, e31]
          clear e19 e27 e31
          clear hB
          go_wp2_with fail
          show K _ _
          have := H.out _ (Ext.refl _)
          rw [HFR.out] at this
          obtain ⟨u19, u27, u31⟩ := HU.out
          rw [u19, u27, u31] at this
          exact this
        · rintro L A W K hL hC hW ⟨V, rfl, HV, hB⟩ hK
          have e19 : V 19 = .bool true := HV 19 _ rfl (hW 19 rfl)
          have e22 : V 22 = .bool false := HV 22 _ rfl (hW 22 rfl)
          have e32 : V 32 = .bool false := HV 32 _ rfl (hW 32 rfl)
          have H := Lib.hid (show ∀ W', Ext W W' → K (fr (upd V 33 (.bool true))) W' from fun W' he => hK _ W' ⟨upd V 33 (.bool true), rfl, HV.up 33 _ (fun x hx => Option.some.inj hx), PdB.ext hB he⟩)
          clear hK hC hW hL HV
          have u19 : (upd V 33 (.bool true)) 19 = .bool true := e19
          have u22 : (upd V 33 (.bool true)) 22 = .bool false := e22
          have u32 : (upd V 33 (.bool true)) 32 = .bool false := e32
          have HU := Lib.hid (show (upd V 33 (.bool true)) 19 = .bool true ∧ (upd V 33 (.bool true)) 22 = .bool false ∧ (upd V 33 (.bool true)) 32 = .bool false from ⟨u19, u22, u32⟩)
          clear u19 u22 u32
          rw [HFR.out]
          rw [e19, e22, e32]
          clear e19 e22 e32
          clear hB
          go_wp2_with fail
          show K _ _
          have := H.out _ (Ext.refl _)
          rw [HFR.out] at this
          obtain ⟨u19, u22, u32⟩ := HU.out
          rw [u19, u22, u32] at this
          exact this
        · rintro L A W K hL hC hW ⟨V, rfl, HV, hB⟩ hK
          have e19 : V 19 = .bool true := HV 19 _ rfl (hW 19 rfl)
          have e33 : V 33 = .bool true := HV 33 _ rfl (hW 33 rfl)
          have H := Lib.hid (show ∀ W', Ext W W' → K (fr (upd V 34 (.bool true))) W' from fun W' he => hK _ W' ⟨upd V 34 (.bool true), rfl, HV.up 34 _ (fun x hx => Option.some.inj hx), PdB.ext hB he⟩)
          clear hK hC hW hL HV
          have u19 : (upd V 34 (.bool true)) 19 = .bool true := e19
          have u33 : (upd V 34 (.bool true)) 33 = .bool true := e33
          have HU := Lib.hid (show (upd V 34 (.bool true)) 19 = .bool true ∧ (upd V 34 (.bool true)) 33 = .bool true from ⟨u19, u33⟩)
          clear u19 u33
          rw [HFR.out]
          rw [e19, e33]
          clear e19 e33
          clear hB
          go_wp2_with fail
          show K _ _
          have := H.out _ (Ext.refl _)
          rw [HFR.out] at this
          obtain ⟨u19, u33⟩ := HU.out
          rw [u19, u33] at this
          exact this
        · rintro L A W K hL hC hW ⟨V, rfl, HV, hB⟩ hK
          have e34 : V 34 = .bool true := HV 34 _ rfl (hW 34 rfl)
          have H := Lib.hid (show ∀ W', Ext W W' → K (fr (upd V 35 (.bool true))) W' from fun W' he => hK _ W' ⟨upd V 35 (.bool true), rfl, HV.up 35 _ (fun x hx => Option.some.inj hx), PdB.ext hB he⟩)
          clear hK hC hW hL HV
          have u34 : (upd V 35 (.bool true)) 34 = .bool true := e34
          have HU := Lib.hid (show (upd V 35 (.bool true)) 34 = .bool true from u34)
          clear u34
          rw [HFR.out]
          rw [e34]
          clear e34
          clear hB
          go_wp2_with fail
          show K _ _
          have := H.out _ (Ext.refl _)
          rw [HFR.out] at this
          obtain u34 := HU.out
          rw [u34] at this
          exact this
        · rintro L A W hL ⟨V, rfl, HV, hB⟩
          have e0 : V 0 = idv f := HV 0 _ rfl (hL 0 (by simp))
          have e1 : V 1 = idv g := HV 1 _ rfl (hL 1 (by simp))
          have e2 : V 2 = .bool false := HV 2 _ rfl (hL 2 (by simp))
          have e3 : V 3 = .string tx := HV 3 _ rfl (hL 3 (by simp))
          have e4 : V 4 = idv g := HV 4 _ rfl (hL 4 (by simp))
          have e5 : V 5 = .string ty := HV 5 _ rfl (hL 5 (by simp))
          have e6 : V 6 = .bool false := HV 6 _ rfl (hL 6 (by simp))
          have e7 : V 7 = .bool true := HV 7 _ rfl (hL 7 (by simp))
          have e8 : V 8 = .bool true := HV 8 _ rfl (hL 8 (by simp))
          have e9 : V 9 = idv f := HV 9 _ rfl (hL 9 (by simp))
          have e10 : V 10 = idv g := HV 10 _ rfl (hL 10 (by simp))
          have e11 : V 11 = .bool false := HV 11 _ rfl (hL 11 (by simp))
          have e12 : V 12 = .bool false := HV 12 _ rfl (hL 12 (by simp))
          have e13 : V 13 = undef := HV 13 _ rfl (hL 13 (by simp))
          have e14 : V 14 = undef := HV 14 _ rfl (hL 14 (by simp))
          have e15 : V 15 = undef := HV 15 _ rfl (hL 15 (by simp))
          have e16 : V 16 = .bool false := HV 16 _ rfl (hL 16 (by simp))
          have e17 : V 17 = .bool true := HV 17 _ rfl (hL 17 (by simp))
          have e18 : V 18 = .bool true := HV 18 _ rfl (hL 18 (by simp))
          have e19 : V 19 = .bool true := HV 19 _ rfl (hL 19 (by simp))
          have e20 : V 20 = idv f := HV 20 _ rfl (hL 20 (by simp))
          have e21 : V 21 = idv g := HV 21 _ rfl (hL 21 (by simp))
          have e22 : V 22 = .bool false := HV 22 _ rfl (hL 22 (by simp))
          have e23 : V 23 = idv f := HV 23 _ rfl (hL 23 (by simp))
          have e24 : V 24 = idv g := HV 24 _ rfl (hL 24 (by simp))
          have e25 : V 25 = .bool false := HV 25 _ rfl (hL 25 (by simp))
          have e26 : V 26 = .bool true := HV 26 _ rfl (hL 26 (by simp))
          have e27 : V 27 = .bool true := HV 27 _ rfl (hL 27 (by simp))
          have e28 : V 28 = idv g := HV 28 _ rfl (hL 28 (by simp))
          have e29 : V 29 = idv f := HV 29 _ rfl (hL 29 (by simp))
          have e30 : V 30 = .bool true := HV 30 _ rfl (hL 30 (by simp))
          have e31 : V 31 = .bool false := HV 31 _ rfl (hL 31 (by simp))
          have e32 : V 32 = .bool false := HV 32 _ rfl (hL 32 (by simp))
          have e33 : V 33 = .bool true := HV 33 _ rfl (hL 33 (by simp))
          have e34 : V 34 = .bool true := HV 34 _ rfl (hL 34 (by simp))
          have e35 : V 35 = .bool true := HV 35 _ rfl (hL 35 (by simp))
          rw [HFR.out]
          rw [e0, e1, e2, e3, e4, e5, e6, e7, e8, e9, e10, e11, e12, e13, e14, e15, e16, e17, e18, e19, e20, e21, e22, e23, e24, e25, e26, e27, e28, e29, e30, e31, e32, e33, e34, e35]
          clear hL HV HFR e0 e1 e2 e3 e4 e5 e6 e7 e8 e9 e10 e11 e12 e13 e14 e15 e16 e17 e18 e19 e20 e21 e22 e23 e24 e25 e26 e27 e28 e29 e30 e31 e32 e33 e34 e35
          go_wp2_with fail
          go_ret
          exact ⟨rfl, hB.2.2⟩
      | false =>
        have HEQ := Lib.hid (show same32 f g = true by rw [hsm]; rfl)
        clear hb12 hsm
        refine wp_named fun a0 ha0 => ?_
        obtain ⟨fr, hfr⟩ : ∃ fr : (Nat → Value) → Act, ∀ V, fr V = ((((((((((((((((((((((((((((((((((((a0.put (some 74) (V 0)).put (some 75) (V 1)).put (some 76) (V 2)).put (some 77) (V 3)).put (some 78) (V 4)).put (some 79) (V 5)).put (some 80) (V 6)).put (some 81) (V 7)).put (some 82) (V 8)).put (some 83) (V 9)).put (some 84) (V 10)).put (some 85) (V 11)).put (some 86) (V 12)).put (some 87) (V 13)).put (some 88) (V 14)).put (some 89) (V 15)).put (some 90) (V 16)).put (some 91) (V 17)).put (some 92) (V 18)).put (some 93) (V 19)).put (some 94) (V 20)).put (some 95) (V 21)).put (some 96) (V 22)).put (some 97) (V 23)).put (some 98) (V 24)).put (some 99) (V 25)).put (some 100) (V 26)).put (some 101) (V 27)).put (some 102) (V 28)).put (some 103) (V 29)).put (some 104) (V 30)).put (some 105) (V 31)).put (some 106) (V 32)).put (some 107) (V 33)).put (some 108) (V 34)).put (some 6) (V 35)) := ⟨fun V => ((((((((((((((((((((((((((((((((((((a0.put (some 74) (V 0)).put (some 75) (V 1)).put (some 76) (V 2)).put (some 77) (V 3)).put (some 78) (V 4)).put (some 79) (V 5)).put (some 80) (V 6)).put (some 81) (V 7)).put (some 82) (V 8)).put (some 83) (V 9)).put (some 84) (V 10)).put (some 85) (V 11)).put (some 86) (V 12)).put (some 87) (V 13)).put (some 88) (V 14)).put (some 89) (V 15)).put (some 90) (V 16)).put (some 91) (V 17)).put (some 92) (V 18)).put (some 93) (V 19)).put (some 94) (V 20)).put (some 95) (V 21)).put (some 96) (V 22)).put (some 97) (V 23)).put (some 98) (V 24)).put (some 99) (V 25)).put (some 100) (V 26)).put (some 101) (V 27)).put (some 102) (V 28)).put (some 103) (V 29)).put (some 104) (V 30)).put (some 105) (V 31)).put (some 106) (V 32)).put (some 107) (V 33)).put (some 108) (V 34)).put (some 6) (V 35)), fun _ => rfl⟩
        rw [ha0] at hfr
        simp only [Act.put, List.setIfInBounds_toArray, List.set_cons_zero, List.set_cons_succ] at hfr
        have HFR := Lib.hid hfr
        clear hfr
        refine wp_region_inv (by kernel_rfl) (by kernel_rfl) (fun L A W => ∃ V : Nat → Value, A = fr V ∧ Vals (fun j => ([some (idv f), some (idv g), some (.bool false), some (.string tx), some (idv g), some (.string ty), some (.bool false), some (.bool true), some (.bool true), some (idv f), some (idv g), some (.bool false), some (.bool false), some (undef), some (undef), some (undef), some (.bool false), some (.bool true), some (.bool true), some (.bool true), some (idv f), some (idv g), some (.bool true), some (idv f), some (idv g), some (.bool false), some (.bool true), some (.bool true), some (idv g), some (idv f), some (.bool false), some (.bool true), some (.bool true), some (.bool true), some (.bool true), some (.bool true)] : List (Option Value)).getD j none) L V ∧ PdB w g7 g8 f g W) ?_ ⟨?_, ?_, ?_, ?_, ?_, ?_, ?_, ?_, ?_, ?_, ?_, ?_, ?_, ?_, ?_, ?_, ?_, ?_, ?_, ?_, ?_, ?_, ?_, ?_, ?_, ?_, ?_, ?_, ?_, ?_, ?_, ?_, ?_, ?_, ?_, ?_, trivial⟩ ?_
        · refine ⟨fun j => a0.tmps.getD (([74, 75, 76, 77, 78, 79, 80, 81, 82, 83, 84, 85, 86, 87, 88, 89, 90, 91, 92, 93, 94, 95, 96, 97, 98, 99, 100, 101, 102, 103, 104, 105, 106, 107, 108, 6] : List Nat).getD j 0) undef, ?_, Vals.no _ _ _ (far_none _ _ rfl), HB0.out.drew⟩
          rw [HFR.out, ha0]
          rfl
        all_goals clear ha0
        · rintro L A W K hL hC hW ⟨V, rfl, HV, hB⟩ hK
          have H := Lib.hid (show ∀ W', Ext W W' → K (fr (upd V 0 (idv f))) W' from fun W' he => hK _ W' ⟨upd V 0 (idv f), rfl, HV.up 0 _ (fun x hx => Option.some.inj hx), PdB.ext hB he⟩)
          clear hK hC hW hL HV
          rw [HFR.out]
          have HLn := Lib.hid hB.1
          clear hB
          go_wp2_with ((with_reducible refine wpList_load_id ?_ (.tmp 7) ?_ (g7) f ?_ ?_ ?_); (exact rfl); (exact rfl); (exact rfl); (exact HLn.out))
          show K _ _
          have := H.out _ (Ext.refl _)
          rw [HFR.out] at this
          exact this
        · rintro L A W K hL hC hW ⟨V, rfl, HV, hB⟩ hK
          have H := Lib.hid (show ∀ W', Ext W W' → K (fr (upd V 1 (idv g))) W' from fun W' he => hK _ W' ⟨upd V 1 (idv g), rfl, HV.up 1 _ (fun x hx => Option.some.inj hx), PdB.ext hB he⟩)
          clear hK hC hW hL HV
          rw [HFR.out]
          have HLn := Lib.hid hB.2.1
          clear hB
          go_wp2_with ((with_reducible refine wpList_load_id ?_ (.tmp 8) ?_ (g8) g ?_ ?_ ?_); (exact rfl); (exact rfl); (exact rfl); (exact HLn.out))
          show K _ _
          have := H.out _ (Ext.refl _)
          rw [HFR.out] at this
          exact this
        · rintro L A W K hL hC hW ⟨V, rfl, HV, hB⟩ hK
          have e0 : V 0 = idv f := HV 0 _ rfl (hW 0 rfl)
          have e1 : V 1 = idv g := HV 1 _ rfl (hW 1 rfl)
          have H := Lib.hid (show ∀ W', Ext W W' → K (fr (upd V 2 (.bool false))) W' from fun W' he => hK _ W' ⟨upd V 2 (.bool false), rfl, HV.up 2 _ (fun x hx => Option.some.inj hx), PdB.ext hB he⟩)
          clear hK hC hW hL HV
          have u0 : (upd V 2 (.bool false)) 0 = idv f := e0
          have u1 : (upd V 2 (.bool false)) 1 = idv g := e1
          have HU := Lib.hid (show (upd V 2 (.bool false)) 0 = idv f ∧ (upd V 2 (.bool false)) 1 = idv g from ⟨u0, u1⟩)
          clear u0 u1
          rw [HFR.out]
          rw [e0, e1]
          clear e0 e1
          go_wp2_with fail
          refine (HL1.out _).mono ?_
          rintro e wx ⟨rfl, he⟩
          go_wp2_with fail
          show K _ _
          have := H.out _ he
          rw [HFR.out] at this
          obtain ⟨u0, u1⟩ := HU.out
          rw [u0, u1] at this
          exact this
        · rintro L A W K hL hC hW ⟨V, rfl, HV, hB⟩ hK
          have H := Lib.hid (show ∀ W', Ext W W' → K (fr (upd V 3 (.string tx))) W' from fun W' he => hK _ W' ⟨upd V 3 (.string tx), rfl, HV.up 3 _ (fun x hx => Option.some.inj hx), PdB.ext hB he⟩)
          clear hK hC hW hL HV
          rw [HFR.out]
          clear hB
          go_wp2_with fail
          show K _ _
          have := H.out _ (Ext.refl _)
          rw [HFR.out] at this
          exact this
        · rintro L A W K hL hC hW ⟨V, rfl, HV, hB⟩ hK
          have H := Lib.hid (show ∀ W', Ext W W' → K (fr (upd V 4 (idv g))) W' from fun W' he => hK _ W' ⟨upd V 4 (idv g), rfl, HV.up 4 _ (fun x hx => Option.some.inj hx), PdB.ext hB he⟩)
          clear hK hC hW hL HV
          rw [HFR.out]
          have HLn := Lib.hid hB.2.1
          clear hB
          go_wp2_with ((with_reducible refine wpList_load_id ?_ (.tmp 8) ?_ (g8) g ?_ ?_ ?_); (exact rfl); (exact rfl); (exact rfl); (exact HLn.out))
          show K _ _
          have := H.out _ (Ext.refl _)
          rw [HFR.out] at this
          exact this
        · rintro L A W K hL hC hW ⟨V, rfl, HV, hB⟩ hK
          have e4 : V 4 = idv g := HV 4 _ rfl (hW 4 rfl)
          have H := Lib.hid (show ∀ W', Ext W W' → K (fr (upd V 5 (.string ty))) W' from fun W' he => hK _ W' ⟨upd V 5 (.string ty), rfl, HV.up 5 _ (fun x hx => Option.some.inj hx), PdB.ext hB he⟩)
          clear hK hC hW hL HV
          have u4 : (upd V 5 (.string ty)) 4 = idv g := e4
          have HU := Lib.hid (show (upd V 5 (.string ty)) 4 = idv g from u4)
          clear u4
          rw [HFR.out]
          rw [e4]
          clear e4
          go_wp2_with fail
          refine (HTY.out _).mono ?_
          rintro e wx ⟨rfl, he⟩
          go_wp2_with fail
          show K _ _
          have := H.out _ he
          rw [HFR.out] at this
          obtain u4 := HU.out
          rw [u4] at this
          exact this
        · rintro L A W K hL hC hW ⟨V, rfl, HV, hB⟩ hK
          have e3 : V 3 = .string tx := HV 3 _ rfl (hW 3 rfl)
          have e5 : V 5 = .string ty := HV 5 _ rfl (hW 5 rfl)
          have H := Lib.hid (show ∀ W', Ext W W' → K (fr (upd V 6 (.bool false))) W' from fun W' he => hK _ W' ⟨upd V 6 (.bool false), rfl, HV.up 6 _ (fun x hx => Option.some.inj hx), PdB.ext hB he⟩)
          clear hK hC hW hL HV
          have u3 : (upd V 6 (.bool false)) 3 = .string tx := e3
          have u5 : (upd V 6 (.bool false)) 5 = .string ty := e5
          have HU := Lib.hid (show (upd V 6 (.bool false)) 3 = .string tx ∧ (upd V 6 (.bool false)) 5 = .string ty from ⟨u3, u5⟩)
          clear u3 u5
          rw [HFR.out]
          rw [e3, e5]
          clear e3 e5
          have hls := HTL.out
          clear hB
          go_wp2_with fail
          show K _ _
          have := H.out _ (Ext.refl _)
          rw [HFR.out] at this
          obtain ⟨u3, u5⟩ := HU.out
          rw [u3, u5] at this
          exact this
        · rintro L A W K hL hC hW ⟨V, rfl, HV, hB⟩ hK
          have e2 : V 2 = .bool false := HV 2 _ rfl (hW 2 rfl)
          have e6 : V 6 = .bool false := HV 6 _ rfl (hW 6 rfl)
          have H := Lib.hid (show ∀ W', Ext W W' → K (fr (upd V 7 (.bool true))) W' from fun W' he => hK _ W' ⟨upd V 7 (.bool true), rfl, HV.up 7 _ (fun x hx => Option.some.inj hx), PdB.ext hB he⟩)
          clear hK hC hW hL HV
          have u2 : (upd V 7 (.bool true)) 2 = .bool false := e2
          have u6 : (upd V 7 (.bool true)) 6 = .bool false := e6
          have HU := Lib.hid (show (upd V 7 (.bool true)) 2 = .bool false ∧ (upd V 7 (.bool true)) 6 = .bool false from ⟨u2, u6⟩)
          clear u2 u6
          rw [HFR.out]
          rw [e2, e6]
          clear e2 e6
          clear hB
          go_wp2_with fail
          show K _ _
          have := H.out _ (Ext.refl _)
          rw [HFR.out] at this
          obtain ⟨u2, u6⟩ := HU.out
          rw [u2, u6] at this
          exact this
        · rintro L A W K hL hC hW ⟨V, rfl, HV, hB⟩ hK
          have e7 : V 7 = .bool true := HV 7 _ rfl (hW 7 rfl)
          have H := Lib.hid (show ∀ W', Ext W W' → K (fr (upd V 8 (.bool true))) W' from fun W' he => hK _ W' ⟨upd V 8 (.bool true), rfl, HV.up 8 _ (fun x hx => Option.some.inj hx), PdB.ext hB he⟩)
          clear hK hC hW hL HV
          have u7 : (upd V 8 (.bool true)) 7 = .bool true := e7
          have HU := Lib.hid (show (upd V 8 (.bool true)) 7 = .bool true from u7)
          clear u7
          rw [HFR.out]
          rw [e7]
          clear e7
          clear hB
          go_wp2_with fail
          show K _ _
          have := H.out _ (Ext.refl _)
          rw [HFR.out] at this
          obtain u7 := HU.out
          rw [u7] at this
          exact this
        · rintro L A W K hL hC hW ⟨V, rfl, HV, hB⟩ hK
          have e8 : V 8 = .bool true := HV 8 _ rfl (hW 8 rfl)
          have H := Lib.hid (show ∀ W', Ext W W' → K (fr (upd V 9 (idv f))) W' from fun W' he => hK _ W' ⟨upd V 9 (idv f), rfl, HV.up 9 _ (fun x hx => Option.some.inj hx), PdB.ext hB he⟩)
          clear hK hC hW hL HV
          have u8 : (upd V 9 (idv f)) 8 = .bool true := e8
          have HU := Lib.hid (show (upd V 9 (idv f)) 8 = .bool true from u8)
          clear u8
          rw [HFR.out]
          rw [e8]
          clear e8
          have HLn := Lib.hid hB.1
          clear hB
          go_wp2_with ((with_reducible refine wpList_load_id ?_ (.tmp 7) ?_ (g7) f ?_ ?_ ?_); (exact rfl); (exact rfl); (exact rfl); (exact HLn.out))
          show K _ _
          have := H.out _ (Ext.refl _)
          rw [HFR.out] at this
          obtain u8 := HU.out
          rw [u8] at this
          exact this
        · rintro L A W K hL hC hW ⟨V, rfl, HV, hB⟩ hK
          have e8 : V 8 = .bool true := HV 8 _ rfl (hW 8 rfl)
          have H := Lib.hid (show ∀ W', Ext W W' → K (fr (upd V 10 (idv g))) W' from fun W' he => hK _ W' ⟨upd V 10 (idv g), rfl, HV.up 10 _ (fun x hx => Option.some.inj hx), PdB.ext hB he⟩)
          clear hK hC hW hL HV
          have u8 : (upd V 10 (idv g)) 8 = .bool true := e8
          have HU := Lib.hid (show (upd V 10 (idv g)) 8 = .bool true from u8)
          clear u8
          rw [HFR.out]
          rw [e8]
          clear e8
          have HLn := Lib.hid hB.2.1
          clear hB
          go_wp2_with ((with_reducible refine wpList_load_id ?_ (.tmp 8) ?_ (g8) g ?_ ?_ ?_); (exact rfl); (exact rfl); (exact rfl); (exact HLn.out))
          show K _ _
          have := H.out _ (Ext.refl _)
          rw [HFR.out] at this
          obtain u8 := HU.out
          rw [u8] at this
          exact this
        · rintro L A W K hL hC hW ⟨V, rfl, HV, hB⟩ hK
          have e8 : V 8 = .bool true := HV 8 _ rfl (hW 8 rfl)
          have e9 : V 9 = idv f := HV 9 _ rfl (hW 9 rfl)
          have e10 : V 10 = idv g := HV 10 _ rfl (hW 10 rfl)
          have H := Lib.hid (show ∀ W', Ext W W' → K (fr (upd V 11 (.bool false))) W' from fun W' he => hK _ W' ⟨upd V 11 (.bool false), rfl, HV.up 11 _ (fun x hx => Option.some.inj hx), PdB.ext hB he⟩)
          clear hK hC hW hL HV
          have u8 : (upd V 11 (.bool false)) 8 = .bool true := e8
          have u9 : (upd V 11 (.bool false)) 9 = idv f := e9
          have u10 : (upd V 11 (.bool false)) 10 = idv g := e10
          have HU := Lib.hid (show (upd V 11 (.bool false)) 8 = .bool true ∧ (upd V 11 (.bool false)) 9 = idv f ∧ (upd V 11 (.bool false)) 10 = idv g from ⟨u8, u9, u10⟩)
          clear u8 u9 u10
          rw [HFR.out]
          rw [e8, e9, e10]
          clear e8 e9 e10
          go_wp2_with fail
          refine (HL1.out _).mono ?_
          rintro e wx ⟨rfl, he⟩
          go_wp2_with fail
          show K _ _
          have := H.out _ he
          rw [HFR.out] at this
          obtain ⟨u8, u9, u10⟩ := HU.out
          rw [u8, u9, u10] at this
          exact this
        · rintro L A W K hL hC hW ⟨V, rfl, HV, hB⟩ hK
          have e8 : V 8 = .bool true := HV 8 _ rfl (hW 8 rfl)
          have e11 : V 11 = .bool false := HV 11 _ rfl (hW 11 rfl)
          have H := Lib.hid (show ∀ W', Ext W W' → K (fr (upd V 12 (.bool false))) W' from fun W' he => hK _ W' ⟨upd V 12 (.bool false), rfl, HV.up 12 _ (fun x hx => Option.some.inj hx), PdB.ext hB he⟩)
          clear hK hC hW hL HV
          have u8 : (upd V 12 (.bool false)) 8 = .bool true := e8
          have u11 : (upd V 12 (.bool false)) 11 = .bool false := e11
          have HU := Lib.hid (show (upd V 12 (.bool false)) 8 = .bool true ∧ (upd V 12 (.bool false)) 11 = .bool false from ⟨u8, u11⟩)
          clear u8 u11
          rw [HFR.out]
          rw [e8, e11]
          clear e8 e11
          clear hB
          go_wp2_with fail
          show K _ _
          have := H.out _ (Ext.refl _)
          rw [HFR.out] at this
          obtain ⟨u8, u11⟩ := HU.out
          rw [u8, u11] at this
          exact this
        · rintro L A W K hL hC hW ⟨V, rfl, HV, hB⟩ hK
          have e12 : V 12 = .bool false := HV 12 _ rfl (hW 12 rfl)
          have H := Lib.hid (show ∀ W', Ext W W' → K (fr (upd V 13 (undef))) W' from fun W' he => hK _ W' ⟨upd V 13 (undef), rfl, HV.up 13 _ (fun x hx => Option.some.inj hx), PdB.ext hB he⟩)
          clear hK hC hW hL HV
          have u12 : (upd V 13 (undef)) 12 = .bool false := e12
          have HU := Lib.hid (show (upd V 13 (undef)) 12 = .bool false from u12)
          clear u12
          rw [HFR.out]
          rw [e12]
          clear e12
          clear hB
          go_wp2_with fail
          show K _ _
          have := H.out _ (Ext.refl _)
          rw [HFR.out] at this
          obtain u12 := HU.out
          rw [u12] at this
          exact this
        · rintro L A W K hL hC hW ⟨V, rfl, HV, hB⟩ hK
          have e12 : V 12 = .bool false := HV 12 _ rfl (hW 12 rfl)
          have H := Lib.hid (show ∀ W', Ext W W' → K (fr (upd V 14 (undef))) W' from fun W' he => hK _ W' ⟨upd V 14 (undef), rfl, HV.up 14 _ (fun x hx => Option.some.inj hx), PdB.ext hB he⟩)
          clear hK hC hW hL HV
          have u12 : (upd V 14 (undef)) 12 = .bool false := e12
          have HU := Lib.hid (show (upd V 14 (undef)) 12 = .bool false from u12)
          clear u12
          rw [HFR.out]
          rw [e12]
          clear e12
          clear hB
          go_wp2_with fail
          show K _ _
          have := H.out _ (Ext.refl _)
          rw [HFR.out] at this
          obtain u12 := HU.out
          rw [u12] at this
          exact this
        · rintro L A W K hL hC hW ⟨V, rfl, HV, hB⟩ hK
          have e12 : V 12 = .bool false := HV 12 _ rfl (hW 12 rfl)
          have e13 : V 13 = undef := HV 13 _ rfl (hW 13 rfl)
          have e14 : V 14 = undef := HV 14 _ rfl (hW 14 rfl)
          have H := Lib.hid (show ∀ W', Ext W W' → K (fr (upd V 15 (undef))) W' from fun W' he => hK _ W' ⟨upd V 15 (undef), rfl, HV.up 15 _ (fun x hx => Option.some.inj hx), PdB.ext hB he⟩)
          clear hK hC hW hL HV
          have u12 : (upd V 15 (undef)) 12 = .bool false := e12
          have u13 : (upd V 15 (undef)) 13 = undef := e13
          have u14 : (upd V 15 (undef)) 14 = undef := e14
          have HU := Lib.hid (show (upd V 15 (undef)) 12 = .bool false ∧ (upd V 15 (undef)) 13 = undef ∧ (upd V 15 (undef)) 14 = undef from ⟨u12, u13, u14⟩)
          clear u12 u13 u14
          rw [HFR.out]
          rw [e12, e13, e14]
          clear e12 e13 e14
          clear hB
          go_wp2_with fail
          show K _ _
          have := H.out _ (Ext.refl _)
          rw [HFR.out] at this
          obtain ⟨u12, u13, u14⟩ := HU.out
          rw [u12, u13, u14] at this
          exact this
        · rintro L A W K hL hC hW ⟨V, rfl, HV, hB⟩ hK
          have e8 : V 8 = .bool true := HV 8 _ rfl (hW 8 rfl)
          have e12 : V 12 = .bool false := HV 12 _ rfl (hW 12 rfl)
          have e15 : V 15 = undef := HV 15 _ rfl (hW 15 rfl)
          have H := Lib.hid (show ∀ W', Ext W W' → K (fr (upd V 16 (.bool false))) W' from fun W' he => hK _ W' ⟨upd V 16 (.bool false), rfl, HV.up 16 _ (fun x hx => Option.some.inj hx), PdB.ext hB he⟩)
          clear hK hC hW hL HV
          have u8 : (upd V 16 (.bool false)) 8 = .bool true := e8
          have u12 : (upd V 16 (.bool false)) 12 = .bool false := e12
          have u15 : (upd V 16 (.bool false)) 15 = undef := e15
          have HU := Lib.hid (show (upd V 16 (.bool false)) 8 = .bool true ∧ (upd V 16 (.bool false)) 12 = .bool false ∧ (upd V 16 (.bool false)) 15 = undef from ⟨u8, u12, u15⟩)
          clear u8 u12 u15
          rw [HFR.out]
          rw [e8, e12, e15]
          clear e8 e12 e15
          clear hB
          go_wp2_with fail
          show K _ _
          have := H.out _ (Ext.refl _)
          rw [HFR.out] at this
          obtain ⟨u8, u12, u15⟩ := HU.out
          rw [u8, u12, u15] at this
          exact this
        · rintro L A W K hL hC hW ⟨V, rfl, HV, hB⟩ hK
          have e8 : V 8 = .bool true := HV 8 _ rfl (hW 8 rfl)
          have e16 : V 16 = .bool false := HV 16 _ rfl (hW 16 rfl)
          have H := Lib.hid (show ∀ W', Ext W W' → K (fr (upd V 17 (.bool true))) W' from fun W' he => hK _ W' ⟨upd V 17 (.bool true), rfl, HV.up 17 _ (fun x hx => Option.some.inj hx), PdB.ext hB he⟩)
          clear hK hC hW hL HV
          have u8 : (upd V 17 (.bool true)) 8 = .bool true := e8
          have u16 : (upd V 17 (.bool true)) 16 = .bool false := e16
          have HU := Lib.hid (show (upd V 17 (.bool true)) 8 = .bool true ∧ (upd V 17 (.bool true)) 16 = .bool false from ⟨u8, u16⟩)
          clear u8 u16
          rw [HFR.out]
          rw [e8, e16]
          clear e8 e16
          clear hB
          go_wp2_with fail
          show K _ _
          have := H.out _ (Ext.refl _)
          rw [HFR.out] at this
          obtain ⟨u8, u16⟩ := HU.out
          rw [u8, u16] at this
          exact this
        · rintro L A W K hL hC hW ⟨V, rfl, HV, hB⟩ hK
          have e8 : V 8 = .bool true := HV 8 _ rfl (hW 8 rfl)
          have e17 : V 17 = .bool true := HV 17 _ rfl (hW 17 rfl)
          have H := Lib.hid (show ∀ W', Ext W W' → K (fr (upd V 18 (.bool true))) W' from fun W' he => hK _ W' ⟨upd V 18 (.bool true), rfl, HV.up 18 _ (fun x hx => Option.some.inj hx), PdB.ext hB he⟩)
          clear hK hC hW hL HV
          have u8 : (upd V 18 (.bool true)) 8 = .bool true := e8
          have u17 : (upd V 18 (.bool true)) 17 = .bool true := e17
          have HU := Lib.hid (show (upd V 18 (.bool true)) 8 = .bool true ∧ (upd V 18 (.bool true)) 17 = .bool true from ⟨u8, u17⟩)
          clear u8 u17
          rw [HFR.out]
          rw [e8, e17]
          clear e8 e17
          clear hB
          go_wp2_with fail
          show K _ _
          have := H.out _ (Ext.refl _)
          rw [HFR.out] at this
          obtain ⟨u8, u17⟩ := HU.out
          rw [u8, u17] at this
          exact this
        · rintro L A W K hL hC hW ⟨V, rfl, HV, hB⟩ hK
          have e18 : V 18 = .bool true := HV 18 _ rfl (hW 18 rfl)
          have H := Lib.hid (show ∀ W', Ext W W' → K (fr (upd V 19 (.bool true))) W' from fun W' he => hK _ W' ⟨upd V 19 (.bool true), rfl, HV.up 19 _ (fun x hx => Option.some.inj hx), PdB.ext hB he⟩)
          clear hK hC hW hL HV
          have u18 : (upd V 19 (.bool true)) 18 = .bool true := e18
          have HU := Lib.hid (show (upd V 19 (.bool true)) 18 = .bool true from u18)
          clear u18
          rw [HFR.out]
          rw [e18]
          clear e18
          clear hB
          go_wp2_with fail
          show K _ _
          have := H.out _ (Ext.refl _)
          rw [HFR.out] at this
          obtain u18 := HU.out
          rw [u18] at this
          exact this
        · rintro L A W K hL hC hW ⟨V, rfl, HV, hB⟩ hK
          have e19 : V 19 = .bool true := HV 19 _ rfl (hW 19 rfl)
          have H := Lib.hid (show ∀ W', Ext W W' → K (fr (upd V 20 (idv f))) W' from fun W' he => hK _ W' ⟨upd V 20 (idv f), rfl, HV.up 20 _ (fun x hx => Option.some.inj hx), PdB.ext hB he⟩)
          clear hK hC hW hL HV
          have u19 : (upd V 20 (idv f)) 19 = .bool true := e19
          have HU := Lib.hid (show (upd V 20 (idv f)) 19 = .bool true from u19)
          clear u19
          rw [HFR.out]
          rw [e19]
          clear e19
          have HLn := Lib.hid hB.1
          clear hB
          go_wp2_with ((with_reducible refine wpList_load_id ?_ (.tmp 7) ?_ (g7) f ?_ ?_ ?_); (exact rfl); (exact rfl); (exact rfl); (exact HLn.out))
          show K _ _
          have := H.out _ (Ext.refl _)
          rw [HFR.out] at this
          obtain u19 := HU.out
          rw [u19] at this
          exact this
        · rintro L A W K hL hC hW ⟨V, rfl, HV, hB⟩ hK
          have e19 : V 19 = .bool true := HV 19 _ rfl (hW 19 rfl)
          have H := Lib.hid (show ∀ W', Ext W W' → K (fr (upd V 21 (idv g))) W' from fun W' he => hK _ W' ⟨upd V 21 (idv g), rfl, HV.up 21 _ (fun x hx => Option.some.inj hx), PdB.ext hB he⟩)
          clear hK hC hW hL HV
          have u19 : (upd V 21 (idv g)) 19 = .bool true := e19
          have HU := Lib.hid (show (upd V 21 (idv g)) 19 = .bool true from u19)
          clear u19
          rw [HFR.out]
          rw [e19]
          clear e19
          have HLn := Lib.hid hB.2.1
          clear hB
          go_wp2_with ((with_reducible refine wpList_load_id ?_ (.tmp 8) ?_ (g8) g ?_ ?_ ?_); (exact rfl); (exact rfl); (exact rfl); (exact HLn.out))
          show K _ _
          have := H.out _ (Ext.refl _)
          rw [HFR.out] at this
          obtain u19 := HU.out
          rw [u19] at this
          exact this
        · rintro L A W K hL hC hW ⟨V, rfl, HV, hB⟩ hK
          have e19 : V 19 = .bool true := HV 19 _ rfl (hW 19 rfl)
          have e20 : V 20 = idv f := HV 20 _ rfl (hW 20 rfl)
          have e21 : V 21 = idv g := HV 21 _ rfl (hW 21 rfl)
          have H := Lib.hid (show ∀ W', Ext W W' → K (fr (upd V 22 (.bool true))) W' from fun W' he => hK _ W' ⟨upd V 22 (.bool true), rfl, HV.up 22 _ (fun x hx => Option.some.inj hx), PdB.ext hB he⟩)
          clear hK hC hW hL HV
          have u19 : (upd V 22 (.bool true)) 19 = .bool true := e19
          have u20 : (upd V 22 (.bool true)) 20 = idv f := e20
          have u21 : (upd V 22 (.bool true)) 21 = idv g := e21
          have HU := Lib.hid (show (upd V 22 (.bool true)) 19 = .bool true ∧ (upd V 22 (.bool true)) 20 = idv f ∧ (upd V 22 (.bool true)) 21 = idv g from ⟨u19, u20, u21⟩)
          clear u19 u20 u21
          rw [HFR.out]
          rw [e19, e20, e21]
          clear e19 e20 e21
          clear hB
          go_wp2_with ((with_reducible refine wpList_eql_id ?_ (.tmp 94) (.tmp 95) ?_ f g true ?_ ?_ HEQ.out ?_); (exact rfl); (exact rfl); (exact rfl); (exact rfl))
          show K _ _
          have := H.out _ (Ext.refl _)
          rw [HFR.out] at this
          obtain ⟨u19, u20, u21⟩ := HU.out
          rw [u19, u20, u21] at this
          exact this
        · rintro L A W K hL hC hW ⟨V, rfl, HV, hB⟩ hK
          have e19 : V 19 = .bool true := HV 19 _ rfl (hW 19 rfl)
          have H := Lib.hid (show ∀ W', Ext W W' → K (fr (upd V 23 (idv f))) W' from fun W' he => hK _ W' ⟨upd V 23 (idv f), rfl, HV.up 23 _ (fun x hx => Option.some.inj hx), PdB.ext hB he⟩)
          clear hK hC hW hL HV
          have u19 : (upd V 23 (idv f)) 19 = .bool true := e19
          have HU := Lib.hid (show (upd V 23 (idv f)) 19 = .bool true from u19)
          clear u19
          rw [HFR.out]
          rw [e19]
          clear e19
          have HLn := Lib.hid hB.1
          clear hB
          go_wp2_with ((with_reducible refine wpList_load_id ?_ (.tmp 7) ?_ (g7) f ?_ ?_ ?_); (exact rfl); (exact rfl); (exact rfl); (exact HLn.out))
          show K _ _
          have := H.out _ (Ext.refl _)
          rw [HFR.out] at this
          obtain u19 := HU.out
          rw [u19] at this
          exact this
        · rintro L A W K hL hC hW ⟨V, rfl, HV, hB⟩ hK
          have e19 : V 19 = .bool true := HV 19 _ rfl (hW 19 rfl)
          have H := Lib.hid (show ∀ W', Ext W W' → K (fr (upd V 24 (idv g))) W' from fun W' he => hK _ W' ⟨upd V 24 (idv g), rfl, HV.up 24 _ (fun x hx => Option.some.inj hx), PdB.ext hB he⟩)
          clear hK hC hW hL HV
          have u19 : (upd V 24 (idv g)) 19 = .bool true := e19
          have HU := Lib.hid (show (upd V 24 (idv g)) 19 = .bool true from u19)
          clear u19
          rw [HFR.out]
          rw [e19]
          clear e19
          have HLn := Lib.hid hB.2.1
          clear hB
          go_wp2_with ((with_reducible refine wpList_load_id ?_ (.tmp 8) ?_ (g8) g ?_ ?_ ?_); (exact rfl); (exact rfl); (exact rfl); (exact HLn.out))
          show K _ _
          have := H.out _ (Ext.refl _)
          rw [HFR.out] at this
          obtain u19 := HU.out
          rw [u19] at this
          exact this
        · rintro L A W K hL hC hW ⟨V, rfl, HV, hB⟩ hK
          have e19 : V 19 = .bool true := HV 19 _ rfl (hW 19 rfl)
          have e23 : V 23 = idv f := HV 23 _ rfl (hW 23 rfl)
          have e24 : V 24 = idv g := HV 24 _ rfl (hW 24 rfl)
          have H := Lib.hid (show ∀ W', Ext W W' → K (fr (upd V 25 (.bool false))) W' from fun W' he => hK _ W' ⟨upd V 25 (.bool false), rfl, HV.up 25 _ (fun x hx => Option.some.inj hx), PdB.ext hB he⟩)
          clear hK hC hW hL HV
          have u19 : (upd V 25 (.bool false)) 19 = .bool true := e19
          have u23 : (upd V 25 (.bool false)) 23 = idv f := e23
          have u24 : (upd V 25 (.bool false)) 24 = idv g := e24
          have HU := Lib.hid (show (upd V 25 (.bool false)) 19 = .bool true ∧ (upd V 25 (.bool false)) 23 = idv f ∧ (upd V 25 (.bool false)) 24 = idv g from ⟨u19, u23, u24⟩)
          clear u19 u23 u24
          rw [HFR.out]
          rw [e19, e23, e24]
          clear e19 e23 e24
          go_wp2_with fail
          refine (HL1.out _).mono ?_
          rintro e wx ⟨rfl, he⟩
          go_wp2_with fail
          show K _ _
          have := H.out _ he
          rw [HFR.out] at this
          obtain ⟨u19, u23, u24⟩ := HU.out
          rw [u19, u23, u24] at this
          exact this
        · rintro L A W K hL hC hW ⟨V, rfl, HV, hB⟩ hK
          have e19 : V 19 = .bool true := HV 19 _ rfl (hW 19 rfl)
          have e25 : V 25 = .bool false := HV 25 _ rfl (hW 25 rfl)
          have H := Lib.hid (show ∀ W', Ext W W' → K (fr (upd V 26 (.bool true))) W' from fun W' he => hK _ W' ⟨upd V 26 (.bool true), rfl, HV.up 26 _ (fun x hx => Option.some.inj hx), PdB.ext hB he⟩)
          clear hK hC hW hL HV
          have u19 : (upd V 26 (.bool true)) 19 = .bool true := e19
          have u25 : (upd V 26 (.bool true)) 25 = .bool false := e25
          have HU := Lib.hid (show (upd V 26 (.bool true)) 19 = .bool true ∧ (upd V 26 (.bool true)) 25 = .bool false from ⟨u19, u25⟩)
          clear u19 u25
          rw [HFR.out]
          rw [e19, e25]
          clear e19 e25
          clear hB
          go_wp2_with fail
          show K _ _
          have := H.out _ (Ext.refl _)
          rw [HFR.out] at this
          obtain ⟨u19, u25⟩ := HU.out
          rw [u19, u25] at this
          exact this
        · rintro L A W K hL hC hW ⟨V, rfl, HV, hB⟩ hK
          have e19 : V 19 = .bool true := HV 19 _ rfl (hW 19 rfl)
          have e26 : V 26 = .bool true := HV 26 _ rfl (hW 26 rfl)
          have H := Lib.hid (show ∀ W', Ext W W' → K (fr (upd V 27 (.bool true))) W' from fun W' he => hK _ W' ⟨upd V 27 (.bool true), rfl, HV.up 27 _ (fun x hx => Option.some.inj hx), PdB.ext hB he⟩)
          clear hK hC hW hL HV
          have u19 : (upd V 27 (.bool true)) 19 = .bool true := e19
          have u26 : (upd V 27 (.bool true)) 26 = .bool true := e26
          have HU := Lib.hid (show (upd V 27 (.bool true)) 19 = .bool true ∧ (upd V 27 (.bool true)) 26 = .bool true from ⟨u19, u26⟩)
          clear u19 u26
          rw [HFR.out]
          rw [e19, e26]
          clear e19 e26
          clear hB
          go_wp2_with fail
          show K _ _
          have := H.out _ (Ext.refl _)
          rw [HFR.out] at this
          obtain ⟨u19, u26⟩ := HU.out
          rw [u19, u26] at this
          exact this
        · rintro L A W K hL hC hW ⟨V, rfl, HV, hB⟩ hK
          have e27 : V 27 = .bool true := HV 27 _ rfl (hW 27 rfl)
          have H := Lib.hid (show ∀ W', Ext W W' → K (fr (upd V 28 (idv g))) W' from fun W' he => hK _ W' ⟨upd V 28 (idv g), rfl, HV.up 28 _ (fun x hx => Option.some.inj hx), PdB.ext hB he⟩)
          clear hK hC hW hL HV
          have u27 : (upd V 28 (idv g)) 27 = .bool true := e27
          have HU := Lib.hid (show (upd V 28 (idv g)) 27 = .bool true from u27)
          clear u27
          rw [HFR.out]
          rw [e27]
          clear e27
          have HLn := Lib.hid hB.2.1
          clear hB
          go_wp2_with ((with_reducible refine wpList_load_id ?_ (.tmp 8) ?_ (g8) g ?_ ?_ ?_); (exact rfl); (exact rfl); (exact rfl); (exact HLn.out))
          show K _ _
          have := H.out _ (Ext.refl _)
          rw [HFR.out] at this
          obtain u27 := HU.out
          rw [u27] at this
          exact this
        · rintro L A W K hL hC hW ⟨V, rfl, HV, hB⟩ hK
          have e27 : V 27 = .bool true := HV 27 _ rfl (hW 27 rfl)
          have H := Lib.hid (show ∀ W', Ext W W' → K (fr (upd V 29 (idv f))) W' from fun W' he => hK _ W' ⟨upd V 29 (idv f), rfl, HV.up 29 _ (fun x hx => Option.some.inj hx), PdB.ext hB he⟩)
          clear hK hC hW hL HV
          have u27 : (upd V 29 (idv f)) 27 = .bool true := e27
          have HU := Lib.hid (show (upd V 29 (idv f)) 27 = .bool true from u27)
          clear u27
          rw [HFR.out]
          rw [e27]
          clear e27
          have HLn := Lib.hid hB.1
          clear hB
          go_wp2_with ((with_reducible refine wpList_load_id ?_ (.tmp 7) ?_ (g7) f ?_ ?_ ?_); (exact rfl); (exact rfl); (exact rfl); (exact HLn.out))
          show K _ _
          have := H.out _ (Ext.refl _)
          rw [HFR.out] at this
          obtain u27 := HU.out
          rw [u27] at this
          exact this
        · rintro L A W K hL hC hW ⟨V, rfl, HV, hB⟩ hK
          have e27 : V 27 = .bool true := HV 27 _ rfl (hW 27 rfl)
          have e28 : V 28 = idv g := HV 28 _ rfl (hW 28 rfl)
          have e29 : V 29 = idv f := HV 29 _ rfl (hW 29 rfl)
          have H := Lib.hid (show ∀ W', Ext W W' → K (fr (upd V 30 (.bool false))) W' from fun W' he => hK _ W' ⟨upd V 30 (.bool false), rfl, HV.up 30 _ (fun x hx => Option.some.inj hx), PdB.ext hB he⟩)
          clear hK hC hW hL HV
          have u27 : (upd V 30 (.bool false)) 27 = .bool true := e27
          have u28 : (upd V 30 (.bool false)) 28 = idv g := e28
          have u29 : (upd V 30 (.bool false)) 29 = idv f := e29
          have HU := Lib.hid (show (upd V 30 (.bool false)) 27 = .bool true ∧ (upd V 30 (.bool false)) 28 = idv g ∧ (upd V 30 (.bool false)) 29 = idv f from ⟨u27, u28, u29⟩)
          clear u27 u28 u29
          rw [HFR.out]
          rw [e27, e28, e29]
          clear e27 e28 e29
          go_wp2_with fail
          refine (HL2.out _).mono ?_
          rintro e wx ⟨rfl, he⟩
          go_wp2_with fail
          show K _ _
          have := H.out _ he
          rw [HFR.out] at this
          obtain ⟨u27, u28, u29⟩ := HU.out
          rw [u27, u28, u29] at this
          exact this
        · rintro L A W K hL hC hW ⟨V, rfl, HV, hB⟩ hK
          have e27 : V 27 = .bool true := HV 27 _ rfl (hW 27 rfl)
          have e30 : V 30 = .bool false := HV 30 _ rfl (hW 30 rfl)
          have H := Lib.hid (show ∀ W', Ext W W' → K (fr (upd V 31 (.bool true))) W' from fun W' he => hK _ W' ⟨upd V 31 (.bool true), rfl, HV.up 31 _ (fun x hx => Option.some.inj hx), PdB.ext hB he⟩)
          clear hK hC hW hL HV
          have u27 : (upd V 31 (.bool true)) 27 = .bool true := e27
          have u30 : (upd V 31 (.bool true)) 30 = .bool false := e30
          have HU := Lib.hid (show (upd V 31 (.bool true)) 27 = .bool true ∧ (upd V 31 (.bool true)) 30 = .bool false from ⟨u27, u30⟩)
          clear u27 u30
          rw [HFR.out]
          rw [e27, e30]
          clear e27 e30
          clear hB
          go_wp2_with fail
          show K _ _
          have := H.out _ (Ext.refl _)
          rw [HFR.out] at this
          obtain ⟨u27, u30⟩ := HU.out
          rw [u27, u30] at this
          exact this
        · rintro L A W K hL hC hW ⟨V, rfl, HV, hB⟩ hK
          have e19 : V 19 = .bool true := HV 19 _ rfl (hW 19 rfl)
          have e27 : V 27 = .bool true := HV 27 _ rfl (hW 27 rfl)
          have e31 : V 31 = .bool true := HV 31 _ rfl (hW 31 rfl)
          have H := Lib.hid (show ∀ W', Ext W W' → K (fr (upd V 32 (.bool true))) W' from fun W' he => hK _ W' ⟨upd V 32 (.bool true), rfl, HV.up 32 _ (fun x hx => Option.some.inj hx), PdB.ext hB he⟩)
          clear hK hC hW hL HV
          have u19 : (upd V 32 (.bool true)) 19 = .bool true := e19
          have u27 : (upd V 32 (.bool true)) 27 = .bool true := e27
          have u31 : (upd V 32 (.bool true)) 31 = .bool true := e31
          have HU := Lib.hid (show (upd V 32 (.bool true)) 19 = .bool true ∧ (upd V 32 (.bool true)) 27 = .bool true ∧ (upd V 32 (.bool true)) 31 = .bool true from ⟨u19, u27, u31⟩)
          clear u19 u27 u31
          rw [HFR.out]
          rw [e19, e27, e31]
          clear e19 e27 e31
          clear hB
          go_wp2_with fail
          show K _ _
          have := H.out _ (Ext.refl _)
          rw [HFR.out] at this
          obtain ⟨u19, u27, u31⟩ := HU.out
          rw [u19, u27, u31] at this
          exact this
        · rintro L A W K hL hC hW ⟨V, rfl, HV, hB⟩ hK
          have e19 : V 19 = .bool true := HV 19 _ rfl (hW 19 rfl)
          have e22 : V 22 = .bool true := HV 22 _ rfl (hW 22 rfl)
          have e32 : V 32 = .bool true := HV 32 _ rfl (hW 32 rfl)
          have H := Lib.hid (show ∀ W', Ext W W' → K (fr (upd V 33 (.bool true))) W' from fun W' he => hK _ W' ⟨upd V 33 (.bool true), rfl, HV.up 33 _ (fun x hx => Option.some.inj hx), PdB.ext hB he⟩)
          clear hK hC hW hL HV
          have u19 : (upd V 33 (.bool true)) 19 = .bool true := e19
          have u22 : (upd V 33 (.bool true)) 22 = .bool true := e22
          have u32 : (upd V 33 (.bool true)) 32 = .bool true := e32
          have HU := Lib.hid (show (upd V 33 (.bool true)) 19 = .bool true ∧ (upd V 33 (.bool true)) 22 = .bool true ∧ (upd V 33 (.bool true)) 32 = .bool true from ⟨u19, u22, u32⟩)
          clear u19 u22 u32
          rw [HFR.out]
          rw [e19, e22, e32]
          clear e19 e22 e32
          clear hB
          go_wp2_with fail
          show K _ _
          have := H.out _ (Ext.refl _)
          rw [HFR.out] at this
          obtain ⟨u19, u22, u32⟩ := HU.out
          rw [u19, u22, u32] at this
          exact this
        · rintro L A W K hL hC hW ⟨V, rfl, HV, hB⟩ hK
          have e19 : V 19 = .bool true := HV 19 _ rfl (hW 19 rfl)
          have e33 : V 33 = .bool true := HV 33 _ rfl (hW 33 rfl)
          have H := Lib.hid (show ∀ W', Ext W W' → K (fr (upd V 34 (.bool true))) W' from fun W' he => hK _ W' ⟨upd V 34 (.bool true), rfl, HV.up 34 _ (fun x hx => Option.some.inj hx), PdB.ext hB he⟩)
          clear hK hC hW hL HV
          have u19 : (upd V 34 (.bool true)) 19 = .bool true := e19
          have u33 : (upd V 34 (.bool true)) 33 = .bool true := e33
          have HU := Lib.hid (show (upd V 34 (.bool true)) 19 = .bool true ∧ (upd V 34 (.bool true)) 33 = .bool true from ⟨u19, u33⟩)
          clear u19 u33
          rw [HFR.out]
          rw [e19, e33]
          clear e19 e33
          clear hB
          go_wp2_with fail
          show K _ _
          have := H.out _ (Ext.refl _)
          rw [HFR.out] at this
          obtain ⟨u19, u33⟩ := HU.out
          rw [u19, u33] at this
          exact this
        · rintro L A W K hL hC hW ⟨V, rfl, HV, hB⟩ hK
          have e34 : V 34 = .bool true := HV 34 _ rfl (hW 34 rfl)
          have H := Lib.hid (show ∀ W', Ext W W' → K (fr (upd V 35 (.bool true))) W' from fun W' he => hK _ W' ⟨upd V 35 (.bool true), rfl, HV.up 35 _ (fun x hx => Option.some.inj hx), PdB.ext hB he⟩)
          clear hK hC hW hL HV
          have u34 : (upd V 35 (.bool true)) 34 = .bool true := e34
          have HU := Lib.hid (show (upd V 35 (.bool true)) 34 = .bool true from u34)
          clear u34
          rw [HFR.out]
          rw [e34]
          clear e34
          clear hB
          go_wp2_with fail
          show K _ _
          have := H.out _ (Ext.refl _)
          rw [HFR.out] at this
          obtain u34 := HU.out
          rw [u34] at this
          exact this
        · rintro L A W hL ⟨V, rfl, HV, hB⟩
          have e0 : V 0 = idv f := HV 0 _ rfl (hL 0 (by simp))
          have e1 : V 1 = idv g := HV 1 _ rfl (hL 1 (by simp))
          have e2 : V 2 = .bool false := HV 2 _ rfl (hL 2 (by simp))
          have e3 : V 3 = .string tx := HV 3 _ rfl (hL 3 (by simp))
          have e4 : V 4 = idv g := HV 4 _ rfl (hL 4 (by simp))
          have e5 : V 5 = .string ty := HV 5 _ rfl (hL 5 (by simp))
          have e6 : V 6 = .bool false := HV 6 _ rfl (hL 6 (by simp))
          have e7 : V 7 = .bool true := HV 7 _ rfl (hL 7 (by simp))
          have e8 : V 8 = .bool true := HV 8 _ rfl (hL 8 (by simp))
          have e9 : V 9 = idv f := HV 9 _ rfl (hL 9 (by simp))
          have e10 : V 10 = idv g := HV 10 _ rfl (hL 10 (by simp))
          have e11 : V 11 = .bool false := HV 11 _ rfl (hL 11 (by simp))
          have e12 : V 12 = .bool false := HV 12 _ rfl (hL 12 (by simp))
          have e13 : V 13 = undef := HV 13 _ rfl (hL 13 (by simp))
          have e14 : V 14 = undef := HV 14 _ rfl (hL 14 (by simp))
          have e15 : V 15 = undef := HV 15 _ rfl (hL 15 (by simp))
          have e16 : V 16 = .bool false := HV 16 _ rfl (hL 16 (by simp))
          have e17 : V 17 = .bool true := HV 17 _ rfl (hL 17 (by simp))
          have e18 : V 18 = .bool true := HV 18 _ rfl (hL 18 (by simp))
          have e19 : V 19 = .bool true := HV 19 _ rfl (hL 19 (by simp))
          have e20 : V 20 = idv f := HV 20 _ rfl (hL 20 (by simp))
          have e21 : V 21 = idv g := HV 21 _ rfl (hL 21 (by simp))
          have e22 : V 22 = .bool true := HV 22 _ rfl (hL 22 (by simp))
          have e23 : V 23 = idv f := HV 23 _ rfl (hL 23 (by simp))
          have e24 : V 24 = idv g := HV 24 _ rfl (hL 24 (by simp))
          have e25 : V 25 = .bool false := HV 25 _ rfl (hL 25 (by simp))
          have e26 : V 26 = .bool true := HV 26 _ rfl (hL 26 (by simp))
          have e27 : V 27 = .bool true := HV 27 _ rfl (hL 27 (by simp))
          have e28 : V 28 = idv g := HV 28 _ rfl (hL 28 (by simp))
          have e29 : V 29 = idv f := HV 29 _ rfl (hL 29 (by simp))
          have e30 : V 30 = .bool false := HV 30 _ rfl (hL 30 (by simp))
          have e31 : V 31 = .bool true := HV 31 _ rfl (hL 31 (by simp))
          have e32 : V 32 = .bool true := HV 32 _ rfl (hL 32 (by simp))
          have e33 : V 33 = .bool true := HV 33 _ rfl (hL 33 (by simp))
          have e34 : V 34 = .bool true := HV 34 _ rfl (hL 34 (by simp))
          have e35 : V 35 = .bool true := HV 35 _ rfl (hL 35 (by simp))
          rw [HFR.out]
          rw [e0, e1, e2, e3, e4, e5, e6, e7, e8, e9, e10, e11, e12, e13, e14, e15, e16, e17, e18, e19, e20, e21, e22, e23, e24, e25, e26, e27, e28, e29, e30, e31, e32, e33, e34, e35]
          clear hL HV HFR e0 e1 e2 e3 e4 e5 e6 e7 e8 e9 e10 e11 e12 e13 e14 e15 e16 e17 e18 e19 e20 e21 e22 e23 e24 e25 e26 e27 e28 e29 e30 e31 e32 e33 e34 e35
          go_wp2_with fail
          go_ret
          exact ⟨rfl, hB.2.2⟩
  | false =>
    have HV := Lib.hid (show prsV s = .tuple #[idv (fun _ => 0), .int .i64 130] by unfold prsV; rw [if_neg (by rw [hok]; simp)])
    rw [HV.out]
    clear HV hok
    go_upto_region 14 with (first
      | ((with_reducible refine wpList_store_id ?_ ?_ (.tmp 12) (.tmp 55) ?_ w11.heap.size (ic fun _ => 0) (fun _ => 0) ?_ ?_ ?_ ?_ ?_); (exact rfl); (exact rfl); (exact rfl); (exact rfl); (exact rfl); (exact Cs.new _ _ _ _ rfl); (exact ic_size _); intro w12 k12 q12; have K12 := Lib.hid k12; have HB1 : Hid (PdB w g7 g8 f g w12) := ⟨Cs.kept (Cs.alloc HB0.out.1 _) q12 (some_ne (by have := Cs.lt HB0.out.1; omega)), Cs.kept (Cs.alloc HB0.out.2.1 _) q12 (some_ne (by have := Cs.lt HB0.out.2.1; omega)), (HB0.out.2.2.alloc _).grown q12 HB0.out.2.2.size⟩; clear k12 q12)
      | ((with_reducible refine wpList_load_id ?_ (.tmp 12) ?_ w11.heap.size (fun _ => 0) ?_ ?_ ?_); (exact rfl); (exact rfl); (exact rfl); (exact K12.out))
      | ((with_reducible refine wpList_neq_id ?_ (.tmp 69) (.tmp 70) ?_ (fun _ => 0) (fun _ => 0) false ?_ ?_ (same_self _) ?_); (exact rfl); (exact rfl); (exact rfl); (exact rfl)))
    have HB0 := HB1
    clear HB1 K12
    obtain ⟨x1, hx1⟩ : ∃ x, lsR f g 32 0 = x := ⟨_, rfl⟩
    obtain ⟨x2, hx2⟩ : ∃ x, lsR g f 32 0 = x := ⟨_, rfl⟩
    have hb12 := lsR_both f g 32 0
    have hsm := same_less f g
    rw [hx1, hx2] at hb12 hsm
    have HL1 := Lib.hid (fun W => less_any f g W)
    have HL2 := Lib.hid (fun W => less_any g f W)
    rw [hx1] at HL1
    rw [hx2] at HL2
    have HTL := Lib.hid (show Op.bytesLess tx.toList ty.toList = x1 by rw [HTE.out.1, HTE.out.2, tx_less f g HF.out HG.out, hx1])
    clear hx1 hx2 HTE
    cases x1 with
    | true =>
      cases x2 with
      | true => exact absurd hb12 (by simp)
      | false =>
        have HEQ := Lib.hid (show same32 f g = false by rw [hsm]; rfl)
        clear hb12 hsm
        refine wp_named fun a0 ha0 => ?_
        obtain ⟨fr, hfr⟩ : ∃ fr : (Nat → Value) → Act, ∀ V, fr V = ((((((((((((((((((((((((((((((((((((a0.put (some 74) (V 0)).put (some 75) (V 1)).put (some 76) (V 2)).put (some 77) (V 3)).put (some 78) (V 4)).put (some 79) (V 5)).put (some 80) (V 6)).put (some 81) (V 7)).put (some 82) (V 8)).put (some 83) (V 9)).put (some 84) (V 10)).put (some 85) (V 11)).put (some 86) (V 12)).put (some 87) (V 13)).put (some 88) (V 14)).put (some 89) (V 15)).put (some 90) (V 16)).put (some 91) (V 17)).put (some 92) (V 18)).put (some 93) (V 19)).put (some 94) (V 20)).put (some 95) (V 21)).put (some 96) (V 22)).put (some 97) (V 23)).put (some 98) (V 24)).put (some 99) (V 25)).put (some 100) (V 26)).put (some 101) (V 27)).put (some 102) (V 28)).put (some 103) (V 29)).put (some 104) (V 30)).put (some 105) (V 31)).put (some 106) (V 32)).put (some 107) (V 33)).put (some 108) (V 34)).put (some 6) (V 35)) := ⟨fun V => ((((((((((((((((((((((((((((((((((((a0.put (some 74) (V 0)).put (some 75) (V 1)).put (some 76) (V 2)).put (some 77) (V 3)).put (some 78) (V 4)).put (some 79) (V 5)).put (some 80) (V 6)).put (some 81) (V 7)).put (some 82) (V 8)).put (some 83) (V 9)).put (some 84) (V 10)).put (some 85) (V 11)).put (some 86) (V 12)).put (some 87) (V 13)).put (some 88) (V 14)).put (some 89) (V 15)).put (some 90) (V 16)).put (some 91) (V 17)).put (some 92) (V 18)).put (some 93) (V 19)).put (some 94) (V 20)).put (some 95) (V 21)).put (some 96) (V 22)).put (some 97) (V 23)).put (some 98) (V 24)).put (some 99) (V 25)).put (some 100) (V 26)).put (some 101) (V 27)).put (some 102) (V 28)).put (some 103) (V 29)).put (some 104) (V 30)).put (some 105) (V 31)).put (some 106) (V 32)).put (some 107) (V 33)).put (some 108) (V 34)).put (some 6) (V 35)), fun _ => rfl⟩
        rw [ha0] at hfr
        simp only [Act.put, List.setIfInBounds_toArray, List.set_cons_zero, List.set_cons_succ] at hfr
        have HFR := Lib.hid hfr
        clear hfr
        refine wp_region_inv (by kernel_rfl) (by kernel_rfl) (fun L A W => ∃ V : Nat → Value, A = fr V ∧ Vals (fun j => ([some (idv f), some (idv g), some (.bool true), some (.string tx), some (idv g), some (.string ty), some (.bool true), some (.bool true), some (.bool true), some (idv f), some (idv g), some (.bool true), some (.bool true), some (idv g), some (idv f), some (.bool false), some (.bool false), some (.bool true), some (.bool true), some (.bool true), some (idv f), some (idv g), some (.bool false), some (idv f), some (idv g), some (.bool true), some (.bool false), some (.bool false), some (undef), some (undef), some (undef), some (undef), some (.bool false), some (.bool true), some (.bool true), some (.bool true)] : List (Option Value)).getD j none) L V ∧ PdB w g7 g8 f g W) ?_ ⟨?_, ?_, ?_, ?_, ?_, ?_, ?_, ?_, ?_, ?_, ?_, ?_, ?_, ?_, ?_, ?_, ?_, ?_, ?_, ?_, ?_, ?_, ?_, ?_, ?_, ?_, ?_, ?_, ?_, ?_, ?_, ?_, ?_, ?_, ?_, ?_, trivial⟩ ?_
        · refine ⟨fun j => a0.tmps.getD (([74, 75, 76, 77, 78, 79, 80, 81, 82, 83, 84, 85, 86, 87, 88, 89, 90, 91, 92, 93, 94, 95, 96, 97, 98, 99, 100, 101, 102, 103, 104, 105, 106, 107, 108, 6] : List Nat).getD j 0) undef, ?_, Vals.no _ _ _ (far_none _ _ rfl), HB0.out.drew⟩
          rw [HFR.out, ha0]
          rfl
        all_goals clear ha0
        · rintro L A W K hL hC hW ⟨V, rfl, HV, hB⟩ hK
          have H := Lib.hid (show ∀ W', Ext W W' → K (fr (upd V 0 (idv f))) W' from fun W' he => hK _ W' ⟨upd V 0 (idv f), rfl, HV.up 0 _ (fun x hx => Option.some.inj hx), PdB.ext hB he⟩)
          clear hK hC hW hL HV
          rw [HFR.out]
          have HLn := Lib.hid hB.1
          clear hB
          go_wp2_with ((with_reducible refine wpList_load_id ?_ (.tmp 7) ?_ (g7) f ?_ ?_ ?_); (exact rfl); (exact rfl); (exact rfl); (exact HLn.out))
          show K _ _
          have := H.out _ (Ext.refl _)
          rw [HFR.out] at this
          exact this
        · rintro L A W K hL hC hW ⟨V, rfl, HV, hB⟩ hK
          have H := Lib.hid (show ∀ W', Ext W W' → K (fr (upd V 1 (idv g))) W' from fun W' he => hK _ W' ⟨upd V 1 (idv g), rfl, HV.up 1 _ (fun x hx => Option.some.inj hx), PdB.ext hB he⟩)
          clear hK hC hW hL HV
          rw [HFR.out]
          have HLn := Lib.hid hB.2.1
          clear hB
          go_wp2_with ((with_reducible refine wpList_load_id ?_ (.tmp 8) ?_ (g8) g ?_ ?_ ?_); (exact rfl); (exact rfl); (exact rfl); (exact HLn.out))
          show K _ _
          have := H.out _ (Ext.refl _)
          rw [HFR.out] at this
          exact this
        · rintro L A W K hL hC hW ⟨V, rfl, HV, hB⟩ hK
          have e0 : V 0 = idv f := HV 0 _ rfl (hW 0 rfl)
          have e1 : V 1 = idv g := HV 1 _ rfl (hW 1 rfl)
          have H := Lib.hid (show ∀ W', Ext W W' → K (fr (upd V 2 (.bool true))) W' from fun W' he => hK _ W' ⟨upd V 2 (.bool true), rfl, HV.up 2 _ (fun x hx => Option.some.inj hx), PdB.ext hB he⟩)
          clear hK hC hW hL HV
          have u0 : (upd V 2 (.bool true)) 0 = idv f := e0
          have u1 : (upd V 2 (.bool true)) 1 = idv g := e1
          have HU := Lib.hid (show (upd V 2 (.bool true)) 0 = idv f ∧ (upd V 2 (.bool true)) 1 = idv g from ⟨u0, u1⟩)
          clear u0 u1
          rw [HFR.out]
          rw [e0, e1]
          clear e0 e1
          go_wp2_with fail
          refine (HL1.out _).mono ?_
          rintro e wx ⟨rfl, he⟩
          go_wp2_with fail
          show K _ _
          have := H.out _ he
          rw [HFR.out] at this
          obtain ⟨u0, u1⟩ := HU.out
          rw [u0, u1] at this
          exact this
        · rintro L A W K hL hC hW ⟨V, rfl, HV, hB⟩ hK
          have H := Lib.hid (show ∀ W', Ext W W' → K (fr (upd V 3 (.string tx))) W' from fun W' he => hK _ W' ⟨upd V 3 (.string tx), rfl, HV.up 3 _ (fun x hx => Option.some.inj hx), PdB.ext hB he⟩)
          clear hK hC hW hL HV
          rw [HFR.out]
          clear hB
          go_wp2_with fail
          show K _ _
          have := H.out _ (Ext.refl _)
          rw [HFR.out] at this
          exact this
        · rintro L A W K hL hC hW ⟨V, rfl, HV, hB⟩ hK
          have H := Lib.hid (show ∀ W', Ext W W' → K (fr (upd V 4 (idv g))) W' from fun W' he => hK _ W' ⟨upd V 4 (idv g), rfl, HV.up 4 _ (fun x hx => Option.some.inj hx), PdB.ext hB he⟩)
          clear hK hC hW hL HV
          rw [HFR.out]
          have HLn := Lib.hid hB.2.1
          clear hB
          go_wp2_with ((with_reducible refine wpList_load_id ?_ (.tmp 8) ?_ (g8) g ?_ ?_ ?_); (exact rfl); (exact rfl); (exact rfl); (exact HLn.out))
          show K _ _
          have := H.out _ (Ext.refl _)
          rw [HFR.out] at this
          exact this
        · rintro L A W K hL hC hW ⟨V, rfl, HV, hB⟩ hK
          have e4 : V 4 = idv g := HV 4 _ rfl (hW 4 rfl)
          have H := Lib.hid (show ∀ W', Ext W W' → K (fr (upd V 5 (.string ty))) W' from fun W' he => hK _ W' ⟨upd V 5 (.string ty), rfl, HV.up 5 _ (fun x hx => Option.some.inj hx), PdB.ext hB he⟩)
          clear hK hC hW hL HV
          have u4 : (upd V 5 (.string ty)) 4 = idv g := e4
          have HU := Lib.hid (show (upd V 5 (.string ty)) 4 = idv g from u4)
          clear u4
          rw [HFR.out]
          rw [e4]
          clear e4
          go_wp2_with fail
          refine (HTY.out _).mono ?_
          rintro e wx ⟨rfl, he⟩
          go_wp2_with fail
          show K _ _
          have := H.out _ he
          rw [HFR.out] at this
          obtain u4 := HU.out
          rw [u4] at this
          exact this
        · rintro L A W K hL hC hW ⟨V, rfl, HV, hB⟩ hK
          have e3 : V 3 = .string tx := HV 3 _ rfl (hW 3 rfl)
          have e5 : V 5 = .string ty := HV 5 _ rfl (hW 5 rfl)
          have H := Lib.hid (show ∀ W', Ext W W' → K (fr (upd V 6 (.bool true))) W' from fun W' he => hK _ W' ⟨upd V 6 (.bool true), rfl, HV.up 6 _ (fun x hx => Option.some.inj hx), PdB.ext hB he⟩)
          clear hK hC hW hL HV
          have u3 : (upd V 6 (.bool true)) 3 = .string tx := e3
          have u5 : (upd V 6 (.bool true)) 5 = .string ty := e5
          have HU := Lib.hid (show (upd V 6 (.bool true)) 3 = .string tx ∧ (upd V 6 (.bool true)) 5 = .string ty from ⟨u3, u5⟩)
          clear u3 u5
          rw [HFR.out]
          rw [e3, e5]
          clear e3 e5
          have hls := HTL.out
          clear hB
          go_wp2_with fail
          show K _ _
          have := H.out _ (Ext.refl _)
          rw [HFR.out] at this
          obtain ⟨u3, u5⟩ := HU.out
          rw [u3, u5] at this
          exact this
        · rintro L A W K hL hC hW ⟨V, rfl, HV, hB⟩ hK
          have e2 : V 2 = .bool true := HV 2 _ rfl (hW 2 rfl)
          have e6 : V 6 = .bool true := HV 6 _ rfl (hW 6 rfl)
          have H := Lib.hid (show ∀ W', Ext W W' → K (fr (upd V 7 (.bool true))) W' from fun W' he => hK _ W' ⟨upd V 7 (.bool true), rfl, HV.up 7 _ (fun x hx => Option.some.inj hx), PdB.ext hB he⟩)
          clear hK hC hW hL HV
          have u2 : (upd V 7 (.bool true)) 2 = .bool true := e2
          have u6 : (upd V 7 (.bool true)) 6 = .bool true := e6
          have HU := Lib.hid (show (upd V 7 (.bool true)) 2 = .bool true ∧ (upd V 7 (.bool true)) 6 = .bool true from ⟨u2, u6⟩)
          clear u2 u6
          rw [HFR.out]
          rw [e2, e6]
          clear e2 e6
          clear hB
          go_wp2_with fail
          show K _ _
          have := H.out _ (Ext.refl _)
          rw [HFR.out] at this
          obtain ⟨u2, u6⟩ := HU.out
          rw [u2, u6] at this
          exact this
        · rintro L A W K hL hC hW ⟨V, rfl, HV, hB⟩ hK
          have e7 : V 7 = .bool true := HV 7 _ rfl (hW 7 rfl)
          have H := Lib.hid (show ∀ W', Ext W W' → K (fr (upd V 8 (.bool true))) W' from fun W' he => hK _ W' ⟨upd V 8 (.bool true), rfl, HV.up 8 _ (fun x hx => Option.some.inj hx), PdB.ext hB he⟩)
          clear hK hC hW hL HV
          have u7 : (upd V 8 (.bool true)) 7 = .bool true := e7
          have HU := Lib.hid (show (upd V 8 (.bool true)) 7 = .bool true from u7)
          clear u7
          rw [HFR.out]
          rw [e7]
          clear e7
          clear hB
          go_wp2_with fail
          show K _ _
          have := H.out _ (Ext.refl _)
          rw [HFR.out] at this
          obtain u7 := HU.out
          rw [u7] at this
          exact this
        · rintro L A W K hL hC hW ⟨V, rfl, HV, hB⟩ hK
          have e8 : V 8 = .bool true := HV 8 _ rfl (hW 8 rfl)
          have H := Lib.hid (show ∀ W', Ext W W' → K (fr (upd V 9 (idv f))) W' from fun W' he => hK _ W' ⟨upd V 9 (idv f), rfl, HV.up 9 _ (fun x hx => Option.some.inj hx), PdB.ext hB he⟩)
          clear hK hC hW hL HV
          have u8 : (upd V 9 (idv f)) 8 = .bool true := e8
          have HU := Lib.hid (show (upd V 9 (idv f)) 8 = .bool true from u8)
          clear u8
          rw [HFR.out]
          rw [e8]
          clear e8
          have HLn := Lib.hid hB.1
          clear hB
          go_wp2_with ((with_reducible refine wpList_load_id ?_ (.tmp 7) ?_ (g7) f ?_ ?_ ?_); (exact rfl); (exact rfl); (exact rfl); (exact HLn.out))
          show K _ _
          have := H.out _ (Ext.refl _)
          rw [HFR.out] at this
          obtain u8 := HU.out
          rw [u8] at this
          exact this
        · rintro L A W K hL hC hW ⟨V, rfl, HV, hB⟩ hK
          have e8 : V 8 = .bool true := HV 8 _ rfl (hW 8 rfl)
          have H := Lib.hid (show ∀ W', Ext W W' → K (fr (upd V 10 (idv g))) W' from fun W' he => hK _ W' ⟨upd V 10 (idv g), rfl, HV.up 10 _ (fun x hx => Option.some.inj hx), PdB.ext hB he⟩)
          clear hK hC hW hL HV
          have u8 : (upd V 10 (idv g)) 8 = .bool true := e8
          have HU := Lib.hid (show (upd V 10 (idv g)) 8 = .bool true from u8)
          clear u8
          rw [HFR.out]
          rw [e8]
          clear e8
          have HLn := Lib.hid hB.2.1
          clear hB
          go_wp2_with ((with_reducible refine wpList_load_id ?_ (.tmp 8) ?_ (g8) g ?_ ?_ ?_); (exact rfl); (exact rfl); (exact rfl); (exact HLn.out))
          show K _ _
          have := H.out _ (Ext.refl _)
          rw [HFR.out] at this
          obtain u8 := HU.out
          rw [u8] at this
          exact this
        · rintro L A W K hL hC hW ⟨V, rfl, HV, hB⟩ hK
          have e8 : V 8 = .bool true := HV 8 _ rfl (hW 8 rfl)
          have e9 : V 9 = idv f := HV 9 _ rfl (hW 9 rfl)
          have e10 : V 10 = idv g := HV 10 _ rfl (hW 10 rfl)
          have H := Lib.hid (show ∀ W', Ext W W' → K (fr (upd V 11 (.bool true))) W' from fun W' he => hK _ W' ⟨upd V 11 (.bool true), rfl, HV.up 11 _ (fun x hx => Option.some.inj hx), PdB.ext hB he⟩)
          clear hK hC hW hL HV
          have u8 : (upd V 11 (.bool true)) 8 = .bool true := e8
          have u9 : (upd V 11 (.bool true)) 9 = idv f := e9
          have u10 : (upd V 11 (.bool true)) 10 = idv g := e10
          have HU := Lib.hid (show (upd V 11 (.bool true)) 8 = .bool true ∧ (upd V 11 (.bool true)) 9 = idv f ∧ (upd V 11 (.bool true)) 10 = idv g from ⟨u8, u9, u10⟩)
          clear u8 u9 u10
          rw [HFR.out]
          rw [e8, e9, e10]
          clear e8 e9 e10
          go_wp2_with fail
          refine (HL1.out _).mono ?_
          rintro e wx ⟨rfl, he⟩
          go_wp2_with fail
          show K _ _
          have := H.out _ he
          rw [HFR.out] at this
          obtain ⟨u8, u9, u10⟩ := HU.out
          rw [u8, u9, u10] at this
          exact this
        · rintro L A W K hL hC hW ⟨V, rfl, HV, hB⟩ hK
          have e8 : V 8 = .bool true := HV 8 _ rfl (hW 8 rfl)
          have e11 : V 11 = .bool true := HV 11 _ rfl (hW 11 rfl)
          have H := Lib.hid (show ∀ W', Ext W W' → K (fr (upd V 12 (.bool true))) W' from fun W' he => hK _ W' ⟨upd V 12 (.bool true), rfl, HV.up 12 _ (fun x hx => Option.some.inj hx), PdB.ext hB he⟩)
          clear hK hC hW hL HV
          have u8 : (upd V 12 (.bool true)) 8 = .bool true := e8
          have u11 : (upd V 12 (.bool true)) 11 = .bool true := e11
          have HU := Lib.hid (show (upd V 12 (.bool true)) 8 = .bool true ∧ (upd V 12 (.bool true)) 11 = .bool true from ⟨u8, u11⟩)
          clear u8 u11
          rw [HFR.out]
          rw [e8, e11]
          clear e8 e11
          clear hB
          go_wp2_with fail
          show K _ _
          have := H.out _ (Ext.refl _)
          rw [HFR.out] at this
          obtain ⟨u8, u11⟩ := HU.out
          rw [u8, u11] at this
          exact this
        · rintro L A W K hL hC hW ⟨V, rfl, HV, hB⟩ hK
          have e12 : V 12 = .bool true := HV 12 _ rfl (hW 12 rfl)
          have H := Lib.hid (show ∀ W', Ext W W' → K (fr (upd V 13 (idv g))) W' from fun W' he => hK _ W' ⟨upd V 13 (idv g), rfl, HV.up 13 _ (fun x hx => Option.some.inj hx), PdB.ext hB he⟩)
          clear hK hC hW hL HV
          have u12 : (upd V 13 (idv g)) 12 = .bool true := e12
          have HU := Lib.hid (show (upd V 13 (idv g)) 12 = .bool true from u12)
          clear u12
          rw [HFR.out]
          rw [e12]
          clear e12
          have HLn := Lib.hid hB.2.1
          clear hB
          go_wp2_with ((with_reducible refine wpList_load_id ?_ (.tmp 8) ?_ (g8) g ?_ ?_ ?_); (exact rfl); (exact rfl); (exact rfl); (exact HLn.out))
          show K _ _
          have := H.out _ (Ext.refl _)
          rw [HFR.out] at this
          obtain u12 := HU.out
          rw [u12] at this
          exact this
        · rintro L A W K hL hC hW ⟨V, rfl, HV, hB⟩ hK
          have e12 : V 12 = .bool true := HV 12 _ rfl (hW 12 rfl)
          have H := Lib.hid (show ∀ W', Ext W W' → K (fr (upd V 14 (idv f))) W' from fun W' he => hK _ W' ⟨upd V 14 (idv f), rfl, HV.up 14 _ (fun x hx => Option.some.inj hx), PdB.ext hB he⟩)
          clear hK hC hW hL HV
          have u12 : (upd V 14 (idv f)) 12 = .bool true := e12
          have HU := Lib.hid (show (upd V 14 (idv f)) 12 = .bool true from u12)
          clear u12
          rw [HFR.out]
          rw [e12]
          clear e12
          have HLn := Lib.hid hB.1
          clear hB
          go_wp2_with ((with_reducible refine wpList_load_id ?_ (.tmp 7) ?_ (g7) f ?_ ?_ ?_); (exact rfl); (exact rfl); (exact rfl); (exact HLn.out))
          show K _ _
          have := H.out _ (Ext.refl _)
          rw [HFR.out] at this
          obtain u12 := HU.out
          rw [u12] at this
          exact this
        · rintro L A W K hL hC hW ⟨V, rfl, HV, hB⟩ hK
          have e12 : V 12 = .bool true := HV 12 _ rfl (hW 12 rfl)
          have e13 : V 13 = idv g := HV 13 _ rfl (hW 13 rfl)
          have e14 : V 14 = idv f := HV 14 _ rfl (hW 14 rfl)
          have H := Lib.hid (show ∀ W', Ext W W' → K (fr (upd V 15 (.bool false))) W' from fun W' he => hK _ W' ⟨upd V 15 (.bool false), rfl, HV.up 15 _ (fun x hx => Option.some.inj hx), PdB.ext hB he⟩)
          clear hK hC hW hL HV
          have u12 : (upd V 15 (.bool false)) 12 = .bool true := e12
          have u13 : (upd V 15 (.bool false)) 13 = idv g := e13
          have u14 : (upd V 15 (.bool false)) 14 = idv f := e14
          have HU := Lib.hid (show (upd V 15 (.bool false)) 12 = .bool true ∧ (upd V 15 (.bool false)) 13 = idv g ∧ (upd V 15 (.bool false)) 14 = idv f from ⟨u12, u13, u14⟩)
          clear u12 u13 u14
          rw [HFR.out]
          rw [e12, e13, e14]
          clear e12 e13 e14
          go_wp2_with fail
          refine (HL2.out _).mono ?_
          rintro e wx ⟨rfl, he⟩
          go_wp2_with fail
          show K _ _
          have := H.out _ he
          rw [HFR.out] at this
          obtain ⟨u12, u13, u14⟩ := HU.out
          rw [u12, u13, u14] at this
          exact this
        · rintro L A W K hL hC hW ⟨V, rfl, HV, hB⟩ hK
          have e8 : V 8 = .bool true := HV 8 _ rfl (hW 8 rfl)
          have e12 : V 12 = .bool true := HV 12 _ rfl (hW 12 rfl)
          have e15 : V 15 = .bool false := HV 15 _ rfl (hW 15 rfl)
          have H := Lib.hid (show ∀ W', Ext W W' → K (fr (upd V 16 (.bool false))) W' from fun W' he => hK _ W' ⟨upd V 16 (.bool false), rfl, HV.up 16 _ (fun x hx => Option.some.inj hx), PdB.ext hB he⟩)
          clear hK hC hW hL HV
          have u8 : (upd V 16 (.bool false)) 8 = .bool true := e8
          have u12 : (upd V 16 (.bool false)) 12 = .bool true := e12
          have u15 : (upd V 16 (.bool false)) 15 = .bool false := e15
          have HU := Lib.hid (show (upd V 16 (.bool false)) 8 = .bool true ∧ (upd V 16 (.bool false)) 12 = .bool true ∧ (upd V 16 (.bool false)) 15 = .bool false from ⟨u8, u12, u15⟩)
          clear u8 u12 u15
          rw [HFR.out]
          rw [e8, e12, e15]
          clear e8 e12 e15
          clear hB
          go_wp2_with fail
          show K _ _
          have := H.out _ (Ext.refl _)
          rw [HFR.out] at this
          obtain ⟨u8, u12, u15⟩ := HU.out
          rw [u8, u12, u15] at this
          exact this
        · rintro L A W K hL hC hW ⟨V, rfl, HV, hB⟩ hK
          have e8 : V 8 = .bool true := HV 8 _ rfl (hW 8 rfl)
          have e16 : V 16 = .bool false := HV 16 _ rfl (hW 16 rfl)
          have H := Lib.hid (show ∀ W', Ext W W' → K (fr (upd V 17 (.bool true))) W' from fun W' he => hK _ W' ⟨upd V 17 (.bool true), rfl, HV.up 17 _ (fun x hx => Option.some.inj hx), PdB.ext hB he⟩)
          clear hK hC hW hL HV
          have u8 : (upd V 17 (.bool true)) 8 = .bool true := e8
          have u16 : (upd V 17 (.bool true)) 16 = .bool false := e16
          have HU := Lib.hid (show (upd V 17 (.bool true)) 8 = .bool true ∧ (upd V 17 (.bool true)) 16 = .bool false from ⟨u8, u16⟩)
          clear u8 u16
          rw [HFR.out]
          rw [e8, e16]
          clear e8 e16
          clear hB
          go_wp2_with fail
          show K _ _
          have := H.out _ (Ext.refl _)
          rw [HFR.out] at this
          obtain ⟨u8, u16⟩ := HU.out
          rw [u8, u16] at this
          exact this
        · rintro L A W K hL hC hW ⟨V, rfl, HV, hB⟩ hK
          have e8 : V 8 = .bool true := HV 8 _ rfl (hW 8 rfl)
          have e17 : V 17 = .bool true := HV 17 _ rfl (hW 17 rfl)
          have H := Lib.hid (show ∀ W', Ext W W' → K (fr (upd V 18 (.bool true))) W' from fun W' he => hK _ W' ⟨upd V 18 (.bool true), rfl, HV.up 18 _ (fun x hx => Option.some.inj hx), PdB.ext hB he⟩)
          clear hK hC hW hL HV
          have u8 : (upd V 18 (.bool true)) 8 = .bool true := e8
          have u17 : (upd V 18 (.bool true)) 17 = .bool true := e17
          have HU := Lib.hid (show (upd V 18 (.bool true)) 8 = .bool true ∧ (upd V 18 (.bool true)) 17 = .bool true from ⟨u8, u17⟩)
          clear u8 u17
          rw [HFR.out]
          rw [e8, e17]
          clear e8 e17
          clear hB
          go_wp2_with fail
          show K _ _
          have := H.out _ (Ext.refl _)
          rw [HFR.out] at this
          obtain ⟨u8, u17⟩ := HU.out
          rw [u8, u17] at this
          exact this
        · rintro L A W K hL hC hW ⟨V, rfl, HV, hB⟩ hK
          have e18 : V 18 = .bool true := HV 18 _ rfl (hW 18 rfl)
          have H := Lib.hid (show ∀ W', Ext W W' → K (fr (upd V 19 (.bool true))) W' from fun W' he => hK _ W' ⟨upd V 19 (.bool true), rfl, HV.up 19 _ (fun x hx => Option.some.inj hx), PdB.ext hB he⟩)
          clear hK hC hW hL HV
          have u18 : (upd V 19 (.bool true)) 18 = .bool true := e18
          have HU := Lib.hid (show (upd V 19 (.bool true)) 18 = .bool true from u18)
          clear u18
          rw [HFR.out]
          rw [e18]
          clear e18
          clear hB
          go_wp2_with fail
          show K _ _
          have := H.out _ (Ext.refl _)
          rw [HFR.out] at this
          obtain u18 := HU.out
          rw [u18] at this
          exact this
        · rintro L A W K hL hC hW ⟨V, rfl, HV, hB⟩ hK
          have e19 : V 19 = .bool true := HV 19 _ rfl (hW 19 rfl)
          have H := Lib.hid (show ∀ W', Ext W W' → K (fr (upd V 20 (idv f))) W' from fun W' he => hK _ W' ⟨upd V 20 (idv f), rfl, HV.up 20 _ (fun x hx => Option.some.inj hx), PdB.ext hB he⟩)
          clear hK hC hW hL HV
          have u19 : (upd V 20 (idv f)) 19 = .bool true := e19
          have HU := Lib.hid (show (upd V 20 (idv f)) 19 = .bool true from u19)
          clear u19
          rw [HFR.out]
          rw [e19]
          clear e19
          have HLn := Lib.hid hB.1
          clear hB
          go_wp2_with ((with_reducible refine wpList_load_id ?_ (.tmp 7) ?_ (g7) f ?_ ?_ ?_); (exact rfl); (exact rfl); (exact rfl); (exact HLn.out))
          show K _ _
          have := H.out _ (Ext.refl _)
          rw [HFR.out] at this
          obtain u19 := HU.out
          rw [u19] at this
          exact this
        · rintro L A W K hL hC hW ⟨V, rfl, HV, hB⟩ hK
          have e19 : V 19 = .bool true := HV 19 _ rfl (hW 19 rfl)
          have H := Lib.hid (show ∀ W', Ext W W' → K (fr (upd V 21 (idv g))) W' from fun W' he => hK _ W' ⟨upd V 21 (idv g), rfl, HV.up 21 _ (fun x hx => Option.some.inj hx), PdB.ext hB he⟩)
          clear hK hC hW hL HV
          have u19 : (upd V 21 (idv g)) 19 = .bool true := e19
          have HU := Lib.hid (show (upd V 21 (idv g)) 19 = .bool true from u19)
          clear u19
          rw [HFR.out]
          rw [e19]
          clear e19
          have HLn := Lib.hid hB.2.1
          clear hB
          go_wp2_with ((with_reducible refine wpList_load_id ?_ (.tmp 8) ?_ (g8) g ?_ ?_ ?_); (exact rfl); (exact rfl); (exact rfl); (exact HLn.out))
          show K _ _
          have := H.out _ (Ext.refl _)
          rw [HFR.out] at this
          obtain u19 := HU.out
          rw [u19] at this
          exact this
        · rintro L A W K hL hC hW ⟨V, rfl, HV, hB⟩ hK
          have e19 : V 19 = .bool true := HV 19 _ rfl (hW 19 rfl)
          have e20 : V 20 = idv f := HV 20 _ rfl (hW 20 rfl)
          have e21 : V 21 = idv g := HV 21 _ rfl (hW 21 rfl)
          have H := Lib.hid (show ∀ W', Ext W W' → K (fr (upd V 22 (.bool false))) W' from fun W' he => hK _ W' ⟨upd V 22 (.bool false), rfl, HV.up 22 _ (fun x hx => Option.some.inj hx), PdB.ext hB he⟩)
          clear hK hC hW hL HV
          have u19 : (upd V 22 (.bool false)) 19 = .bool true := e19
          have u20 : (upd V 22 (.bool false)) 20 = idv f := e20
          have u21 : (upd V 22 (.bool false)) 21 = idv g := e21
          have HU := Lib.hid (show (upd V 22 (.bool false)) 19 = .bool true ∧ (upd V 22 (.bool false)) 20 = idv f ∧ (upd V 22 (.bool false)) 21 = idv g from ⟨u19, u20, u21⟩)
          clear u19 u20 u21
          rw [HFR.out]
          rw [e19, e20, e21]
          clear e19 e20 e21
          clear hB
          go_wp2_with ((with_reducible refine wpList_eql_id ?_ (.tmp 94) (.tmp 95) ?_ f g false ?_ ?_ HEQ.out ?_); (exact rfl); (exact rfl); (exact rfl); (exact rfl))
          show K _ _
          have := H.out _ (Ext.refl _)
          rw [HFR.out] at this
          obtain ⟨u19, u20, u21⟩ := HU.out
          rw [u19, u20, u21] at this
          exact this
        · rintro L A W K hL hC hW ⟨V, rfl, HV, hB⟩ hK
          have e19 : V 19 = .bool true := HV 19 _ rfl (hW 19 rfl)
          have H := Lib.hid (show ∀ W', Ext W W' → K (fr (upd V 23 (idv f))) W' from fun W' he => hK _ W' ⟨upd V 23 (idv f), rfl, HV.up 23 _ (fun x hx => Option.some.inj hx), PdB.ext hB he⟩)
          clear hK hC hW hL HV
          have u19 : (upd V 23 (idv f)) 19 = .bool true := e19
          have HU := Lib.hid (show (upd V 23 (idv f)) 19 = .bool true from u19)
          clear u19
          rw [HFR.out]
          rw [e19]
          clear e19
          have HLn := Lib.hid hB.1
          clear hB
          go_wp2_with ((with_reducible refine wpList_load_id ?_ (.tmp 7) ?_ (g7) f ?_ ?_ ?_); (exact rfl); (exact rfl); (exact rfl); (exact HLn.out))
          show K _ _
          have := H.out _ (Ext.refl _)
          rw [HFR.out] at this
          obtain u19 := HU.out
          rw [u19] at this
          exact this
        · rintro L A W K hL hC hW ⟨V, rfl, HV, hB⟩ hK
          have e19 : V 19 = .bool true := HV 19 _ rfl (hW 19 rfl)
          have H := Lib.hid (show ∀ W', Ext W W' → K (fr (upd V 24 (idv g))) W' from fun W' he => hK _ W' ⟨upd V 24 (idv g), rfl, HV.up 24 _ (fun x hx => Option.some.inj hx), PdB.ext hB he⟩)
          clear hK hC hW hL HV
          have u19 : (upd V 24 (idv g)) 19 = .bool true := e19
          have HU := Lib.hid (show (upd V 24 (idv g)) 19 = .bool true from u19)
          clear u19
          rw [HFR.out]
          rw [e19]
          clear e19
          have HLn := Lib.hid hB.2.1
          clear hB
          go_wp2_with ((with_reducible refine wpList_load_id ?_ (.tmp 8) ?_ (g8) g ?_ ?_ ?_); (exact rfl); (exact rfl); (exact rfl); (exact HLn.out))
          show K _ _
          have := H.out _ (Ext.refl _)
          rw [HFR.out] at this
          obtain u19 := HU.out
          rw [u19] at this
          exact this
        · rintro L A W K hL hC hW ⟨V, rfl, HV, hB⟩ hK
          have e19 : V 19 = .bool true := HV 19 _ rfl (hW 19 rfl)
          have e23 : V 23 = idv f := HV 23 _ rfl (hW 23 rfl)
          have e24 : V 24 = idv g := HV 24 _ rfl (hW 24 rfl)
          have H := Lib.hid (show ∀ W', Ext W W' → K (fr (upd V 25 (.bool true))) W' from fun W' he => hK _ W' ⟨upd V 25 (.bool true), rfl, HV.up 25 _ (fun x hx => Option.some.inj hx), PdB.ext hB he⟩)
          clear hK hC hW hL HV
          have u19 : (upd V 25 (.bool true)) 19 = .bool true := e19
          have u23 : (upd V 25 (.bool true)) 23 = idv f := e23
          have u24 : (upd V 25 (.bool true)) 24 = idv g := e24
          have HU := Lib.hid (show (upd V 25 (.bool true)) 19 = .bool true ∧ (upd V 25 (.bool true)) 23 = idv f ∧ (upd V 25 (.bool true)) 24 = idv g from ⟨u19, u23, u24⟩)
          clear u19 u23 u24
          rw [HFR.out]
          rw [e19, e23, e24]
          clear e19 e23 e24
          go_wp2_with fail
          refine (HL1.out _).mono ?_
          rintro e wx ⟨rfl, he⟩
          go_wp2_with fail
          show K _ _
          have := H.out _ he
          rw [HFR.out] at this
          obtain ⟨u19, u23, u24⟩ := HU.out
          rw [u19, u23, u24] at this
          exact this
        · rintro L A W K hL hC hW ⟨V, rfl, HV, hB⟩ hK
          have e19 : V 19 = .bool true := HV 19 _ rfl (hW 19 rfl)
          have e25 : V 25 = .bool true := HV 25 _ rfl (hW 25 rfl)
          have H := Lib.hid (show ∀ W', Ext W W' → K (fr (upd V 26 (.bool false))) W' from fun W' he => hK _ W' ⟨upd V 26 (.bool false), rfl, HV.up 26 _ (fun x hx => Option.some.inj hx), PdB.ext hB he⟩)
          clear hK hC hW hL HV
          have u19 : (upd V 26 (.bool false)) 19 = .bool true := e19
          have u25 : (upd V 26 (.bool false)) 25 = .bool true := e25
          have HU := Lib.hid (show (upd V 26 (.bool false)) 19 = .bool true ∧ (upd V 26 (.bool false)) 25 = .bool true from ⟨u19, u25⟩)
          clear u19 u25
          rw [HFR.out]
          rw [e19, e25]
          clear e19 e25
          clear hB
          go_wp2_with fail
          show K _ _
          have := H.out _ (Ext.refl _)
          rw [HFR.out] at this
          obtain ⟨u19, u25⟩ := HU.out
          rw [u19, u25] at this
          exact this
        · rintro L A W K hL hC hW ⟨V, rfl, HV, hB⟩ hK
          have e19 : V 19 = .bool true := HV 19 _ rfl (hW 19 rfl)
          have e26 : V 26 = .bool false := HV 26 _ rfl (hW 26 rfl)
          have H := Lib.hid (show ∀ W', Ext W W' → K (fr (upd V 27 (.bool false))) W' from fun W' he => hK _ W' ⟨upd V 27 (.bool false), rfl, HV.up 27 _ (fun x hx => Option.some.inj hx), PdB.ext hB he⟩)
          clear hK hC hW hL HV
          have u19 : (upd V 27 (.bool false)) 19 = .bool true := e19
          have u26 : (upd V 27 (.bool false)) 26 = .bool false := e26
          have HU := Lib.hid (show (upd V 27 (.bool false)) 19 = .bool true ∧ (upd V 27 (.bool false)) 26 = .bool false from ⟨u19, u26⟩)
          clear u19 u26
          rw [HFR.out]
          rw [e19, e26]
          clear e19 e26
          clear hB
          go_wp2_with fail
          show K _ _
          have := H.out _ (Ext.refl _)
          rw [HFR.out] at this
          obtain ⟨u19, u26⟩ := HU.out
          rw [u19, u26] at this
          exact this
        · rintro L A W K hL hC hW ⟨V, rfl, HV, hB⟩ hK
          have e27 : V 27 = .bool false := HV 27 _ rfl (hW 27 rfl)
          have H := Lib.hid (show ∀ W', Ext W W' → K (fr (upd V 28 (undef))) W' from fun W' he => hK _ W' ⟨upd V 28 (undef), rfl, HV.up 28 _ (fun x hx => Option.some.inj hx), PdB.ext hB he⟩)
          clear hK hC hW hL HV
          have u27 : (upd V 28 (undef)) 27 = .bool false := e27
          have HU := Lib.hid (show (upd V 28 (undef)) 27 = .bool false from u27)
          clear u27
          rw [HFR.out]
          rw [e27]
          clear e27
          clear hB
          go_wp2_with fail
          show K _ _
          have := H.out _ (Ext.refl _)
          rw [HFR.out] at this
          obtain u27 := HU.out
          rw [u27] at this
          exact this
        · rintro L A W K hL hC hW ⟨V, rfl, HV, hB⟩ hK
          have e27 : V 27 = .bool false := HV 27 _ rfl (hW 27 rfl)
          have H := Lib.hid (show ∀ W', Ext W W' → K (fr (upd V 29 (undef))) W' from fun W' he => hK _ W' ⟨upd V 29 (undef), rfl, HV.up 29 _ (fun x hx => Option.some.inj hx), PdB.ext hB he⟩)
          clear hK hC hW hL HV
          have u27 : (upd V 29 (undef)) 27 = .bool false := e27
          have HU := Lib.hid (show (upd V 29 (undef)) 27 = .bool false from u27)
          clear u27
          rw [HFR.out]
          rw [e27]
          clear e27
          clear hB
          go_wp2_with fail
          show K _ _
          have := H.out _ (Ext.refl _)
          rw [HFR.out] at this
          obtain u27 := HU.out
          rw [u27] at this
          exact this
        · rintro L A W K hL hC hW ⟨V, rfl, HV, hB⟩ hK
          have e27 : V 27 = .bool false := HV 27 _ rfl (hW 27 rfl)
          have e28 : V 28 = undef := HV 28 _ rfl (hW 28 rfl)
          have e29 : V 29 = undef := HV 29 _ rfl (hW 29 rfl)
          have H := Lib.hid (show ∀ W', Ext W W' → K (fr (upd V 30 (undef))) W' from fun W' he => hK _ W' ⟨upd V 30 (undef), rfl, HV.up 30 _ (fun x hx => Option.some.inj hx), PdB.ext hB he⟩)
          clear hK hC hW hL HV
          have u27 : (upd V 30 (undef)) 27 = .bool false := e27
          have u28 : (upd V 30 (undef)) 28 = undef := e28
          have u29 : (upd V 30 (undef)) 29 = undef := e29
          have HU := Lib.hid (show (upd V 30 (undef)) 27 = .bool false ∧ (upd V 30 (undef)) 28 = undef ∧ (upd V 30 (undef)) 29 = undef from ⟨u27, u28, u29⟩)
          clear u27 u28 u29
          rw [HFR.out]
          rw [e27, e28, e29]
          clear e27 e28 e29
          clear hB
          go_wp2_with fail
          show K _ _
          have := H.out _ (Ext.refl _)
          rw [HFR.out] at this
          obtain ⟨u27, u28, u29⟩ := HU.out
          rw [u27, u28, u29] at this
          exact this
        · rintro L A W K hL hC hW ⟨V, rfl, HV, hB⟩ hK
          have e27 : V 27 = .bool false := HV 27 _ rfl (hW 27 rfl)
          have e30 : V 30 = undef := HV 30 _ rfl (hW 30 rfl)
          have H := Lib.hid (show ∀ W', Ext W W' → K (fr (upd V 31 (undef))) W' from fun W' he => hK _ W' ⟨upd V 31 (undef), rfl, HV.up 31 _ (fun x hx => Option.some.inj hx), PdB.ext hB he⟩)
          clear hK hC hW hL HV
          have u27 : (upd V 31 (undef)) 27 = .bool false := e27
          have u30 : (upd V 31 (undef)) 30 = undef := e30
          have HU := Lib.hid (show (upd V 31 (undef)) 27 = .bool false ∧ (upd V 31 (undef)) 30 = undef from ⟨u27, u30⟩)
          clear u27 u30
          rw [HFR.out]
          rw [e27, e30]
          clear e27 e30
          clear hB
          go_wp2_with fail
          show K _ _
          have := H.out _ (Ext.refl _)
          rw [HFR.out] at this
          obtain ⟨u27, u30⟩ := HU.out
          rw [u27, u30] at this
          exact this
        · rintro L A W K hL hC hW ⟨V, rfl, HV, hB⟩ hK
          have e19 : V 19 = .bool true := HV 19 _ rfl (hW 19 rfl)
          have e27 : V 27 = .bool false := HV 27 _ rfl (hW 27 rfl)
          have e31 : V 31 = undef := HV 31 _ rfl (hW 31 rfl)
          have H := Lib.hid (show ∀ W', Ext W W' → K (fr (upd V 32 (.bool false))) W' from fun W' he => hK _ W' ⟨upd V 32 (.bool false), rfl, HV.up 32 _ (fun x hx => Option.some.inj hx), PdB.ext hB he⟩)
          clear hK hC hW hL HV
          have u19 : (upd V 32 (.bool false)) 19 = .bool true := e19
          have u27 : (upd V 32 (.bool false)) 27 = .bool false := e27
          have u31 : (upd V 32 (.bool false)) 31 = undef := e31
          have HU := Lib.hid (show (upd V 32 (.bool false)) 19 = .bool true ∧ (upd V 32 (.bool false)) 27 = .bool false ∧ (upd V 32 (.bool false)) 31 = undef from ⟨u19, u27, u31⟩)
          clear u19 u27 u31
          rw [HFR.out]
          rw [e19, e27, e31]
          clear e19 e27 e31
          clear hB
          go_wp2_with fail
          show K _ _
          have := H.out _ (Ext.refl _)
          rw [HFR.out] at this
          obtain ⟨u19, u27, u31⟩ := HU.out
          rw [u19, u27, u31] at this
          exact this
        · rintro L A W K hL hC hW ⟨V, rfl, HV, hB⟩ hK
          have e19 : V 19 = .bool true := HV 19 _ rfl (hW 19 rfl)
          have e22 : V 22 = .bool false := HV 22 _ rfl (hW 22 rfl)
          have e32 : V 32 = .bool false := HV 32 _ rfl (hW 32 rfl)
          have H := Lib.hid (show ∀ W', Ext W W' → K (fr (upd V 33 (.bool true))) W' from fun W' he => hK _ W' ⟨upd V 33 (.bool true), rfl, HV.up 33 _ (fun x hx => Option.some.inj hx), PdB.ext hB he⟩)
          clear hK hC hW hL HV
          have u19 : (upd V 33 (.bool true)) 19 = .bool true := e19
          have u22 : (upd V 33 (.bool true)) 22 = .bool false := e22
          have u32 : (upd V 33 (.bool true)) 32 = .bool false := e32
          have HU := Lib.hid (show (upd V 33 (.bool true)) 19 = .bool true ∧ (upd V 33 (.bool true)) 22 = .bool false ∧ (upd V 33 (.bool true)) 32 = .bool false from ⟨u19, u22, u32⟩)
          clear u19 u22 u32
          rw [HFR.out]
          rw [e19, e22, e32]
          clear e19 e22 e32
          clear hB
          go_wp2_with fail
          show K _ _
          have := H.out _ (Ext.refl _)
          rw [HFR.out] at this
          obtain ⟨u19, u22, u32⟩ := HU.out
          rw [u19, u22, u32] at this
          exact this
        · rintro L A W K hL hC hW ⟨V, rfl, HV, hB⟩ hK
          have e19 : V 19 = .bool true := HV 19 _ rfl (hW 19 rfl)
          have e33 : V 33 = .bool true := HV 33 _ rfl (hW 33 rfl)
          have H := Lib.hid (show ∀ W', Ext W W' → K (fr (upd V 34 (.bool true))) W' from fun W' he => hK _ W' ⟨upd V 34 (.bool true), rfl, HV.up 34 _ (fun x hx => Option.some.inj hx), PdB.ext hB he⟩)
          clear hK hC hW hL HV
          have u19 : (upd V 34 (.bool true)) 19 = .bool true := e19
          have u33 : (upd V 34 (.bool true)) 33 = .bool true := e33
          have HU := Lib.hid (show (upd V 34 (.bool true)) 19 = .bool true ∧ (upd V 34 (.bool true)) 33 = .bool true from ⟨u19, u33⟩)
          clear u19 u33
          rw [HFR.out]
          rw [e19, e33]
          clear e19 e33
          clear hB
          go_wp2_with fail
          show K _ _
          have := H.out _ (Ext.refl _)
          rw [HFR.out] at this
          obtain ⟨u19, u33⟩ := HU.out
          rw [u19, u33] at this
          exact this
        · rintro L A W K hL hC hW ⟨V, rfl, HV, hB⟩ hK
          have e34 : V 34 = .bool true := HV 34 _ rfl (hW 34 rfl)
          have H := Lib.hid (show ∀ W', Ext W W' → K (fr (upd V 35 (.bool true))) W' from fun W' he => hK _ W' ⟨upd V 35 (.bool true), rfl, HV.up 35 _ (fun x hx => Option.some.inj hx), PdB.ext hB he⟩)
          clear hK hC hW hL HV
          have u34 : (upd V 35 (.bool true)) 34 = .bool true := e34
          have HU := Lib.hid (show (upd V 35 (.bool true)) 34 = .bool true from u34)
          clear u34
          rw [HFR.out]
          rw [e34]
          clear e34
          clear hB
          go_wp2_with fail
          show K _ _
          have := H.out _ (Ext.refl _)
          rw [HFR.out] at this
          obtain u34 := HU.out
          rw [u34] at this
          exact this
        · rintro L A W hL ⟨V, rfl, HV, hB⟩
          have e0 : V 0 = idv f := HV 0 _ rfl (hL 0 (by simp))
          have e1 : V 1 = idv g := HV 1 _ rfl (hL 1 (by simp))
          have e2 : V 2 = .bool true := HV 2 _ rfl (hL 2 (by simp))
          have e3 : V 3 = .string tx := HV 3 _ rfl (hL 3 (by simp))
          have e4 : V 4 = idv g := HV 4 _ rfl (hL 4 (by simp))
          have e5 : V 5 = .string ty := HV 5 _ rfl (hL 5 (by simp))
          have e6 : V 6 = .bool true := HV 6 _ rfl (hL 6 (by simp))
          have e7 : V 7 = .bool true := HV 7 _ rfl (hL 7 (by simp))
          have e8 : V 8 = .bool true := HV 8 _ rfl (hL 8 (by simp))
          have e9 : V 9 = idv f := HV 9 _ rfl (hL 9 (by simp))
          have e10 : V 10 = idv g := HV 10 _ rfl (hL 10 (by simp))
          have e11 : V 11 = .bool true := HV 11 _ rfl (hL 11 (by simp))
          have e12 : V 12 = .bool true := HV 12 _ rfl (hL 12 (by simp))
          have e13 : V 13 = idv g := HV 13 _ rfl (hL 13 (by simp))
          have e14 : V 14 = idv f := HV 14 _ rfl (hL 14 (by simp))
          have e15 : V 15 = .bool false := HV 15 _ rfl (hL 15 (by simp))
          have e16 : V 16 = .bool false := HV 16 _ rfl (hL 16 (by simp))
          have e17 : V 17 = .bool true := HV 17 _ rfl (hL 17 (by simp))
          have e18 : V 18 = .bool true := HV 18 _ rfl (hL 18 (by simp))
          have e19 : V 19 = .bool true := HV 19 _ rfl (hL 19 (by simp))
          have e20 : V 20 = idv f := HV 20 _ rfl (hL 20 (by simp))
          have e21 : V 21 = idv g := HV 21 _ rfl (hL 21 (by simp))
          have e22 : V 22 = .bool false := HV 22 _ rfl (hL 22 (by simp))
          have e23 : V 23 = idv f := HV 23 _ rfl (hL 23 (by simp))
          have e24 : V 24 = idv g := HV 24 _ rfl (hL 24 (by simp))
          have e25 : V 25 = .bool true := HV 25 _ rfl (hL 25 (by simp))
          have e26 : V 26 = .bool false := HV 26 _ rfl (hL 26 (by simp))
          have e27 : V 27 = .bool false := HV 27 _ rfl (hL 27 (by simp))
          have e28 : V 28 = undef := HV 28 _ rfl (hL 28 (by simp))
          have e29 : V 29 = undef := HV 29 _ rfl (hL 29 (by simp))
          have e30 : V 30 = undef := HV 30 _ rfl (hL 30 (by simp))
          have e31 : V 31 = undef := HV 31 _ rfl (hL 31 (by simp))
          have e32 : V 32 = .bool false := HV 32 _ rfl (hL 32 (by simp))
          have e33 : V 33 = .bool true := HV 33 _ rfl (hL 33 (by simp))
          have e34 : V 34 = .bool true := HV 34 _ rfl (hL 34 (by simp))
          have e35 : V 35 = .bool true := HV 35 _ rfl (hL 35 (by simp))
          rw [HFR.out]
          rw [e0, e1, e2, e3, e4, e5, e6, e7, e8, e9, e10, e11, e12, e13, e14, e15, e16, e17, e18, e19, e20, e21, e22, e23, e24, e25, e26, e27, e28, e29, e30, e31, e32, e33, e34, e35]
          clear hL HV HFR e0 e1 e2 e3 e4 e5 e6 e7 e8 e9 e10 e11 e12 e13 e14 e15 e16 e17 e18 e19 e20 e21 e22 e23 e24 e25 e26 e27 e28 e29 e30 e31 e32 e33 e34 e35
          go_wp2_with fail
          go_ret
          exact ⟨rfl, hB.2.2⟩
    | false =>
      cases x2 with
      | true =>
        have HEQ := Lib.hid (show same32 f g = false by rw [hsm]; rfl)
        clear hb12 hsm
        refine wp_named fun a0 ha0 => ?_
        obtain ⟨fr, hfr⟩ : ∃ fr : (Nat → Value) → Act, ∀ V, fr V = ((((((((((((((((((((((((((((((((((((a0.put (some 74) (V 0)).put (some 75) (V 1)).put (some 76) (V 2)).put (some 77) (V 3)).put (some 78) (V 4)).put (some 79) (V 5)).put (some 80) (V 6)).put (some 81) (V 7)).put (some 82) (V 8)).put (some 83) (V 9)).put (some 84) (V 10)).put (some 85) (V 11)).put (some 86) (V 12)).put (some 87) (V 13)).put (some 88) (V 14)).put (some 89) (V 15)).put (some 90) (V 16)).put (some 91) (V 17)).put (some 92) (V 18)).put (some 93) (V 19)).put (some 94) (V 20)).put (some 95) (V 21)).put (some 96) (V 22)).put (some 97) (V 23)).put (some 98) (V 24)).put (some 99) (V 25)).put (some 100) (V 26)).put (some 101) (V 27)).put (some 102) (V 28)).put (some 103) (V 29)).put (some 104) (V 30)).put (some 105) (V 31)).put (some 106) (V 32)).put (some 107) (V 33)).put (some 108) (V 34)).put (some 6) (V 35)) := ⟨fun V => ((((((((((((((((((((((((((((((((((((a0.put (some 74) (V 0)).put (some 75) (V 1)).put (some 76) (V 2)).put (some 77) (V 3)).put (some 78) (V 4)).put (some 79) (V 5)).put (some 80) (V 6)).put (some 81) (V 7)).put (some 82) (V 8)).put (some 83) (V 9)).put (some 84) (V 10)).put (some 85) (V 11)).put (some 86) (V 12)).put (some 87) (V 13)).put (some 88) (V 14)).put (some 89) (V 15)).put (some 90) (V 16)).put (some 91) (V 17)).put (some 92) (V 18)).put (some 93) (V 19)).put (some 94) (V 20)).put (some 95) (V 21)).put (some 96) (V 22)).put (some 97) (V 23)).put (some 98) (V 24)).put (some 99) (V 25)).put (some 100) (V 26)).put (some 101) (V 27)).put (some 102) (V 28)).put (some 103) (V 29)).put (some 104) (V 30)).put (some 105) (V 31)).put (some 106) (V 32)).put (some 107) (V 33)).put (some 108) (V 34)).put (some 6) (V 35)), fun _ => rfl⟩
        rw [ha0] at hfr
        simp only [Act.put, List.setIfInBounds_toArray, List.set_cons_zero, List.set_cons_succ] at hfr
        have HFR := Lib.hid hfr
        clear hfr
        refine wp_region_inv (by kernel_rfl) (by kernel_rfl) (fun L A W => ∃ V : Nat → Value, A = fr V ∧ Vals (fun j => ([some (idv f), some (idv g), some (.bool false), some (.string tx), some (idv g), some (.string ty), some (.bool false), some (.bool true), some (.bool true), some (idv f), some (idv g), some (.bool false), some (.bool false), some (undef), some (undef), some (undef), some (.bool false), some (.bool true), some (.bool true), some (.bool true), some (idv f), some (idv g), some (.bool false), some (idv f), some (idv g), some (.bool false), some (.bool true), some (.bool true), some (idv g), some (idv f), some (.bool true), some (.bool false), some (.bool false), some (.bool true), some (.bool true), some (.bool true)] : List (Option Value)).getD j none) L V ∧ PdB w g7 g8 f g W) ?_ ⟨?_, ?_, ?_, ?_, ?_, ?_, ?_, ?_, ?_, ?_, ?_, ?_, ?_, ?_, ?_, ?_, ?_, ?_, ?_, ?_, ?_, ?_, ?_, ?_, ?_, ?_, ?_, ?_, ?_, ?_, ?_, ?_, ?_, ?_, ?_, ?_, trivial⟩ ?_
        · refine ⟨fun j => a0.tmps.getD (([74, 75, 76, 77, 78, 79, 80, 81, 82, 83, 84, 85, 86, 87, 88, 89, 90, 91, 92, 93, 94, 95, 96, 97, 98, 99, 100, 101, 102, 103, 104, 105, 106, 107, 108, 6] : List Nat).getD j 0) undef, ?_, Vals.no _ _ _ (far_none _ _ rfl), HB0.out.drew⟩
          rw [HFR.out, ha0]
          rfl
        all_goals clear ha0
        · rintro L A W K hL hC hW ⟨V, rfl, HV, hB⟩ hK
          have H := Lib.hid (show ∀ W', Ext W W' → K (fr (upd V 0 (idv f))) W' from fun W' he => hK _ W' ⟨upd V 0 (idv f), rfl, HV.up 0 _ (fun x hx => Option.some.inj hx), PdB.ext hB he⟩)
          clear hK hC hW hL HV
          rw [HFR.out]
          have HLn := Lib.hid hB.1
          clear hB
          go_wp2_with ((with_reducible refine wpList_load_id ?_ (.tmp 7) ?_ (g7) f ?_ ?_ ?_); (exact rfl); (exact rfl); (exact rfl); (exact HLn.out))
          show K _ _
          have := H.out _ (Ext.refl _)
          rw [HFR.out] at this
          exact this
        · rintro L A W K hL hC hW ⟨V, rfl, HV, hB⟩ hK
          have H := Lib.hid (show ∀ W', Ext W W' → K (fr (upd V 1 (idv g))) W' from fun W' he => hK _ W' ⟨upd V 1 (idv g), rfl, HV.up 1 _ (fun x hx => Option.some.inj hx), PdB.ext hB he⟩)
          clear hK hC hW hL HV
          rw [HFR.out]
          have HLn := Lib.hid hB.2.1
          clear hB
          go_wp2_with ((with_reducible refine wpList_load_id ?_ (.tmp 8) ?_ (g8) g ?_ ?_ ?_); (exact rfl); (exact rfl); (exact rfl); (exact HLn.out))
          show K _ _
          have := H.out _ (Ext.refl _)
          rw [HFR.out] at this
          exact this
        · rintro L A W K hL hC hW ⟨V, rfl, HV, hB⟩ hK
          have e0 : V 0 = idv f := HV 0 _ rfl (hW 0 rfl)
          have e1 : V 1 = idv g := HV 1 _ rfl (hW 1 rfl)
          have H := Lib.hid (show ∀ W', Ext W W' → K (fr (upd V 2 (.bool false))) W' from fun W' he => hK _ W' ⟨upd V 2 (.bool false), rfl, HV.up 2 _ (fun x hx => Option.some.inj hx), PdB.ext hB he⟩)
          clear hK hC hW hL HV
          have u0 : (upd V 2 (.bool false)) 0 = idv f := e0
          have u1 : (upd V 2 (.bool false)) 1 = idv g := e1
          have HU := Lib.hid (show (upd V 2 (.bool false)) 0 = idv f ∧ (upd V 2 (.bool false)) 1 = idv g from ⟨u0, u1⟩)
          clear u0 u1
          rw [HFR.out]
          rw [e0, e1]
          clear e0 e1
          go_wp2_with fail
          refine (HL1.out _).mono ?_
          rintro e wx ⟨rfl, he⟩
          go_wp2_with fail
          show K _ _
          have := H.out _ he
          rw [HFR.out] at this
          obtain ⟨u0, u1⟩ := HU.out
          rw [u0, u1] at this
          exact this
        · rintro L A W K hL hC hW ⟨V, rfl, HV, hB⟩ hK
          have H := Lib.hid (show ∀ W', Ext W W' → K (fr (upd V 3 (.string tx))) W' from fun W' he => hK _ W' ⟨upd V 3 (.string tx), rfl, HV.up 3 _ (fun x hx => Option.some.inj hx), PdB.ext hB he⟩)
          clear hK hC hW hL HV
          rw [HFR.out]
          clear hB
          go_wp2_with fail
          show K _ _
          have := H.out _ (Ext.refl _)
          rw [HFR.out] at this
          exact this
        · rintro L A W K hL hC hW ⟨V, rfl, HV, hB⟩ hK
          have H := Lib.hid (show ∀ W', Ext W W' → K (fr (upd V 4 (idv g))) W' from fun W' he => hK _ W' ⟨upd V 4 (idv g), rfl, HV.up 4 _ (fun x hx => Option.some.inj hx), PdB.ext hB he⟩)
          clear hK hC hW hL HV
          rw [HFR.out]
          have HLn := Lib.hid hB.2.1
          clear hB
          go_wp2_with ((with_reducible refine wpList_load_id ?_ (.tmp 8) ?_ (g8) g ?_ ?_ ?_); (exact rfl); (exact rfl); (exact rfl); (exact HLn.out))
          show K _ _
          have := H.out _ (Ext.refl _)
          rw [HFR.out] at this
          exact this
        · rintro L A W K hL hC hW ⟨V, rfl, HV, hB⟩ hK
          have e4 : V 4 = idv g := HV 4 _ rfl (hW 4 rfl)
          have H := Lib.hid (show ∀ W', Ext W W' → K (fr (upd V 5 (.string ty))) W' from fun W' he => hK _ W' ⟨upd V 5 (.string ty), rfl, HV.up 5 _ (fun x hx => Option.some.inj hx), PdB.ext hB he⟩)
          clear hK hC hW hL HV
          have u4 : (upd V 5 (.string ty)) 4 = idv g := e4
          have HU := Lib.hid (show (upd V 5 (.string ty)) 4 = idv g from u4)
          clear u4
          rw [HFR.out]
          rw [e4]
          clear e4
          go_wp2_with fail
          refine (HTY.out _).mono ?_
          rintro e wx ⟨rfl, he⟩
          go_wp2_with fail
          show K _ _
          have := H.out _ he
          rw [HFR.out] at this
          obtain u4 := HU.out
          rw [u4] at this
          exact this
        · rintro L A W K hL hC hW ⟨V, rfl, HV, hB⟩ hK
          have e3 : V 3 = .string tx := HV 3 _ rfl (hW 3 rfl)
          have e5 : V 5 = .string ty := HV 5 _ rfl (hW 5 rfl)
          have H := Lib.hid (show ∀ W', Ext W W' → K (fr (upd V 6 (.bool false))) W' from fun W' he => hK _ W' ⟨upd V 6 (.bool false), rfl, HV.up 6 _ (fun x hx => Option.some.inj hx), PdB.ext hB he⟩)
          clear hK hC hW hL HV
          have u3 : (upd V 6 (.bool false)) 3 = .string tx := e3
          have u5 : (upd V 6 (.bool false)) 5 = .string ty := e5
          have HU := Lib.hid (show (upd V 6 (.bool false)) 3 = .string tx ∧ (upd V 6 (.bool false)) 5 = .string ty from ⟨u3, u5⟩)
          clear u3 u5
          rw [HFR.out]
          rw [e3, e5]
          clear e3 e5
          have hls := HTL.out
          clear hB
          go_wp2_with fail
          show K _ _
          have := H.out _ (Ext.refl _)
          rw [HFR.out] at this
          obtain ⟨u3, u5⟩ := HU.out
          rw [u3, u5] at this
          exact this
        · rintro L A W K hL hC hW ⟨V, rfl, HV, hB⟩ hK
          have e2 : V 2 = .bool false := HV 2 _ rfl (hW 2 rfl)
          have e6 : V 6 = .bool false := HV 6 _ rfl (hW 6 rfl)
          have H := Lib.hid (show ∀ W', Ext W W' → K (fr (upd V 7 (.bool true))) W' from fun W' he => hK _ W' ⟨upd V 7 (.bool true), rfl, HV.up 7 _ (fun x hx => Option.some.inj hx), PdB.ext hB he⟩)
          clear hK hC hW hL HV
          have u2 : (upd V 7 (.bool true)) 2 = .bool false := e2
          have u6 : (upd V 7 (.bool true)) 6 = .bool false := e6
          have HU := Lib.hid (show (upd V 7 (.bool true)) 2 = .bool false ∧ (upd V 7 (.bool true)) 6 = .bool false from ⟨u2, u6⟩)
          clear u2 u6
          rw [HFR.out]
          rw [e2, e6]
          clear e2 e6
          clear hB
          go_wp2_with fail
          show K _ _
          have := H.out _ (Ext.refl _)
          rw [HFR.out] at this
          obtain ⟨u2, u6⟩ := HU.out
          rw [u2, u6] at this
          exact this
        · rintro L A W K hL hC hW ⟨V, rfl, HV, hB⟩ hK
          have e7 : V 7 = .bool true := HV 7 _ rfl (hW 7 rfl)
          have H := Lib.hid (show ∀ W', Ext W W' → K (fr (upd V 8 (.bool true))) W' from fun W' he => hK _ W' ⟨upd V 8 (.bool true), rfl, HV.up 8 _ (fun x hx => Option.some.inj hx), PdB.ext hB he⟩)
          clear hK hC hW hL HV
          have u7 : (upd V 8 (.bool true)) 7 = .bool true := e7
          have HU := Lib.hid (show (upd V 8 (.bool true)) 7 = .bool true from u7)
          clear u7
          rw [HFR.out]
          rw [e7]
          clear e7
          clear hB
          go_wp2_with fail
          show K _ _
          have := H.out _ (Ext.refl _)
          rw [HFR.out] at this
          obtain u7 := HU.out
          rw [u7] at this
          exact this
        · rintro L A W K hL hC hW ⟨V, rfl, HV, hB⟩ hK
          have e8 : V 8 = .bool true := HV 8 _ rfl (hW 8 rfl)
          have H := Lib.hid (show ∀ W', Ext W W' → K (fr (upd V 9 (idv f))) W' from fun W' he => hK _ W' ⟨upd V 9 (idv f), rfl, HV.up 9 _ (fun x hx => Option.some.inj hx), PdB.ext hB he⟩)
          clear hK hC hW hL HV
          have u8 : (upd V 9 (idv f)) 8 = .bool true := e8
          have HU := Lib.hid (show (upd V 9 (idv f)) 8 = .bool true from u8)
          clear u8
          rw [HFR.out]
          rw [e8]
          clear e8
          have HLn := Lib.hid hB.1
          clear hB
          go_wp2_with ((with_reducible refine wpList_load_id ?_ (.tmp 7) ?_ (g7) f ?_ ?_ ?_); (exact rfl); (exact rfl); (exact rfl); (exact HLn.out))
          show K _ _
          have := H.out _ (Ext.refl _)
          rw [HFR.out] at this
          obtain u8 := HU.out
          rw [u8] at this
          exact this
        · rintro L A W K hL hC hW ⟨V, rfl, HV, hB⟩ hK
          have e8 : V 8 = .bool true := HV 8 _ rfl (hW 8 rfl)
          have H := Lib.hid (show ∀ W', Ext W W' → K (fr (upd V 10 (idv g))) W' from fun W' he => hK _ W' ⟨upd V 10 (idv g), rfl, HV.up 10 _ (fun x hx => Option.some.inj hx), PdB.ext hB he⟩)
          clear hK hC hW hL HV
          have u8 : (upd V 10 (idv g)) 8 = .bool true := e8
          have HU := Lib.hid (show (upd V 10 (idv g)) 8 = .bool true from u8)
          clear u8
          rw [HFR.out]
          rw [e8]
          clear e8
          have HLn := Lib.hid hB.2.1
          clear hB
          go_wp2_with ((with_reducible refine wpList_load_id ?_ (.tmp 8) ?_ (g8) g ?_ ?_ ?_); (exact rfl); (exact rfl); (exact rfl); (exact HLn.out))
          show K _ _
          have := H.out _ (Ext.refl _)
          rw [HFR.out] at this
          obtain u8 := HU.out
          rw [u8] at this
          exact this
        · rintro L A W K hL hC hW ⟨V, rfl, HV, hB⟩ hK
          have e8 : V 8 = .bool true := HV 8 _ rfl (hW 8 rfl)
          have e9 : V 9 = idv f := HV 9 _ rfl (hW 9 rfl)
          have e10 : V 10 = idv g := HV 10 _ rfl (hW 10 rfl)
          have H := Lib.hid (show ∀ W', Ext W W' → K (fr (upd V 11 (.bool false))) W' from fun W' he => hK _ W' ⟨upd V 11 (.bool false), rfl, HV.up 11 _ (fun x hx => Option.some.inj hx), PdB.ext hB he⟩)
          clear hK hC hW hL HV
          have u8 : (upd V 11 (.bool false)) 8 = .bool true := e8
          have u9 : (upd V 11 (.bool false)) 9 = idv f := e9
          have u10 : (upd V 11 (.bool false)) 10 = idv g := e10
          have HU := Lib.hid (show (upd V 11 (.bool false)) 8 = .bool true ∧ (upd V 11 (.bool false)) 9 = idv f ∧ (upd V 11 (.bool false)) 10 = idv g from ⟨u8, u9, u10⟩)
          clear u8 u9 u10
          rw [HFR.out]
          rw [e8, e9, e10]
          clear e8 e9 e10
          go_wp2_with fail
          refine (HL1.out _).mono ?_
          rintro e wx ⟨rfl, he⟩
          go_wp2_with fail
          show K _ _
          have := H.out _ he
          rw [HFR.out] at this
          obtain ⟨u8, u9, u10⟩ := HU.out
          rw [u8, u9, u10] at this
          exact this
        · rintro L A W K hL hC hW ⟨V, rfl, HV, hB⟩ hK
          have e8 : V 8 = .bool true := HV 8 _ rfl (hW 8 rfl)
          have e11 : V 11 = .bool false := HV 11 _ rfl (hW 11 rfl)
          have H := Lib.hid (show ∀ W', Ext W W' → K (fr (upd V 12 (.bool false))) W' from fun W' he => hK _ W' ⟨upd V 12 (.bool false), rfl, HV.up 12 _ (fun x hx => Option.some.inj hx), PdB.ext hB he⟩)
          clear hK hC hW hL HV
          have u8 : (upd V 12 (.bool false)) 8 = .bool true := e8
          have u11 : (upd V 12 (.bool false)) 11 = .bool false := e11
          have HU := Lib.hid (show (upd V 12 (.bool false)) 8 = .bool true ∧ (upd V 12 (.bool false)) 11 = .bool false from ⟨u8, u11⟩)
          clear u8 u11
          rw [HFR.out]
          rw [e8, e11]
          clear e8 e11
          clear hB
          go_wp2_with fail
          show K _ _
          have := H.out _ (Ext.refl _)
          rw [HFR.out] at this
          obtain ⟨u8, u11⟩ := HU.out
          rw [u8, u11] at this
          exact this
        · rintro L A W K hL hC hW ⟨V, rfl, HV, hB⟩ hK
          have e12 : V 12 = .bool false := HV 12 _ rfl (hW 12 rfl)
          have H := Lib.hid (show ∀ W', Ext W W' → K (fr (upd V 13 (undef))) W' from fun W' he => hK _ W' ⟨upd V 13 (undef), rfl, HV.up 13 _ (fun x hx => Option.some.inj hx), PdB.ext hB he⟩)
          clear hK hC hW hL HV
          have u12 : (upd V 13 (undef)) 12 = .bool false := e12
          have HU := Lib.hid (show (upd V 13 (undef)) 12 = .bool false from u12)
          clear u12
          rw [HFR.out]
          rw [e12]
          clear e12
          clear hB
          go_wp2_with fail
          show K _ _
          have := H.out _ (Ext.refl _)
          rw [HFR.out] at this
          obtain u12 := HU.out
          rw [u12] at this
          exact this
        · rintro L A W K hL hC hW ⟨V, rfl, HV, hB⟩ hK
          have e12 : V 12 = .bool false := HV 12 _ rfl (hW 12 rfl)
          have H := Lib.hid (show ∀ W', Ext W W' → K (fr (upd V 14 (undef))) W' from fun W' he => hK _ W' ⟨upd V 14 (undef), rfl, HV.up 14 _ (fun x hx => Option.some.inj hx), PdB.ext hB he⟩)
          clear hK hC hW hL HV
          have u12 : (upd V 14 (undef)) 12 = .bool false := e12
          have HU := Lib.hid (show (upd V 14 (undef)) 12 = .bool false from u12)
          clear u12
          rw [HFR.out]
          rw [e12]
          clear e12
          clear hB
          go_wp2_with fail
          show K _ _
          have := H.out _ (Ext.refl _)
          rw [HFR.out] at this
          obtain u12 := HU.out
          rw [u12] at this
          exact this
        · rintro L A W K hL hC hW ⟨V, rfl, HV, hB⟩ hK
          have e12 : V 12 = .bool false := HV 12 _ rfl (hW 12 rfl)
          have e13 : V 13 = undef := HV 13 _ rfl (hW 13 rfl)
          have e14 : V 14 = undef := HV 14 _ rfl (hW 14 rfl)
          have H := Lib.hid (show ∀ W', Ext W W' → K (fr (upd V 15 (undef))) W' from fun W' he => hK _ W' ⟨upd V 15 (undef), rfl, HV.up 15 _ (fun x hx => Option.some.inj hx), PdB.ext hB he⟩)
          clear hK hC hW hL HV
          have u12 : (upd V 15 (undef)) 12 = .bool false := e12
          have u13 : (upd V 15 (undef)) 13 = undef := e13
          have u14 : (upd V 15 (undef)) 14 = undef := e14
          have HU := Lib.hid (show (upd V 15 (undef)) 12 = .bool false ∧ (upd V 15 (undef)) 13 = undef ∧ (upd V 15 (undef)) 14 = undef from ⟨u12, u13, u14⟩)
          clear u12 u13 u14
          rw [HFR.out]
          rw [e12, e13, e14]
          clear e12 e13 e14
          clear hB
          go_wp2_with fail
          show K _ _
          have := H.out _ (Ext.refl _)
          rw [HFR.out] at this
          obtain ⟨u12, u13, u14⟩ := HU.out
          rw [u12, u13, u14] at this
          exact this
        · rintro L A W K hL hC hW ⟨V, rfl, HV, hB⟩ hK
          have e8 : V 8 = .bool true := HV 8 _ rfl (hW 8 rfl)
          have e12 : V 12 = .bool false := HV 12 _ rfl (hW 12 rfl)
          have e15 : V 15 = undef := HV 15 _ rfl (hW 15 rfl)
          have H := Lib.hid (show ∀ W', Ext W W' → K (fr (upd V 16 (.bool false))) W' from fun W' he => hK _ W' ⟨upd V 16 (.bool false), rfl, HV.up 16 _ (fun x hx => Option.some.inj hx), PdB.ext hB he⟩)
          clear hK hC hW hL HV
          have u8 : (upd V 16 (.bool false)) 8 = .bool true := e8
          have u12 : (upd V 16 (.bool false)) 12 = .bool false := e12
          have u15 : (upd V 16 (.bool false)) 15 = undef := e15
          have HU := Lib.hid (show (upd V 16 (.bool false)) 8 = .bool true ∧ (upd V 16 (.bool false)) 12 = .bool false ∧ (upd V 16 (.bool false)) 15 = undef from ⟨u8, u12, u15⟩)
          clear u8 u12 u15
          rw [HFR.out]
          rw [e8, e12, e15]
          clear e8 e12 e15
          clear hB
          go_wp2_with fail
          show K _ _
          have := H.out _ (Ext.refl _)
          rw [HFR.out] at this
          obtain ⟨u8, u12, u15⟩ := HU.out
          rw [u8, u12, u15] at this
          exact this
        · rintro L A W K hL hC hW ⟨V, rfl, HV, hB⟩ hK
          have e8 : V 8 = .bool true := HV 8 _ rfl (hW 8 rfl)
          have e16 : V 16 = .bool false := HV 16 _ rfl (hW 16 rfl)
          have H := Lib.hid (show ∀ W', Ext W W' → K (fr (upd V 17 (.bool true))) W' from fun W' he => hK _ W' ⟨upd V 17 (.bool true), rfl, HV.up 17 _ (fun x hx => Option.some.inj hx), PdB.ext hB he⟩)
          clear hK hC hW hL HV
          have u8 : (upd V 17 (.bool true)) 8 = .bool true := e8
          have u16 : (upd V 17 (.bool true)) 16 = .bool false := e16
          have HU := Lib.hid (show (upd V 17 (.bool true)) 8 = .bool true ∧ (upd V 17 (.bool true)) 16 = .bool false from ⟨u8, u16⟩)
          clear u8 u16
          rw [HFR.out]
          rw [e8, e16]
          clear e8 e16
          clear hB
          go_wp2_with fail
          show K _ _
          have := H.out _ (Ext.refl _)
          rw [HFR.out] at this
          obtain ⟨u8, u16⟩ := HU.out
          rw [u8, u16] at this
          exact this
        · rintro L A W K hL hC hW ⟨V, rfl, HV, hB⟩ hK
          have e8 : V 8 = .bool true := HV 8 _ rfl (hW 8 rfl)
          have e17 : V 17 = .bool true := HV 17 _ rfl (hW 17 rfl)
          have H := Lib.hid (show ∀ W', Ext W W' → K (fr (upd V 18 (.bool true))) W' from fun W' he => hK _ W' ⟨upd V 18 (.bool true), rfl, HV.up 18 _ (fun x hx => Option.some.inj hx), PdB.ext hB he⟩)
          clear hK hC hW hL HV
          have u8 : (upd V 18 (.bool true)) 8 = .bool true := e8
          have u17 : (upd V 18 (.bool true)) 17 = .bool true := e17
          have HU := Lib.hid (show (upd V 18 (.bool true)) 8 = .bool true ∧ (upd V 18 (.bool true)) 17 = .bool true from ⟨u8, u17⟩)
          clear u8 u17
          rw [HFR.out]
          rw [e8, e17]
          clear e8 e17
          clear hB
          go_wp2_with fail
          show K _ _
          have := H.out _ (Ext.refl _)
          rw [HFR.out] at this
          obtain ⟨u8, u17⟩ := HU.out
          rw [u8, u17] at this
          exact this
        · rintro L A W K hL hC hW ⟨V, rfl, HV, hB⟩ hK
          have e18 : V 18 = .bool true := HV 18 _ rfl (hW 18 rfl)
          have H := Lib.hid (show ∀ W', Ext W W' → K (fr (upd V 19 (.bool true))) W' from fun W' he => hK _ W' ⟨upd V 19 (.bool true), rfl, HV.up 19 _ (fun x hx => Option.some.inj hx), PdB.ext hB he⟩)
          clear hK hC hW hL HV
          have u18 : (upd V 19 (.bool true)) 18 = .bool true := e18
          have HU := Lib.hid (show (upd V 19 (.bool true)) 18 = .bool true from u18)
          clear u18
          rw [HFR.out]
          rw [e18]
          clear e18
          clear hB
          go_wp2_with fail
          show K _ _
          have := H.out _ (Ext.refl _)
          rw [HFR.out] at this
          obtain u18 := HU.out
          rw [u18] at this
          exact this
        · rintro L A W K hL hC hW ⟨V, rfl, HV, hB⟩ hK
          have e19 : V 19 = .bool true := HV 19 _ rfl (hW 19 rfl)
          have H := Lib.hid (show ∀ W', Ext W W' → K (fr (upd V 20 (idv f))) W' from fun W' he => hK _ W' ⟨upd V 20 (idv f), rfl, HV.up 20 _ (fun x hx => Option.some.inj hx), PdB.ext hB he⟩)
          clear hK hC hW hL HV
          have u19 : (upd V 20 (idv f)) 19 = .bool true := e19
          have HU := Lib.hid (show (upd V 20 (idv f)) 19 = .bool true from u19)
          clear u19
          rw [HFR.out]
          rw [e19]
          clear e19
          have HLn := Lib.hid hB.1
          clear hB
          go_wp2_with ((with_reducible refine wpList_load_id ?_ (.tmp 7) ?_ (g7) f ?_ ?_ ?_); (exact rfl); (exact rfl); (exact rfl); (exact HLn.out))
          show K _ _
          have := H.out _ (Ext.refl _)
          rw [HFR.out] at this
          obtain u19 := HU.out
          rw [u19] at this
          exact this
        · rintro L A W K hL hC hW ⟨V, rfl, HV, hB⟩ hK
          have e19 : V 19 = .bool true := HV 19 _ rfl (hW 19 rfl)
          have H := Lib.hid (show ∀ W', Ext W W' → K (fr (upd V 21 (idv g))) W' from fun W' he => hK _ W' ⟨upd V 21 (idv g), rfl, HV.up 21 _ (fun x hx => Option.some.inj hx), PdB.ext hB he⟩)
          clear hK hC hW hL HV
          have u19 : (upd V 21 (idv g)) 19 = .bool true := e19
          have HU := Lib.hid (show (upd V 21 (idv g)) 19 = .bool true from u19)
          clear u19
          rw [HFR.out]
          rw [e19]
          clear e19
          have HLn := Lib.hid hB.2.1
          clear hB
          go_wp2_with ((with_reducible refine wpList_load_id ?_ (.tmp 8) ?_ (g8) g ?_ ?_ ?_); (exact rfl); (exact rfl); (exact rfl); (exact HLn.out))
          show K _ _
          have := H.out _ (Ext.refl _)
          rw [HFR.out] at this
          obtain u19 := HU.out
          rw [u19] at this
          exact this
        · rintro L A W K hL hC hW ⟨V, rfl, HV, hB⟩ hK
          have e19 : V 19 = .bool true := HV 19 _ rfl (hW 19 rfl)
          have e20 : V 20 = idv f := HV 20 _ rfl (hW 20 rfl)
          have e21 : V 21 = idv g := HV 21 _ rfl (hW 21 rfl)
          have H := Lib.hid (show ∀ W', Ext W W' → K (fr (upd V 22 (.bool false))) W' from fun W' he => hK _ W' ⟨upd V 22 (.bool false), rfl, HV.up 22 _ (fun x hx => Option.some.inj hx), PdB.ext hB he⟩)
          clear hK hC hW hL HV
          have u19 : (upd V 22 (.bool false)) 19 = .bool true := e19
          have u20 : (upd V 22 (.bool false)) 20 = idv f := e20
          have u21 : (upd V 22 (.bool false)) 21 = idv g := e21
          have HU := Lib.hid (show (upd V 22 (.bool false)) 19 = .bool true ∧ (upd V 22 (.bool false)) 20 = idv f ∧ (upd V 22 (.bool false)) 21 = idv g from ⟨u19, u20, u21⟩)
          clear u19 u20 u21
          rw [HFR.out]
          rw [e19, e20, e21]
          clear e19 e20 e21
          clear hB
          go_wp2_with ((with_reducible refine wpList_eql_id ?_ (.tmp 94) (.tmp 95) ?_ f g false ?_ ?_ HEQ.out ?_); (exact rfl); (exact rfl); (exact rfl); (exact rfl))
          show K _ _
          have := H.out _ (Ext.refl _)
          rw [HFR.out] at this
          obtain ⟨u19, u20, u21⟩ := HU.out
          rw [u19, u20, u21] at this
          exact this
        · rintro L A W K hL hC hW ⟨V, rfl, HV, hB⟩ hK
          have e19 : V 19 = .bool true := HV 19 _ rfl (hW 19 rfl)
          have H := Lib.hid (show ∀ W', Ext W W' → K (fr (upd V 23 (idv f))) W' from fun W' he => hK _ W' ⟨upd V 23 (idv f), rfl, HV.up 23 _ (fun x hx => Option.some.inj hx), PdB.ext hB he⟩)
          clear hK hC hW hL HV
          have u19 : (upd V 23 (idv f)) 19 = .bool true := e19
          have HU := Lib.hid (show (upd V 23 (idv f)) 19 = .bool true from u19)
          clear u19
          rw [HFR.out]
          rw [e19]
          clear e19
          have HLn := Lib.hid hB.1
          clear hB
          go_wp2_with ((with_reducible refine wpList_load_id ?_ (.tmp 7) ?_ (g7) f ?_ ?_ ?_); (exact rfl); (exact rfl); (exact rfl); (exact HLn.out))
          show K _ _
          have := H.out _ (Ext.refl _)
          rw [HFR.out] at this
          obtain u19 := HU.out
          rw [u19] at this
          exact this
        · rintro L A W K hL hC hW ⟨V, rfl, HV, hB⟩ hK
          have e19 : V 19 = .bool true := HV 19 _ rfl (hW 19 rfl)
          have H := Lib.hid (show ∀ W', Ext W W' → K (fr (upd V 24 (idv g))) W' from fun W' he => hK _ W' ⟨upd V 24 (idv g), rfl, HV.up 24 _ (fun x hx => Option.some.inj hx), PdB.ext hB he⟩)
          clear hK hC hW hL HV
          have u19 : (upd V 24 (idv g)) 19 = .bool true := e19
          have HU := Lib.hid (show (upd V 24 (idv g)) 19 = .bool true from u19)
          clear u19
          rw [HFR.out]
          rw [e19]
          clear e19
          have HLn := Lib.hid hB.2.1
          clear hB
          go_wp2_with ((with_reducible refine wpList_load_id ?_ (.tmp 8) ?_ (g8) g ?_ ?_ ?_); (exact rfl); (exact rfl); (exact rfl); (exact HLn.out))
          show K _ _
          have := H.out _ (Ext.refl _)
          rw [HFR.out] at this
          obtain u19 := HU.out
          rw [u19] at this
          exact this
        · rintro L A W K hL hC hW ⟨V, rfl, HV, hB⟩ hK
          have e19 : V 19 = .bool true := HV 19 _ rfl (hW 19 rfl)
          have e23 : V 23 = idv f := HV 23 _ rfl (hW 23 rfl)
          have e24 : V 24 = idv g := HV 24 _ rfl (hW 24 rfl)
          have H := Lib.hid (show ∀ W', Ext W W' → K (fr (upd V 25 (.bool false))) W' from fun W' he => hK _ W' ⟨upd V 25 (.bool false), rfl, HV.up 25 _ (fun x hx => Option.some.inj hx), PdB.ext hB he⟩)
          clear hK hC hW hL HV
          have u19 : (upd V 25 (.bool false)) 19 = .bool true := e19
          have u23 : (upd V 25 (.bool false)) 23 = idv f := e23
          have u24 : (upd V 25 (.bool false)) 24 = idv g := e24
          have HU := Lib.hid (show (upd V 25 (.bool false)) 19 = .bool true ∧ (upd V 25 (.bool false)) 23 = idv f ∧ (upd V 25 (.bool false)) 24 = idv g from ⟨u19, u23, u24⟩)
          clear u19 u23 u24
          rw [HFR.out]
          rw [e19, e23, e24]
          clear e19 e23 e24
          go_wp2_with fail
          refine (HL1.out _).mono ?_
          rintro e wx ⟨rfl, he⟩
          go_wp2_with fail
          show K _ _
          have := H.out _ he
          rw [HFR.out] at this
          obtain ⟨u19, u23, u24⟩ := HU.out
          rw [u19, u23, u24] at this
          exact this
        · rintro L A W K hL hC hW ⟨V, rfl, HV, hB⟩ hK
          have e19 : V 19 = .bool true := HV 19 _ rfl (hW 19 rfl)
          have e25 : V 25 = .bool false := HV 25 _ rfl (hW 25 rfl)
          have H := Lib.hid (show ∀ W', Ext W W' → K (fr (upd V 26 (.bool true))) W' from fun W' he => hK _ W' ⟨upd V 26 (.bool true), rfl, HV.up 26 _ (fun x hx => Option.some.inj hx), PdB.ext hB he⟩)
          clear hK hC hW hL HV
          have u19 : (upd V 26 (.bool true)) 19 = .bool true := e19
          have u25 : (upd V 26 (.bool true)) 25 = .bool false := e25
          have HU := Lib.hid (show (upd V 26 (.bool true)) 19 = .bool true ∧ (upd V 26 (.bool true)) 25 = .bool false from ⟨u19, u25⟩)
          clear u19 u25
          rw [HFR.out]
          rw [e19, e25]
          clear e19 e25
          clear hB
          go_wp2_with fail
          show K _ _
          have := H.out _ (Ext.refl _)
          rw [HFR.out] at this
          obtain ⟨u19, u25⟩ := HU.out
          rw [u19, u25] at this
          exact this
        · rintro L A W K hL hC hW ⟨V, rfl, HV, hB⟩ hK
          have e19 : V 19 = .bool true := HV 19 _ rfl (hW 19 rfl)
          have e26 : V 26 = .bool true := HV 26 _ rfl (hW 26 rfl)
          have H := Lib.hid (show ∀ W', Ext W W' → K (fr (upd V 27 (.bool true))) W' from fun W' he => hK _ W' ⟨upd V 27 (.bool true), rfl, HV.up 27 _ (fun x hx => Option.some.inj hx), PdB.ext hB he⟩)
          clear hK hC hW hL HV
          have u19 : (upd V 27 (.bool true)) 19 = .bool true := e19
          have u26 : (upd V 27 (.bool true)) 26 = .bool true := e26
          have HU := Lib.hid (show (upd V 27 (.bool true)) 19 = .bool true ∧ (upd V 27 (.bool true)) 26 = .bool true from ⟨u19, u26⟩)
          clear u19 u26
          rw [HFR.out]
          rw [e19, e26]
          clear e19 e26
          clear hB
          go_wp2_with fail
          show K _ _
          have := H.out _ (Ext.refl _)
          rw [HFR.out] at this
          obtain ⟨u19, u26⟩ := HU.out
          rw [u19, u26] at this
          exact this
        · rintro L A W K hL hC hW ⟨V, rfl, HV, hB⟩ hK
          have e27 : V 27 = .bool true := HV 27 _ rfl (hW 27 rfl)
          have H := Lib.hid (show ∀ W', Ext W W' → K (fr (upd V 28 (idv g))) W' from fun W' he => hK _ W' ⟨upd V 28 (idv g), rfl, HV.up 28 _ (fun x hx => Option.some.inj hx), PdB.ext hB he⟩)
          clear hK hC hW hL HV
          have u27 : (upd V 28 (idv g)) 27 = .bool true := e27
          have HU := Lib.hid (show (upd V 28 (idv g)) 27 = .bool true from u27)
          clear u27
          rw [HFR.out]
          rw [e27]
          clear e27
          have HLn := Lib.hid hB.2.1
          clear hB
          go_wp2_with ((with_reducible refine wpList_load_id ?_ (.tmp 8) ?_ (g8) g ?_ ?_ ?_); (exact rfl); (exact rfl); (exact rfl); (exact HLn.out))
          show K _ _
          have := H.out _ (Ext.refl _)
          rw [HFR.out] at this
          obtain u27 := HU.out
          rw [u27] at this
          exact this
        · rintro L A W K hL hC hW ⟨V, rfl, HV, hB⟩ hK
          have e27 : V 27 = .bool true := HV 27 _ rfl (hW 27 rfl)
          have H := Lib.hid (show ∀ W', Ext W W' → K (fr (upd V 29 (idv f))) W' from fun W' he => hK _ W' ⟨upd V 29 (idv f), rfl, HV.up 29 _ (fun x hx => Option.some.inj hx), PdB.ext hB he⟩)
          clear hK hC hW hL HV
          have u27 : (upd V 29 (idv f)) 27 = .bool true := e27
          have HU := Lib.hid (show (upd V 29 (idv f)) 27 = .bool true from u27)
          clear u27
          rw [HFR.out]
          rw [e27]
          clear e27
          have HLn := Lib.hid hB.1
          clear hB
          go_wp2_with ((with_reducible refine wpList_load_id ?_ (.tmp 7) ?_ (g7) f ?_ ?_ ?_); (exact rfl); (exact rfl); (exact rfl); (exact HLn.out))
          show K _ _
          have := H.out _ (Ext.refl _)
          rw [HFR.out] at this
          obtain u27 := HU.out
          rw [u27] at this
          exact this
        · rintro L A W K hL hC hW ⟨V, rfl, HV, hB⟩ hK
          have e27 : V 27 = .bool true := HV 27 _ rfl (hW 27 rfl)
          have e28 : V 28 = idv g := HV 28 _ rfl (hW 28 rfl)
          have e29 : V 29 = idv f := HV 29 _ rfl (hW 29 rfl)
          have H := Lib.hid (show ∀ W', Ext W W' → K (fr (upd V 30 (.bool true))) W' from fun W' he => hK _ W' ⟨upd V 30 (.bool true), rfl, HV.up 30 _ (fun x hx => Option.some.inj hx), PdB.ext hB he⟩)
          clear hK hC hW hL HV
          have u27 : (upd V 30 (.bool true)) 27 = .bool true := e27
          have u28 : (upd V 30 (.bool true)) 28 = idv g := e28
          have u29 : (upd V 30 (.bool true)) 29 = idv f := e29
          have HU := Lib.hid (show (upd V 30 (.bool true)) 27 = .bool true ∧ (upd V 30 (.bool true)) 28 = idv g ∧ (upd V 30 (.bool true)) 29 = idv f from ⟨u27, u28, u29⟩)
          clear u27 u28 u29
          rw [HFR.out]
          rw [e27, e28, e29]
          clear e27 e28 e29
          go_wp2_with fail
          refine (HL2.out _).mono ?_
          rintro e wx ⟨rfl, he⟩
          go_wp2_with fail
          show K _ _
          have := H.out _ he
          rw [HFR.out] at this
          obtain ⟨u27, u28, u29⟩ := HU.out
          rw [u27, u28, u29] at this
          exact this
        · rintro L A W K hL hC hW ⟨V, rfl, HV, hB⟩ hK
          have e27 : V 27 = .bool true := HV 27 _ rfl (hW 27 rfl)
          have e30 : V 30 = .bool true := HV 30 _ rfl (hW 30 rfl)
          have H := Lib.hid (show ∀ W', Ext W W' → K (fr (upd V 31 (.bool false))) W' from fun W' he => hK _ W' ⟨upd V 31 (.bool false), rfl, HV.up 31 _ (fun x hx => Option.some.inj hx), PdB.ext hB he⟩)
          clear hK hC hW hL HV
          have u27 : (upd V 31 (.bool false)) 27 = .bool true := e27
          have u30 : (upd V 31 (.bool false)) 30 = .bool true := e30
          have HU := Lib.hid (show (upd V 31 (.bool false)) 27 = .bool true ∧ (upd V 31 (.bool false)) 30 = .bool true from ⟨u27, u30⟩)
          clear u27 u30
          rw [HFR.out]
          rw [e27, e30]
          clear e27 e30
          clear hB
          go_wp2_with fail
          show K _ _
          have := H.out _ (Ext.refl _)
          rw [HFR.out] at this
          obtain ⟨u27, u30⟩ := HU.out
          rw [u27, u30] at this
          exact this
        · rintro L A W K hL hC hW ⟨V, rfl, HV, hB⟩ hK
          have e19 : V 19 = .bool true := HV 19 _ rfl (hW 19 rfl)
          have e27 : V 27 = .bool true := HV 27 _ rfl (hW 27 rfl)
          have e31 : V 31 = .bool false := HV 31 _ rfl (hW 31 rfl)
          have H := Lib.hid (show ∀ W', Ext W W' → K (fr (upd V 32 (.bool false))) W' from fun W' he => hK _ W' ⟨upd V 32 (.bool false), rfl, HV.up 32 _ (fun x hx => Option.some.inj hx), PdB.ext hB he⟩)
          clear hK hC hW hL HV
          have u19 : (upd V 32 (.bool false)) 19 = .bool true := e19
          have u27 : (upd V 32 (.bool false)) 27 = .bool true := e27
          have u31 : (upd V 32 (.bool false)) 31 = .bool false := e31
          have HU := Lib.hid (show (upd V 32 (.bool false)) 19 = .bool true ∧ (upd V 32 (.bool false)) 27 = .bool true ∧ (upd V 32 (.bool false)) 31 = .bool false from ⟨u19, u27, u31⟩)
          clear u19 u27 u31
          rw [HFR.out]
          rw [e19, e27, e31]
          clear e19 e27 e31
          clear hB
          go_wp2_with fail
          show K _ _
          have := H.out _ (Ext.refl _)
          rw [HFR.out] at this
          obtain ⟨u19, u27, u31⟩ := HU.out
          rw [u19, u27, u31] at this
          exact this
        · rintro L A W K hL hC hW ⟨V, rfl, HV, hB⟩ hK
          have e19 : V 19 = .bool true := HV 19 _ rfl (hW 19 rfl)
          have e22 : V 22 = .bool false := HV 22 _ rfl (hW 22 rfl)
          have e32 : V 32 = .bool false := HV 32 _ rfl (hW 32 rfl)
          have H := Lib.hid (show ∀ W', Ext W W' → K (fr (upd V 33 (.bool true))) W' from fun W' he => hK _ W' ⟨upd V 33 (.bool true), rfl, HV.up 33 _ (fun x hx => Option.some.inj hx), PdB.ext hB he⟩)
          clear hK hC hW hL HV
          have u19 : (upd V 33 (.bool true)) 19 = .bool true := e19
          have u22 : (upd V 33 (.bool true)) 22 = .bool false := e22
          have u32 : (upd V 33 (.bool true)) 32 = .bool false := e32
          have HU := Lib.hid (show (upd V 33 (.bool true)) 19 = .bool true ∧ (upd V 33 (.bool true)) 22 = .bool false ∧ (upd V 33 (.bool true)) 32 = .bool false from ⟨u19, u22, u32⟩)
          clear u19 u22 u32
          rw [HFR.out]
          rw [e19, e22, e32]
          clear e19 e22 e32
          clear hB
          go_wp2_with fail
          show K _ _
          have := H.out _ (Ext.refl _)
          rw [HFR.out] at this
          obtain ⟨u19, u22, u32⟩ := HU.out
          rw [u19, u22, u32] at this
          exact this
        · rintro L A W K hL hC hW ⟨V, rfl, HV, hB⟩ hK
          have e19 : V 19 = .bool true := HV 19 _ rfl (hW 19 rfl)
          have e33 : V 33 = .bool true := HV 33 _ rfl (hW 33 rfl)
          have H := Lib.hid (show ∀ W', Ext W W' → K (fr (upd V 34 (.bool true))) W' from fun W' he => hK _ W' ⟨upd V 34 (.bool true), rfl, HV.up 34 _ (fun x hx => Option.some.inj hx), PdB.ext hB he⟩)
          clear hK hC hW hL HV
          have u19 : (upd V 34 (.bool true)) 19 = .bool true := e19
          have u33 : (upd V 34 (.bool true)) 33 = .bool true := e33
          have HU := Lib.hid (show (upd V 34 (.bool true)) 19 = .bool true ∧ (upd V 34 (.bool true)) 33 = .bool true from ⟨u19, u33⟩)
          clear u19 u33
          rw [HFR.out]
          rw [e19, e33]
          clear e19 e33
          clear hB
          go_wp2_with fail
          show K _ _
          have := H.out _ (Ext.refl _)
          rw [HFR.out] at this
          obtain ⟨u19, u33⟩ := HU.out
          rw [u19, u33] at this
          exact this
        · rintro L A W K hL hC hW ⟨V, rfl, HV, hB⟩ hK
          have e34 : V 34 = .bool true := HV 34 _ rfl (hW 34 rfl)
          have H := Lib.hid (show ∀ W', Ext W W' → K (fr (upd V 35 (.bool true))) W' from fun W' he => hK _ W' ⟨upd V 35 (.bool true), rfl, HV.up 35 _ (fun x hx => Option.some.inj hx), PdB.ext hB he⟩)
          clear hK hC hW hL HV
          have u34 : (upd V 35 (.bool true)) 34 = .bool true := e34
          have HU := Lib.hid (show (upd V 35 (.bool true)) 34 = .bool true from u34)
          clear u34
          rw [HFR.out]
          rw [e34]
          clear e34
          clear hB
          go_wp2_with fail
          show K _ _
          have := H.out _ (Ext.refl _)
          rw [HFR.out] at this
          obtain u34 := HU.out
          rw [u34] at this
          exact this
        · rintro L A W hL ⟨V, rfl, HV, hB⟩
          have e0 : V 0 = idv f := HV 0 _ rfl (hL 0 (by simp))
          have e1 : V 1 = idv g := HV 1 _ rfl (hL 1 (by simp))
          have e2 : V 2 = .bool false := HV 2 _ rfl (hL 2 (by simp))
          have e3 : V 3 = .string tx := HV 3 _ rfl (hL 3 (by simp))
          have e4 : V 4 = idv g := HV 4 _ rfl (hL 4 (by simp))
          have e5 : V 5 = .string ty := HV 5 _ rfl (hL 5 (by simp))
          have e6 : V 6 = .bool false := HV 6 _ rfl (hL 6 (by simp))
          have e7 : V 7 = .bool true := HV 7 _ rfl (hL 7 (by simp))
          have e8 : V 8 = .bool true := HV 8 _ rfl (hL 8 (by simp))
          have e9 : V 9 = idv f := HV 9 _ rfl (hL 9 (by simp))
          have e10 : V 10 = idv g := HV 10 _ rfl (hL 10 (by simp))
          have e11 : V 11 = .bool false := HV 11 _ rfl (hL 11 (by simp))
          have e12 : V 12 = .bool false := HV 12 _ rfl (hL 12 (by simp))
          have e13 : V 13 = undef := HV 13 _ rfl (hL 13 (by simp))
          have e14 : V 14 = undef := HV 14 _ rfl (hL 14 (by simp))
          have e15 : V 15 = undef := HV 15 _ rfl (hL 15 (by simp))
          have e16 : V 16 = .bool false := HV 16 _ rfl (hL 16 (by simp))
          have e17 : V 17 = .bool true := HV 17 _ rfl (hL 17 (by simp))
          have e18 : V 18 = .bool true := HV 18 _ rfl (hL 18 (by simp))
          have e19 : V 19 = .bool true := HV 19 _ rfl (hL 19 (by simp))
          have e20 : V 20 = idv f := HV 20 _ rfl (hL 20 (by simp))
          have e21 : V 21 = idv g := HV 21 _ rfl (hL 21 (by simp))
          have e22 : V 22 = .bool false := HV 22 _ rfl (hL 22 (by simp))
          have e23 : V 23 = idv f := HV 23 _ rfl (hL 23 (by simp))
          have e24 : V 24 = idv g := HV 24 _ rfl (hL 24 (by simp))
          have e25 : V 25 = .bool false := HV 25 _ rfl (hL 25 (by simp))
          have e26 : V 26 = .bool true := HV 26 _ rfl (hL 26 (by simp))
          have e27 : V 27 = .bool true := HV 27 _ rfl (hL 27 (by simp))
          have e28 : V 28 = idv g := HV 28 _ rfl (hL 28 (by simp))
          have e29 : V 29 = idv f := HV 29 _ rfl (hL 29 (by simp))
          have e30 : V 30 = .bool true := HV 30 _ rfl (hL 30 (by simp))
          have e31 : V 31 = .bool false := HV 31 _ rfl (hL 31 (by simp))
          have e32 : V 32 = .bool false := HV 32 _ rfl (hL 32 (by simp))
          have e33 : V 33 = .bool true := HV 33 _ rfl (hL 33 (by simp))
          have e34 : V 34 = .bool true := HV 34 _ rfl (hL 34 (by simp))
          have e35 : V 35 = .bool true := HV 35 _ rfl (hL 35 (by simp))
          rw [HFR.out]
          rw [e0, e1, e2, e3, e4, e5, e6, e7, e8, e9, e10, e11, e12, e13, e14, e15, e16, e17, e18, e19, e20, e21, e22, e23, e24, e25, e26, e27, e28, e29, e30, e31, e32, e33, e34, e35]
          clear hL HV HFR e0 e1 e2 e3 e4 e5 e6 e7 e8 e9 e10 e11 e12 e13 e14 e15 e16 e17 e18 e19 e20 e21 e22 e23 e24 e25 e26 e27 e28 e29 e30 e31 e32 e33 e34 e35
          go_wp2_with fail
          go_ret
          exact ⟨rfl, hB.2.2⟩
      | false =>
        have HEQ := Lib.hid (show same32 f g = true by rw [hsm]; rfl)
        clear hb12 hsm
        refine wp_named fun a0 ha0 => ?_
        obtain ⟨fr, hfr⟩ : ∃ fr : (Nat → Value) → Act, ∀ V, fr V = ((((((((((((((((((((((((((((((((((((a0.put (some 74) (V 0)).put (some 75) (V 1)).put (some 76) (V 2)).put (some 77) (V 3)).put (some 78) (V 4)).put (some 79) (V 5)).put (some 80) (V 6)).put (some 81) (V 7)).put (some 82) (V 8)).put (some 83) (V 9)).put (some 84) (V 10)).put (some 85) (V 11)).put (some 86) (V 12)).put (some 87) (V 13)).put (some 88) (V 14)).put (some 89) (V 15)).put (some 90) (V 16)).put (some 91) (V 17)).put (some 92) (V 18)).put (some 93) (V 19)).put (some 94) (V 20)).put (some 95) (V 21)).put (some 96) (V 22)).put (some 97) (V 23)).put (some 98) (V 24)).put (some 99) (V 25)).put (some 100) (V 26)).put (some 101) (V 27)).put (some 102) (V 28)).put (some 103) (V 29)).put (some 104) (V 30)).put (some 105) (V 31)).put (some 106) (V 32)).put (some 107) (V 33)).put (some 108) (V 34)).put (some 6) (V 35)) := ⟨fun V => ((((((((((((((((((((((((((((((((((((a0.put (some 74) (V 0)).put (some 75) (V 1)).put (some 76) (V 2)).put (some 77) (V 3)).put (some 78) (V 4)).put (some 79) (V 5)).put (some 80) (V 6)).put (some 81) (V 7)).put (some 82) (V 8)).put (some 83) (V 9)).put (some 84) (V 10)).put (some 85) (V 11)).put (some 86) (V 12)).put (some 87) (V 13)).put (some 88) (V 14)).put (some 89) (V 15)).put (some 90) (V 16)).put (some 91) (V 17)).put (some 92) (V 18)).put (some 93) (V 19)).put (some 94) (V 20)).put (some 95) (V 21)).put (some 96) (V 22)).put (some 97) (V 23)).put (some 98) (V 24)).put (some 99) (V 25)).put (some 100) (V 26)).put (some 101) (V 27)).put (some 102) (V 28)).put (some 103) (V 29)).put (some 104) (V 30)).put (some 105) (V 31)).put (some 106) (V 32)).put (some 107) (V 33)).put (some 108) (V 34)).put (some 6) (V 35)), fun _ => rfl⟩
        rw [ha0] at hfr
        simp only [Act.put, List.setIfInBounds_toArray, List.set_cons_zero, List.set_cons_succ] at hfr
        have HFR := Lib.hid hfr
        clear hfr
        refine wp_region_inv (by kernel_rfl) (by kernel_rfl) (fun L A W => ∃ V : Nat → Value, A = fr V ∧ Vals (fun j => ([some (idv f), some (idv g), some (.bool false), some (.string tx), some (idv g), some (.string ty), some (.bool false), some (.bool true), some (.bool true), some (idv f), some (idv g), some (.bool false), some (.bool false), some (undef), some (undef), some (undef), some (.bool false), some (.bool true), some (.bool true), some (.bool true), some (idv f), some (idv g), some (.bool true), some (idv f), some (idv g), some (.bool false), some (.bool true), some (.bool true), some (idv g), some (idv f), some (.bool false), some (.bool true), some (.bool true), some (.bool true), some (.bool true), some (.bool true)] : List (Option Value)).getD j none) L V ∧ PdB w g7 g8 f g W) ?_ ⟨?_, ?_, ?_, ?_, ?_, ?_, ?_, ?_, ?_, ?_, ?_, ?_, ?_, ?_, ?_, ?_, ?_, ?_, ?_, ?_, ?_, ?_, ?_, ?_, ?_, ?_, ?_, ?_, ?_, ?_, ?_, ?_, ?_, ?_, ?_, ?_, trivial⟩ ?_
        · refine ⟨fun j => a0.tmps.getD (([74, 75, 76, 77, 78, 79, 80, 81, 82, 83, 84, 85, 86, 87, 88, 89, 90, 91, 92, 93, 94, 95, 96, 97, 98, 99, 100, 101, 102, 103, 104, 105, 106, 107, 108, 6] : List Nat).getD j 0) undef, ?_, Vals.no _ _ _ (far_none _ _ rfl), HB0.out.drew⟩
          rw [HFR.out, ha0]
          rfl
        all_goals clear ha0
        · rintro L A W K hL hC hW ⟨V, rfl, HV, hB⟩ hK
          have H := Lib.hid (show ∀ W', Ext W W' → K (fr (upd V 0 (idv f))) W' from fun W' he => hK _ W' ⟨upd V 0 (idv f), rfl, HV.up 0 _ (fun x hx => Option.some.inj hx), PdB.ext hB he⟩)
          clear hK hC hW hL HV
          rw [HFR.out]
          have HLn := Lib.hid hB.1
          clear hB
          go_wp2_with ((with_reducible refine wpList_load_id ?_ (.tmp 7) ?_ (g7) f ?_ ?_ ?_); (exact rfl); (exact rfl); (exact rfl); (exact HLn.out))
          show K _ _
          have := H.out _ (Ext.refl _)
          rw [HFR.out] at this
          exact this
        · rintro L A W K hL hC hW ⟨V, rfl, HV, hB⟩ hK
          have H := Lib.hid (show ∀ W', Ext W W' → K (fr (upd V 1 (idv g))) W' from fun W' he => hK _ W' ⟨upd V 1 (idv g), rfl, HV.up 1 _ (fun x hx => Option.some.inj hx), PdB.ext hB he⟩)
          clear hK hC hW hL HV
          rw [HFR.out]
          have HLn := Lib.hid hB.2.1
          clear hB
          go_wp2_with ((with_reducible refine wpList_load_id ?_ (.tmp 8) ?_ (g8) g ?_ ?_ ?_); (exact rfl); (exact rfl); (exact rfl); (exact HLn.out))
          show K _ _
          have := H.out _ (Ext.refl _)
          rw [HFR.out] at this
          exact this
        · rintro L A W K hL hC hW ⟨V, rfl, HV, hB⟩ hK
          have e0 : V 0 = idv f := HV 0 _ rfl (hW 0 rfl)
          have e1 : V 1 = idv g := HV 1 _ rfl (hW 1 rfl)
          have H := Lib.hid (show ∀ W', Ext W W' → K (fr (upd V 2 (.bool false))) W' from fun W' he => hK _ W' ⟨upd V 2 (.bool false), rfl, HV.up 2 _ (fun x hx => Option.some.inj hx), PdB.ext hB he⟩)
          clear hK hC hW hL HV
          have u0 : (upd V 2 (.bool false)) 0 = idv f := e0
          have u1 : (upd V 2 (.bool false)) 1 = idv g := e1
          have HU := Lib.hid (show (upd V 2 (.bool false)) 0 = idv f ∧ (upd V 2 (.bool false)) 1 = idv g from ⟨u0, u1⟩)
          clear u0 u1
          rw [HFR.out]
          rw [e0, e1]
          clear e0 e1
          go_wp2_with fail
          refine (HL1.out _).mono ?_
          rintro e wx ⟨rfl, he⟩
          go_wp2_with fail
          show K _ _
          have := H.out _ he
          rw [HFR.out] at this
          obtain ⟨u0, u1⟩ := HU.out
          rw [u0, u1] at this
          exact this
        · rintro L A W K hL hC hW ⟨V, rfl, HV, hB⟩ hK
          have H := Lib.hid (show ∀ W', Ext W W' → K (fr (upd V 3 (.string tx))) W' from fun W' he => hK _ W' ⟨upd V 3 (.string tx), rfl, HV.up 3 _ (fun x hx => Option.some.inj hx), PdB.ext hB he⟩)
          clear hK hC hW hL HV
          rw [HFR.out]
          clear hB
          go_wp2_with fail
          show K _ _
          have := H.out _ (Ext.refl _)
          rw [HFR.out] at this
          exact this
        · rintro L A W K hL hC hW ⟨V, rfl, HV, hB⟩ hK
          have H := Lib.hid (show ∀ W', Ext W W' → K (fr (upd V 4 (idv g))) W' from fun W' he => hK _ W' ⟨upd V 4 (idv g), rfl, HV.up 4 _ (fun x hx => Option.some.inj hx), PdB.ext hB he⟩)
          clear hK hC hW hL HV
          rw [HFR.out]
          have HLn := Lib.hid hB.2.1
          clear hB
          go_wp2_with ((with_reducible refine wpList_load_id ?_ (.tmp 8) ?_ (g8) g ?_ ?_ ?_); (exact rfl); (exact rfl); (exact rfl); (exact HLn.out))
          show K _ _
          have := H.out _ (Ext.refl _)
          rw [HFR.out] at this
          exact this
        · rintro L A W K hL hC hW ⟨V, rfl, HV, hB⟩ hK
          have e4 : V 4 = idv g := HV 4 _ rfl (hW 4 rfl)
          have H := Lib.hid (show ∀ W', Ext W W' → K (fr (upd V 5 (.string ty))) W' from fun W' he => hK _ W' ⟨upd V 5 (.string ty), rfl, HV.up 5 _ (fun x hx => Option.some.inj hx), PdB.ext hB he⟩)
          clear hK hC hW hL HV
          have u4 : (upd V 5 (.string ty)) 4 = idv g := e4
          have HU := Lib.hid (show (upd V 5 (.string ty)) 4 = idv g from u4)
          clear u4
          rw [HFR.out]
          rw [e4]
          clear e4
          go_wp2_with fail
          refine (HTY.out _).mono ?_
          rintro e wx ⟨rfl, he⟩
          go_wp2_with fail
          show K _ _
          have := H.out _ he
          rw [HFR.out] at this
          obtain u4 := HU.out
          rw [u4] at this
          exact this
        · rintro L A W K hL hC hW ⟨V, rfl, HV, hB⟩ hK
          have e3 : V 3 = .string tx := HV 3 _ rfl (hW 3 rfl)
          have e5 : V 5 = .string ty := HV 5 _ rfl (hW 5 rfl)
          have H := Lib.hid (show ∀ W', Ext W W' → K (fr (upd V 6 (.bool false))) W' from fun W' he => hK _ W' ⟨upd V 6 (.bool false), rfl, HV.up 6 _ (fun x hx => Option.some.inj hx), PdB.ext hB he⟩)
          clear hK hC hW hL HV
          have u3 : (upd V 6 (.bool false)) 3 = .string tx := e3
          have u5 : (upd V 6 (.bool false)) 5 = .string ty := e5
          have HU := Lib.hid (show (upd V 6 (.bool false)) 3 = .string tx ∧ (upd V 6 (.bool false)) 5 = .string ty from ⟨u3, u5⟩)
          clear u3 u5
          rw [HFR.out]
          rw [e3, e5]
          clear e3 e5
          have hls := HTL.out
          clear hB
          go_wp2_with fail
          show K _ _
          have := H.out _ (Ext.refl _)
          rw [HFR.out] at this
          obtain ⟨u3, u5⟩ := HU.out
          rw [u3, u5] at this
          exact this
        · rintro L A W K hL hC hW ⟨V, rfl, HV, hB⟩ hK
          have e2 : V 2 = .bool false := HV 2 _ rfl (hW 2 rfl)
          have e6 : V 6 = .bool false := HV 6 _ rfl (hW 6 rfl)
          have H := Lib.hid (show ∀ W', Ext W W' → K (fr (upd V 7 (.bool true))) W' from fun W' he => hK _ W' ⟨upd V 7 (.bool true), rfl, HV.up 7 _ (fun x hx => Option.some.inj hx), PdB.ext hB he⟩)
          clear hK hC hW hL HV
          have u2 : (upd V 7 (.bool true)) 2 = .bool false := e2
          have u6 : (upd V 7 (.bool true)) 6 = .bool false := e6
          have HU := Lib.hid (show (upd V 7 (.bool true)) 2 = .bool false ∧ (upd V 7 (.bool true)) 6 = .bool false from ⟨u2, u6⟩)
          clear u2 u6
          rw [HFR.out]
          rw [e2, e6]
          clear e2 e6
          clear hB
          go_wp2_with fail
          show K _ _
          have := H.out _ (Ext.refl _)
          rw [HFR.out] at this
          obtain ⟨u2, u6⟩ := HU.out
          rw [u2, u6] at this
          exact this
        · rintro L A W K hL hC hW ⟨V, rfl, HV, hB⟩ hK
          have e7 : V 7 = .bool true := HV 7 _ rfl (hW 7 rfl)
          have H := Lib.hid (show ∀ W', Ext W W' → K (fr (upd V 8 (.bool true))) W' from fun W' he => hK _ W' ⟨upd V 8 (.bool true), rfl, HV.up 8 _ (fun x hx => Option.some.inj hx), PdB.ext hB he⟩)
          clear hK hC hW hL HV
          have u7 : (upd V 8 (.bool true)) 7 = .bool true := e7
          have HU := Lib.hid (show (upd V 8 (.bool true)) 7 = .bool true from u7)
          clear u7
          rw [HFR.out]
          rw [e7]
          clear e7
          clear hB
          go_wp2_with fail
          show K _ _
          have := H.out _ (Ext.refl _)
          rw [HFR.out] at this
          obtain u7 := HU.out
          rw [u7] at this
          exact this
        · rintro L A W K hL hC hW ⟨V, rfl, HV, hB⟩ hK
          have e8 : V 8 = .bool true := HV 8 _ rfl (hW 8 rfl)
          have H := Lib.hid (show ∀ W', Ext W W' → K (fr (upd V 9 (idv f))) W' from fun W' he => hK _ W' ⟨upd V 9 (idv f), rfl, HV.up 9 _ (fun x hx => Option.some.inj hx), PdB.ext hB he⟩)
          clear hK hC hW hL HV
          have u8 : (upd V 9 (idv f)) 8 = .bool true := e8
          have HU := Lib.hid (show (upd V 9 (idv f)) 8 = .bool true from u8)
          clear u8
          rw [HFR.out]
          rw [e8]
          clear e8
          have HLn := Lib.hid hB.1
          clear hB
          go_wp2_with ((with_reducible refine wpList_load_id ?_ (.tmp 7) ?_ (g7) f ?_ ?_ ?_); (exact rfl); (exact rfl); (exact rfl); (exact HLn.out))
          show K _ _
          have := H.out _ (Ext.refl _)
          rw [HFR.out] at this
          obtain u8 := HU.out
          rw [u8] at this
          exact this
        · rintro L A W K hL hC hW ⟨V, rfl, HV, hB⟩ hK
          have e8 : V 8 = .bool true := HV 8 _ rfl (hW 8 rfl)
          have H := Lib.hid (show ∀ W', Ext W W' → K (fr (upd V 10 (idv g))) W' from fun W' he => hK _ W' ⟨upd V 10 (idv g), rfl, HV.up 10 _ (fun x hx => Option.some.inj hx), PdB.ext hB he⟩)
          clear hK hC hW hL HV
          have u8 : (upd V 10 (idv g)) 8 = .bool true := e8
          have HU := Lib.hid (show (upd V 10 (idv g)) 8 = .bool true from u8)
          clear u8
          rw [HFR.out]
          rw [e8]
          clear e8
          have HLn := Lib.hid hB.2.1
          clear hB
          go_wp2_with ((with_reducible refine wpList_load_id ?_ (.tmp 8) ?_ (g8) g ?_ ?_ ?_); (exact rfl); (exact rfl); (exact rfl); (exact HLn.out))
          show K _ _
          have := H.out _ (Ext.refl _)
          rw [HFR.out] at this
          obtain u8 := HU.out
          rw [u8] at this
          exact this
        · rintro L A W K hL hC hW ⟨V, rfl, HV, hB⟩ hK
          have e8 : V 8 = .bool true := HV 8 _ rfl (hW 8 rfl)
          have e9 : V 9 = idv f := HV 9 _ rfl (hW 9 rfl)
          have e10 : V 10 = idv g := HV 10 _ rfl (hW 10 rfl)
          have H := Lib.hid (show ∀ W', Ext W W' → K (fr (upd V 11 (.bool false))) W' from fun W' he => hK _ W' ⟨upd V 11 (.bool false), rfl, HV.up 11 _ (fun x hx => Option.some.inj hx), PdB.ext hB he⟩)
          clear hK hC hW hL HV
          have u8 : (upd V 11 (.bool false)) 8 = .bool true := e8
          have u9 : (upd V 11 (.bool false)) 9 = idv f := e9
          have u10 : (upd V 11 (.bool false)) 10 = idv g := e10
          have HU := Lib.hid (show (upd V 11 (.bool false)) 8 = .bool true ∧ (upd V 11 (.bool false)) 9 = idv f ∧ (upd V 11 (.bool false)) 10 = idv g from ⟨u8, u9, u10⟩)
          clear u8 u9 u10
          rw [HFR.out]
          rw [e8, e9, e10]
          clear e8 e9 e10
          go_wp2_with fail
          refine (HL1.out _).mono ?_
          rintro e wx ⟨rfl, he⟩
          go_wp2_with fail
          show K _ _
          have := H.out _ he
          rw [HFR.out] at this
          obtain ⟨u8, u9, u10⟩ := HU.out
          rw [u8, u9, u10] at this
          exact this
        · rintro L A W K hL hC hW ⟨V, rfl, HV, hB⟩ hK
          have e8 : V 8 = .bool true := HV 8 _ rfl (hW 8 rfl)
          have e11 : V 11 = .bool false := HV 11 _ rfl (hW 11 rfl)
          have H := Lib.hid (show ∀ W', Ext W W' → K (fr (upd V 12 (.bool false))) W' from fun W' he => hK _ W' ⟨upd V 12 (.bool false), rfl, HV.up 12 _ (fun x hx => Option.some.inj hx), PdB.ext hB he⟩)
          clear hK hC hW hL HV
          have u8 : (upd V 12 (.bool false)) 8 = .bool true := e8
          have u11 : (upd V 12 (.bool false)) 11 = .bool false := e11
          have HU := Lib.hid (show (upd V 12 (.bool false)) 8 = .bool true ∧ (upd V 12 (.bool false)) 11 = .bool false from ⟨u8, u11⟩)
          clear u8 u11
          rw [HFR.out]
          rw [e8, e11]
          clear e8 e11
          clear hB
          go_wp2_with fail
          show K _ _
          have := H.out _ (Ext.refl _)
          rw [HFR.out] at this
          obtain ⟨u8, u11⟩ := HU.out
          rw [u8, u11] at this
          exact this
        · rintro L A W K hL hC hW ⟨V, rfl, HV, hB⟩ hK
          have e12 : V 12 = .bool false := HV 12 _ rfl (hW 12 rfl)
          have H := Lib.hid (show ∀ W', Ext W W' → K (fr (upd V 13 (undef))) W' from fun W' he => hK _ W' ⟨upd V 13 (undef), rfl, HV.up 13 _ (fun x hx => Option.some.inj hx), PdB.ext hB he⟩)
          clear hK hC hW hL HV
          have u12 : (upd V 13 (undef)) 12 = .bool false := e12
          have HU := Lib.hid (show (upd V 13 (undef)) 12 = .bool false from u12)
          clear u12
          rw [HFR.out]
          rw [e12]
          clear e12
          clear hB
          go_wp2_with fail
          show K _ _
          have := H.out _ (Ext.refl _)
          rw [HFR.out] at this
          obtain u12 := HU.out
          rw [u12] at this
          exact this
        · rintro L A W K hL hC hW ⟨V, rfl, HV, hB⟩ hK
          have e12 : V 12 = .bool false := HV 12 _ rfl (hW 12 rfl)
          have H := Lib.hid (show ∀ W', Ext W W' → K (fr (upd V 14 (undef))) W' from fun W' he => hK _ W' ⟨upd V 14 (undef), rfl, HV.up 14 _ (fun x hx => Option.some.inj hx), PdB.ext hB he⟩)
          clear hK hC hW hL HV
          have u12 : (upd V 14 (undef)) 12 = .bool false := e12
          have HU := Lib.hid (show (upd V 14 (undef)) 12 = .bool false from u12)
          clear u12
          rw [HFR.out]
          rw [e12]
          clear e12
          clear hB
          go_wp2_with fail
          show K _ _
          have := H.out _ (Ext.refl _)
          rw [HFR.out] at this
          obtain u12 := HU.out
          rw [u12] at this
          exact this
        · rintro L A W K hL hC hW ⟨V, rfl, HV, hB⟩ hK
          have e12 : V 12 = .bool false := HV 12 _ rfl (hW 12 rfl)
          have e13 : V 13 = undef := HV 13 _ rfl (hW 13 rfl)
          have e14 : V 14 = undef := HV 14 _ rfl (hW 14 rfl)
          have H := Lib.hid (show ∀ W', Ext W W' → K (fr (upd V 15 (undef))) W' from fun W' he => hK _ W' ⟨upd V 15 (undef), rfl, HV.up 15 _ (fun x hx => Option.some.inj hx), PdB.ext hB he⟩)
          clear hK hC hW hL HV
          have u12 : (upd V 15 (undef)) 12 = .bool false := e12
          have u13 : (upd V 15 (undef)) 13 = undef := e13
          have u14 : (upd V 15 (undef)) 14 = undef := e14
          have HU := Lib.hid (show (upd V 15 (undef)) 12 = .bool false ∧ (upd V 15 (undef)) 13 = undef ∧ (upd V 15 (undef)) 14 = undef from ⟨u12, u13, u14⟩)
          clear u12 u13 u14
          rw [HFR.out]
          rw [e12, e13, e14]
          clear e12 e13 e14
          clear hB
          go_wp2_with fail
          show K _ _
          have := H.out _ (Ext.refl _)
          rw [HFR.out] at this
          obtain ⟨u12, u13, u14⟩ := HU.out
          rw [u12, u13, u14] at this
          exact this
        · rintro L A W K hL hC hW ⟨V, rfl, HV, hB⟩ hK
          have e8 : V 8 = .bool true := HV 8 _ rfl (hW 8 rfl)
          have e12 : V 12 = .bool false := HV 12 _ rfl (hW 12 rfl)
          have e15 : V 15 = undef := HV 15 _ rfl (hW 15 rfl)
          have H := Lib.hid (show ∀ W', Ext W W' → K (fr (upd V 16 (.bool false))) W' from fun W' he => hK _ W' ⟨upd V 16 (.bool false), rfl, HV.up 16 _ (fun x hx => Option.some.inj hx), PdB.ext hB he⟩)
          clear hK hC hW hL HV
          have u8 : (upd V 16 (.bool false)) 8 = .bool true := e8
          have u12 : (upd V 16 (.bool false)) 12 = .bool false := e12
          have u15 : (upd V 16 (.bool false)) 15 = undef := e15
          have HU := Lib.hid (show (upd V 16 (.bool false)) 8 = .bool true ∧ (upd V 16 (.bool false)) 12 = .bool false ∧ (upd V 16 (.bool false)) 15 = undef from ⟨u8, u12, u15⟩)
          clear u8 u12 u15
          rw [HFR.out]
          rw [e8, e12, e15]
          clear e8 e12 e15
          clear hB
          go_wp2_with fail
          show K _ _
          have := H.out _ (Ext.refl _)
          rw [HFR.out] at this
          obtain ⟨u8, u12, u15⟩ := HU.out
          rw [u8, u12, u15] at this
          exact this
        · rintro L A W K hL hC hW ⟨V, rfl, HV, hB⟩ hK
          have e8 : V 8 = .bool true := HV 8 _ rfl (hW 8 rfl)
          have e16 : V 16 = .bool false := HV 16 _ rfl (hW 16 rfl)
          have H := Lib.hid (show ∀ W', Ext W W' → K (fr (upd V 17 (.bool true))) W' from fun W' he => hK _ W' ⟨upd V 17 (.bool true), rfl, HV.up 17 _ (fun x hx => Option.some.inj hx), PdB.ext hB he⟩)
          clear hK hC hW hL HV
          have u8 : (upd V 17 (.bool true)) 8 = .bool true := e8
          have u16 : (upd V 17 (.bool true)) 16 = .bool false := e16
          have HU := Lib.hid (show (upd V 17 (.bool true)) 8 = .bool true ∧ (upd V 17 (.bool true)) 16 = .bool false from ⟨u8, u16⟩)
          clear u8 u16
          rw [HFR.out]
          rw [e8, e16]
          clear e8 e16
          clear hB
          go_wp2_with fail
          show K _ _
          have := H.out _ (Ext.refl _)
          rw [HFR.out] at this
          obtain ⟨u8, u16⟩ := HU.out
          rw [u8, u16] at this
          exact this
        · rintro L A W K hL hC hW ⟨V, rfl, HV, hB⟩ hK
          have e8 : V 8 = .bool true := HV 8 _ rfl (hW 8 rfl)
          have e17 : V 17 = .bool true := HV 17 _ rfl (hW 17 rfl)
          have H := Lib.hid (show ∀ W', Ext W W' → K (fr (upd V 18 (.bool true))) W' from fun W' he => hK _ W' ⟨upd V 18 (.bool true), rfl, HV.up 18 _ (fun x hx => Option.some.inj hx), PdB.ext hB he⟩)
          clear hK hC hW hL HV
          have u8 : (upd V 18 (.bool true)) 8 = .bool true := e8
          have u17 : (upd V 18 (.bool true)) 17 = .bool true := e17
          have HU := Lib.hid (show (upd V 18 (.bool true)) 8 = .bool true ∧ (upd V 18 (.bool true)) 17 = .bool true from ⟨u8, u17⟩)
          clear u8 u17
          rw [HFR.out]
          rw [e8, e17]
          clear e8 e17
          clear hB
          go_wp2_with fail
          show K _ _
          have := H.out _ (Ext.refl _)
          rw [HFR.out] at this
          obtain ⟨u8, u17⟩ := HU.out
          rw [u8, u17] at this
          exact this
        · rintro L A W K hL hC hW ⟨V, rfl, HV, hB⟩ hK
          have e18 : V 18 = .bool true := HV 18 _ rfl (hW 18 rfl)
          have H := Lib.hid (show ∀ W', Ext W W' → K (fr (upd V 19 (.bool true))) W' from fun W' he => hK _ W' ⟨upd V 19 (.bool true), rfl, HV.up 19 _ (fun x hx => Option.some.inj hx), PdB.ext hB he⟩)
          clear hK hC hW hL HV
          have u18 : (upd V 19 (.bool true)) 18 = .bool true := e18
          have HU := Lib.hid (show (upd V 19 (.bool true)) 18 = .bool true from u18)
          clear u18
          rw [HFR.out]
          rw [e18]
          clear e18
          clear hB
          go_wp2_with fail
          show K _ _
          have := H.out _ (Ext.refl _)
          rw [HFR.out] at this
          obtain u18 := HU.out
          rw [u18] at this
          exact this
        · rintro L A W K hL hC hW ⟨V, rfl, HV, hB⟩ hK
          have e19 : V 19 = .bool true := HV 19 _ rfl (hW 19 rfl)
          have H := Lib.hid (show ∀ W', Ext W W' → K (fr (upd V 20 (idv f))) W' from fun W' he => hK _ W' ⟨upd V 20 (idv f), rfl, HV.up 20 _ (fun x hx => Option.some.inj hx), PdB.ext hB he⟩)
          clear hK hC hW hL HV
          have u19 : (upd V 20 (idv f)) 19 = .bool true := e19
          have HU := Lib.hid (show (upd V 20 (idv f)) 19 = .bool true from u19)
          clear u19
          rw [HFR.out]
          rw [e19]
          clear e19
          have HLn := Lib.hid hB.1
          clear hB
          go_wp2_with ((with_reducible refine wpList_load_id ?_ (.tmp 7) ?_ (g7) f ?_ ?_ ?_); (exact rfl); (exact rfl); (exact rfl); (exact HLn.out))
          show K _ _
          have := H.out _ (Ext.refl _)
          rw [HFR.out] at this
          obtain u19 := HU.out
          rw [u19] at this
          exact this
        · rintro L A W K hL hC hW ⟨V, rfl, HV, hB⟩ hK
          have e19 : V 19 = .bool true := HV 19 _ rfl (hW 19 rfl)
          have H := Lib.hid (show ∀ W', Ext W W' → K (fr (upd V 21 (idv g))) W' from fun W' he => hK _ W' ⟨upd V 21 (idv g), rfl, HV.up 21 _ (fun x hx => Option.some.inj hx), PdB.ext hB he⟩)
          clear hK hC hW hL HV
          have u19 : (upd V 21 (idv g)) 19 = .bool true := e19
          have HU := Lib.hid (show (upd V 21 (idv g)) 19 = .bool true from u19)
          clear u19
          rw [HFR.out]
          rw [e19]
          clear e19
          have HLn := Lib.hid hB.2.1
          clear hB
          go_wp2_with ((with_reducible refine wpList_load_id ?_ (.tmp 8) ?_ (g8) g ?_ ?_ ?_); (exact rfl); (exact rfl); (exact rfl); (exact HLn.out))
          show K _ _
          have := H.out _ (Ext.refl _)
          rw [HFR.out] at this
          obtain u19 := HU.out
          rw [u19] at this
          exact this
        · rintro L A W K hL hC hW ⟨V, rfl, HV, hB⟩ hK
          have e19 : V 19 = .bool true := HV 19 _ rfl (hW 19 rfl)
          have e20 : V 20 = idv f := HV 20 _ rfl (hW 20 rfl)
          have e21 : V 21 = idv g := HV 21 _ rfl (hW 21 rfl)
          have H := Lib.hid (show ∀ W', Ext W W' → K (fr (upd V 22 (.bool true))) W' from fun W' he => hK _ W' ⟨upd V 22 (.bool true), rfl, HV.up 22 _ (fun x hx => Option.some.inj hx), PdB.ext hB he⟩)
          clear hK hC hW hL HV
          have u19 : (upd V 22 (.bool true)) 19 = .bool true := e19
          have u20 : (upd V 22 (.bool true)) 20 = idv f := e20
          have u21 : (upd V 22 (.bool true)) 21 = idv g := e21
          have HU := Lib.hid (show (upd V 22 (.bool true)) 19 = .bool true ∧ (upd V 22 (.bool true)) 20 = idv f ∧ (upd V 22 (.bool true)) 21 = idv g from ⟨u19, u20, u21⟩)
          clear u19 u20 u21
          rw [HFR.out]
          rw [e19, e20, e21]
          clear e19 e20 e21
          clear hB
          go_wp2_with ((with_reducible refine wpList_eql_id ?_ (.tmp 94) (.tmp 95) ?_ f g true ?_ ?_ HEQ.out ?_); (exact rfl); (exact rfl); (exact rfl); (exact rfl))
          show K _ _
          have := H.out _ (Ext.refl _)
          rw [HFR.out] at this
          obtain ⟨u19, u20, u21⟩ := HU.out
          rw [u19, u20, u21] at this
          exact this
        · rintro L A W K hL hC hW ⟨V, rfl, HV, hB⟩ hK
          have e19 : V 19 = .bool true := HV 19 _ rfl (hW 19 rfl)
          have H := Lib.hid (show ∀ W', Ext W W' → K (fr (upd V 23 (idv f))) W' from fun W' he => hK _ W' ⟨upd V 23 (idv f), rfl, HV.up 23 _ (fun x hx => Option.some.inj hx), PdB.ext hB he⟩)
          clear hK hC hW hL HV
          have u19 : (upd V 23 (idv f)) 19 = .bool true := e19
          have HU := Lib.hid (show (upd V 23 (idv f)) 19 = .bool true from u19)
          clear u19
          rw [HFR.out]
          rw [e19]
          clear e19
          have HLn := Lib.hid hB.1
          clear hB
          go_wp2_with ((with_reducible refine wpList_load_id ?_ (.tmp 7) ?_ (g7) f ?_ ?_ ?_); (exact rfl); (exact rfl); (exact rfl); (exact HLn.out))
          show K _ _
          have := H.out _ (Ext.refl _)
          rw [HFR.out] at this
          obtain u19 := HU.out
          rw [u19] at this
          exact this
        · rintro L A W K hL hC hW ⟨V, rfl, HV, hB⟩ hK
          have e19 : V 19 = .bool true := HV 19 _ rfl (hW 19 rfl)
          have H := Lib.hid (show ∀ W', Ext W W' → K (fr (upd V 24 (idv g))) W' from fun W' he => hK _ W' ⟨upd V 24 (idv g), rfl, HV.up 24 _ (fun x hx => Option.some.inj hx), PdB.ext hB he⟩)
          clear hK hC hW hL HV
          have u19 : (upd V 24 (idv g)) 19 = .bool true := e19
          have HU := Lib.hid (show (upd V 24 (idv g)) 19 = .bool true from u19)
          clear u19
          rw [HFR.out]
          rw [e19]
          clear e19
          have HLn := Lib.hid hB.2.1
          clear hB
          go_wp2_with ((with_reducible refine wpList_load_id ?_ (.tmp 8) ?_ (g8) g ?_ ?_ ?_); (exact rfl); (exact rfl); (exact rfl); (exact HLn.out))
          show K _ _
          have := H.out _ (Ext.refl _)
          rw [HFR.out] at this
          obtain u19 := HU.out
          rw [u19] at this
          exact this
        · rintro L A W K hL hC hW ⟨V, rfl, HV, hB⟩ hK
          have e19 : V 19 = .bool true := HV 19 _ rfl (hW 19 rfl)
          have e23 : V 23 = idv f := HV 23 _ rfl (hW 23 rfl)
          have e24 : V 24 = idv g := HV 24 _ rfl (hW 24 rfl)
          have H := Lib.hid (show ∀ W', Ext W W' → K (fr (upd V 25 (.bool false))) W' from fun W' he => hK _ W' ⟨upd V 25 (.bool false), rfl, HV.up 25 _ (fun x hx => Option.some.inj hx), PdB.ext hB he⟩)
          clear hK hC hW hL HV
          have u19 : (upd V 25 (.bool false)) 19 = .bool true := e19
          have u23 : (upd V 25 (.bool false)) 23 = idv f := e23
          have u24 : (upd V 25 (.bool false)) 24 = idv g := e24
          have HU := Lib.hid (show (upd V 25 (.bool false)) 19 = .bool true ∧ (upd V 25 (.bool false)) 23 = idv f ∧ (upd V 25 (.bool false)) 24 = idv g from ⟨u19, u23, u24⟩)
          clear u19 u23 u24
          rw [HFR.out]
          rw [e19, e23, e24]
          clear e19 e23 e24
          go_wp2_with fail
          refine (HL1.out _).mono ?_
          rintro e wx ⟨rfl, he⟩
          go_wp2_with fail
          show K _ _
          have := H.out _ he
          rw [HFR.out] at this
          obtain ⟨u19, u23, u24⟩ := HU.out
          rw [u19, u23, u24] at this
          exact this
        · rintro L A W K hL hC hW ⟨V, rfl, HV, hB⟩ hK
          have e19 : V 19 = .bool true := HV 19 _ rfl (hW 19 rfl)
          have e25 : V 25 = .bool false := HV 25 _ rfl (hW 25 rfl)
          have H := Lib.hid (show ∀ W', Ext W W' → K (fr (upd V 26 (.bool true))) W' from fun W' he => hK _ W' ⟨upd V 26 (.bool true), rfl, HV.up 26 _ (fun x hx => Option.some.inj hx), PdB.ext hB he⟩)
          clear hK hC hW hL HV
          have u19 : (upd V 26 (.bool true)) 19 = .bool true := e19
          have u25 : (upd V 26 (.bool true)) 25 = .bool false := e25
          have HU := Lib.hid (show (upd V 26 (.bool true)) 19 = .bool true ∧ (upd V 26 (.bool true)) 25 = .bool false from ⟨u19, u25⟩)
          clear u19 u25
          rw [HFR.out]
          rw [e19, e25]
          clear e19 e25
          clear hB
          go_wp2_with fail
          show K _ _
          have := H.out _ (Ext.refl _)
          rw [HFR.out] at this
          obtain ⟨u19, u25⟩ := HU.out
          rw [u19, u25] at this
          exact this
        · rintro L A W K hL hC hW ⟨V, rfl, HV, hB⟩ hK
          have e19 : V 19 = .bool true := HV 19 _ rfl (hW 19 rfl)
          have e26 : V 26 = .bool true := HV 26 _ rfl (hW 26 rfl)
          have H := Lib.hid (show ∀ W', Ext W W' → K (fr (upd V 27 (.bool true))) W' from fun W' he => hK _ W' ⟨upd V 27 (.bool true), rfl, HV.up 27 _ (fun x hx => Option.some.inj hx), PdB.ext hB he⟩)
          clear hK hC hW hL HV
          have u19 : (upd V 27 (.bool true)) 19 = .bool true := e19
          have u26 : (upd V 27 (.bool true)) 26 = .bool true := e26
          have HU := Lib.hid (show (upd V 27 (.bool true)) 19 = .bool true ∧ (upd V 27 (.bool true)) 26 = .bool true from ⟨u19, u26⟩)
          clear u19 u26
          rw [HFR.out]
          rw [e19, e26]
          clear e19 e26
          clear hB
          go_wp2_with fail
          show K _ _
          have := H.out _ (Ext.refl _)
          rw [HFR.out] at this
          obtain ⟨u19, u26⟩ := HU.out
          rw [u19, u26] at this
          exact this
        · rintro L A W K hL hC hW ⟨V, rfl, HV, hB⟩ hK
          have e27 : V 27 = .bool true := HV 27 _ rfl (hW 27 rfl)
          have H := Lib.hid (show ∀ W', Ext W W' → K (fr (upd V 28 (idv g))) W' from fun W' he => hK _ W' ⟨upd V 28 (idv g), rfl, HV.up 28 _ (fun x hx => Option.some.inj hx), PdB.ext hB he⟩)
          clear hK hC hW hL HV
          have u27 : (upd V 28 (idv g)) 27 = .bool true := e27
          have HU := Lib.hid (show (upd V 28 (idv g)) 27 = .bool true from u27)
          clear u27
          rw [HFR.out]
          rw [e27]
          clear e27
          have HLn := Lib.hid hB.2.1
          clear hB
          go_wp2_with ((with_reducible refine wpList_load_id ?_ (.tmp 8) ?_ (g8) g ?_ ?_ ?_); (exact rfl); (exact rfl); (exact rfl); (exact HLn.out))
          show K _ _
          have := H.out _ (Ext.refl _)
          rw [HFR.out] at this
          obtain u27 := HU.out
          rw [u27] at this
          exact this
        · rintro L A W K hL hC hW ⟨V, rfl, HV, hB⟩ hK
          have e27 : V 27 = .bool true := HV 27 _ rfl (hW 27 rfl)
          have H := Lib.hid (show ∀ W', Ext W W' → K (fr (upd V 29 (idv f))) W' from fun W' he => hK _ W' ⟨upd V 29 (idv f), rfl, HV.up 29 _ (fun x hx => Option.some.inj hx), PdB.ext hB he⟩)
          clear hK hC hW hL HV
          have u27 : (upd V 29 (idv f)) 27 = .bool true := e27
          have HU := Lib.hid (show (upd V 29 (idv f)) 27 = .bool true from u27)
          clear u27
          rw [HFR.out]
          rw [e27]
          clear e27
          have HLn := Lib.hid hB.1
          clear hB
          go_wp2_with ((with_reducible refine wpList_load_id ?_ (.tmp 7) ?_ (g7) f ?_ ?_ ?_); (exact rfl); (exact rfl); (exact rfl); (exact HLn.out))
          show K _ _
          have := H.out _ (Ext.refl _)
          rw [HFR.out] at this
          obtain u27 := HU.out
          rw [u27] at this
          exact this
        · rintro L A W K hL hC hW ⟨V, rfl, HV, hB⟩ hK
          have e27 : V 27 = .bool true := HV 27 _ rfl (hW 27 rfl)
          have e28 : V 28 = idv g := HV 28 _ rfl (hW 28 rfl)
          have e29 : V 29 = idv f := HV 29 _ rfl (hW 29 rfl)
          have H := Lib.hid (show ∀ W', Ext W W' → K (fr (upd V 30 (.bool false))) W' from fun W' he => hK _ W' ⟨upd V 30 (.bool false), rfl, HV.up 30 _ (fun x hx => Option.some.inj hx), PdB.ext hB he⟩)
          clear hK hC hW hL HV
          have u27 : (upd V 30 (.bool false)) 27 = .bool true := e27
          have u28 : (upd V 30 (.bool false)) 28 = idv g := e28
          have u29 : (upd V 30 (.bool false)) 29 = idv f := e29
          have HU := Lib.hid (show (upd V 30 (.bool false)) 27 = .bool true ∧ (upd V 30 (.bool false)) 28 = idv g ∧ (upd V 30 (.bool false)) 29 = idv f from ⟨u27, u28, u29⟩)
          clear u27 u28 u29
          rw [HFR.out]
          rw [e27, e28, e29]
          clear e27 e28 e29
          go_wp2_with fail
          refine (HL2.out _).mono ?_
          rintro e wx ⟨rfl, he⟩
          go_wp2_with fail
          show K _ _
          have := H.out _ he
          rw [HFR.out] at this
          obtain ⟨u27, u28, u29⟩ := HU.out
          rw [u27, u28, u29] at this
          exact this
        · rintro L A W K hL hC hW ⟨V, rfl, HV, hB⟩ hK
          have e27 : V 27 = .bool true := HV 27 _ rfl (hW 27 rfl)
          have e30 : V 30 = .bool false := HV 30 _ rfl (hW 30 rfl)
          have H := Lib.hid (show ∀ W', Ext W W' → K (fr (upd V 31 (.bool true))) W' from fun W' he => hK _ W' ⟨upd V 31 (.bool true), rfl, HV.up 31 _ (fun x hx => Option.some.inj hx), PdB.ext hB he⟩)
          clear hK hC hW hL HV
          have u27 : (upd V 31 (.bool true)) 27 = .bool true := e27
          have u30 : (upd V 31 (.bool true)) 30 = .bool false := e30
          have HU := Lib.hid (show (upd V 31 (.bool true)) 27 = .bool true ∧ (upd V 31 (.bool true)) 30 = .bool false from ⟨u27, u30⟩)
          clear u27 u30
          rw [HFR.out]
          rw [e27, e30]
          clear e27 e30
          clear hB
          go_wp2_with fail
          show K _ _
          have := H.out _ (Ext.refl _)
          rw [HFR.out] at this
          obtain ⟨u27, u30⟩ := HU.out
          rw [u27, u30] at this
          exact this
        · rintro L A W K hL hC hW ⟨V, rfl, HV, hB⟩ hK
          have e19 : V 19 = .bool true := HV 19 _ rfl (hW 19 rfl)
          have e27 : V 27 = .bool true := HV 27 _ rfl (hW 27 rfl)
          have e31 : V 31 = .bool true := HV 31 _ rfl (hW 31 rfl)
          have H := Lib.hid (show ∀ W', Ext W W' → K (fr (upd V 32 (.bool true))) W' from fun W' he => hK _ W' ⟨upd V 32 (.bool true), rfl, HV.up 32 _ (fun x hx => Option.some.inj hx), PdB.ext hB he⟩)
          clear hK hC hW hL HV
          have u19 : (upd V 32 (.bool true)) 19 = .bool true := e19
          have u27 : (upd V 32 (.bool true)) 27 = .bool true := e27
          have u31 : (upd V 32 (.bool true)) 31 = .bool true := e31
          have HU := Lib.hid (show (upd V 32 (.bool true)) 19 = .bool true ∧ (upd V 32 (.bool true)) 27 = .bool true ∧ (upd V 32 (.bool true)) 31 = .bool true from ⟨u19, u27, u31⟩)
          clear u19 u27 u31
          rw [HFR.out]
          rw [e19, e27, e31]
          clear e19 e27 e31
          clear hB
          go_wp2_with fail
          show K _ _
          have := H.out _ (Ext.refl _)
          rw [HFR.out] at this
          obtain ⟨u19, u27, u31⟩ := HU.out
          rw [u19, u27, u31] at this
          exact this
        · rintro L A W K hL hC hW ⟨V, rfl, HV, hB⟩ hK
          have e19 : V 19 = .bool true := HV 19 _ rfl (hW 19 rfl)
          have e22 : V 22 = .bool true := HV 22 _ rfl (hW 22 rfl)
          have e32 : V 32 = .bool true := HV 32 _ rfl (hW 32 rfl)
          have H := Lib.hid (show ∀ W', Ext W W' → K (fr (upd V 33 (.bool true))) W' from fun W' he => hK _ W' ⟨upd V 33 (.bool true), rfl, HV.up 33 _ (fun x hx => Option.some.inj hx), PdB.ext hB he⟩)
          clear hK hC hW hL HV
          have u19 : (upd V 33 (.bool true)) 19 = .bool true := e19
          have u22 : (upd V 33 (.bool true)) 22 = .bool true := e22
          have u32 : (upd V 33 (.bool true)) 32 = .bool true := e32
          have HU := Lib.hid (show (upd V 33 (.bool true)) 19 = .bool true ∧ (upd V 33 (.bool true)) 22 = .bool true ∧ (upd V 33 (.bool true)) 32 = .bool true from ⟨u19, u22, u32⟩)
          clear u19 u22 u32
          rw [HFR.out]
          rw [e19, e22, e32]
          clear e19 e22 e32
          clear hB
          go_wp2_with fail
          show K _ _
          have := H.out _ (Ext.refl _)
          rw [HFR.out] at this
          obtain ⟨u19, u22, u32⟩ := HU.out
          rw [u19, u22, u32] at this
          exact this
        · rintro L A W K hL hC hW ⟨V, rfl, HV, hB⟩ hK
          have e19 : V 19 = .bool true := HV 19 _ rfl (hW 19 rfl)
          have e33 : V 33 = .bool true := HV 33 _ rfl (hW 33 rfl)
          have H := Lib.hid (show ∀ W', Ext W W' → K (fr (upd V 34 (.bool true))) W' from fun W' he => hK _ W' ⟨upd V 34 (.bool true), rfl, HV.up 34 _ (fun x hx => Option.some.inj hx), PdB.ext hB he⟩)
          clear hK hC hW hL HV
          have u19 : (upd V 34 (.bool true)) 19 = .bool true := e19
          have u33 : (upd V 34 (.bool true)) 33 = .bool true := e33
          have HU := Lib.hid (show (upd V 34 (.bool true)) 19 = .bool true ∧ (upd V 34 (.bool true)) 33 = .bool true from ⟨u19, u33⟩)
          clear u19 u33
          rw [HFR.out]
          rw [e19, e33]
          clear e19 e33
          clear hB
          go_wp2_with fail
          show K _ _
          have := H.out _ (Ext.refl _)
          rw [HFR.out] at this
          obtain ⟨u19, u33⟩ := HU.out
          rw [u19, u33] at this
          exact this
        · rintro L A W K hL hC hW ⟨V, rfl, HV, hB⟩ hK
          have e34 : V 34 = .bool true := HV 34 _ rfl (hW 34 rfl)
          have H := Lib.hid (show ∀ W', Ext W W' → K (fr (upd V 35 (.bool true))) W' from fun W' he => hK _ W' ⟨upd V 35 (.bool true), rfl, HV.up 35 _ (fun x hx => Option.some.inj hx), PdB.ext hB he⟩)
          clear hK hC hW hL HV
          have u34 : (upd V 35 (.bool true)) 34 = .bool true := e34
          have HU := Lib.hid (show (upd V 35 (.bool true)) 34 = .bool true from u34)
          clear u34
          rw [HFR.out]
          rw [e34]
          clear e34
          clear hB
          go_wp2_with fail
          show K _ _
          have := H.out _ (Ext.refl _)
          rw [HFR.out] at this
          obtain u34 := HU.out
          rw [u34] at this
          exact this
        · rintro L A W hL ⟨V, rfl, HV, hB⟩
          have e0 : V 0 = idv f := HV 0 _ rfl (hL 0 (by simp))
          have e1 : V 1 = idv g := HV 1 _ rfl (hL 1 (by simp))
          have e2 : V 2 = .bool false := HV 2 _ rfl (hL 2 (by simp))
          have e3 : V 3 = .string tx := HV 3 _ rfl (hL 3 (by simp))
          have e4 : V 4 = idv g := HV 4 _ rfl (hL 4 (by simp))
          have e5 : V 5 = .string ty := HV 5 _ rfl (hL 5 (by simp))
          have e6 : V 6 = .bool false := HV 6 _ rfl (hL 6 (by simp))
          have e7 : V 7 = .bool true := HV 7 _ rfl (hL 7 (by simp))
          have e8 : V 8 = .bool true := HV 8 _ rfl (hL 8 (by simp))
          have e9 : V 9 = idv f := HV 9 _ rfl (hL 9 (by simp))
          have e10 : V 10 = idv g := HV 10 _ rfl (hL 10 (by simp))
          have e11 : V 11 = .bool false := HV 11 _ rfl (hL 11 (by simp))
          have e12 : V 12 = .bool false := HV 12 _ rfl (hL 12 (by simp))
          have e13 : V 13 = undef := HV 13 _ rfl (hL 13 (by simp))
          have e14 : V 14 = undef := HV 14 _ rfl (hL 14 (by simp))
          have e15 : V 15 = undef := HV 15 _ rfl (hL 15 (by simp))
          have e16 : V 16 = .bool false := HV 16 _ rfl (hL 16 (by simp))
          have e17 : V 17 = .bool true := HV 17 _ rfl (hL 17 (by simp))
          have e18 : V 18 = .bool true := HV 18 _ rfl (hL 18 (by simp))
          have e19 : V 19 = .bool true := HV 19 _ rfl (hL 19 (by simp))
          have e20 : V 20 = idv f := HV 20 _ rfl (hL 20 (by simp))
          have e21 : V 21 = idv g := HV 21 _ rfl (hL 21 (by simp))
          have e22 : V 22 = .bool true := HV 22 _ rfl (hL 22 (by simp))
          have e23 : V 23 = idv f := HV 23 _ rfl (hL 23 (by simp))
          have e24 : V 24 = idv g := HV 24 _ rfl (hL 24 (by simp))
          have e25 : V 25 = .bool false := HV 25 _ rfl (hL 25 (by simp))
          have e26 : V 26 = .bool true := HV 26 _ rfl (hL 26 (by simp))
          have e27 : V 27 = .bool true := HV 27 _ rfl (hL 27 (by simp))
          have e28 : V 28 = idv g := HV 28 _ rfl (hL 28 (by simp))
          have e29 : V 29 = idv f := HV 29 _ rfl (hL 29 (by simp))
          have e30 : V 30 = .bool false := HV 30 _ rfl (hL 30 (by simp))
          have e31 : V 31 = .bool true := HV 31 _ rfl (hL 31 (by simp))
          have e32 : V 32 = .bool true := HV 32 _ rfl (hL 32 (by simp))
          have e33 : V 33 = .bool true := HV 33 _ rfl (hL 33 (by simp))
          have e34 : V 34 = .bool true := HV 34 _ rfl (hL 34 (by simp))
          have e35 : V 35 = .bool true := HV 35 _ rfl (hL 35 (by simp))
          rw [HFR.out]
          rw [e0, e1, e2, e3, e4, e5, e6, e7, e8, e9, e10, e11, e12, e13, e14, e15, e16, e17, e18, e19, e20, e21, e22, e23, e24, e25, e26, e27, e28, e29, e30, e31, e32, e33, e34, e35]
          clear hL HV HFR e0 e1 e2 e3 e4 e5 e6 e7 e8 e9 e10 e11 e12 e13 e14 e15 e16 e17 e18 e19 e20 e21 e22 e23 e24 e25 e26 e27 e28 e29 e30 e31 e32 e33 e34 e35
          go_wp2_with fail
          go_ret
          exact ⟨rfl, hB.2.2⟩

set_option maxRecDepth 100000 in
theorem pads_told (W : World) (args : Array Value) (h : Told Tryd.f9 W args) (ht : Tb W) : Calls Tryd.prog 9 args W (RetT W) := by
  obtain ⟨H, enc, base, ds, p, hval, hA⟩ := h
  rw [Tryd.params9] at hA hval
  obtain ⟨v0, v1, v2, d0, d1, d2, p0, p1, p2, ha, rfl, rfl, h0, h1, h2⟩ := trodAll_three hA
  obtain rfl : args = #[v0, v1, v2] := by apply Array.toList_inj.1; rw [ha]
  obtain ⟨a, hx⟩ := bs_came (hval 0 _ _ rfl rfl) h0
  obtain ⟨b, hy⟩ := bs_came (hval 1 _ _ rfl rfl) h1
  obtain ⟨s, rfl, _, _, _⟩ := Go.ChangeMaps.open_string Tryd.underlying9 (hval 2 _ v2 rfl rfl) h2
  exact pads_any v0 v1 a b s W hx hy ht

set_option maxRecDepth 100000 in
theorem pads_spec (H : Type) : ∀ ds : List (DataW H), ds.length = Tryd.f9.params.toList.length → Rows.spongePadsSpec.fn H ds = { results := [.lit (.bool true)], args := ds }
  | [_, _, _], _ => rfl
  | [], h | [_], h | [_, _], h | _ :: _ :: _ :: _ :: _, h => by rw [Tryd.params9] at h; simp at h

set_option maxRecDepth 100000 in
theorem spongePads_holds : Rows.SpongePadsSaid :=
  OpenClaim.holds_of_wide 9 Tryd.f9 rfl rfl rfl rfl rfl rfl rfl ⟨rfl, rfl, rfl, rfl, rfl⟩ rfl rfl rfl rfl rfl (by kernel_rfl) Tryd.func9 (by kernel_rfl)
    (of_decide_eq_true (by kernel_rfl)) (by unfold Func.isWrapper; first | (rw [if_pos (by decide +kernel)]; kernel_rfl) | (rw [if_neg (by decide +kernel)]; exact ⟨rfl, rfl⟩))
    (fun os started H enc _ => law_lifted_t started (by kernel_rfl) Tryd.func9 rfl rfl (pads_spec H) (of_decide_eq_true (by kernel_rfl))
      (ChangeSpec.witness_shaped (enc := enc) (C := Tryd.checked) (os := os) (X := fun w _ => laidMetH Tryd.prog laid2 w) false (World.doorLaid Tryd.prog 400 os) #[.slice none 0 0, .slice none 0 0, .string ⟨#[]⟩] 8 rfl (World.shaped_of_RefB (by kernel_rfl) (by kernel_rfl)) (by kernel_rfl) (by kernel_rfl) (by kernel_rfl) (door_met os _)) pads_told)

set_option maxRecDepth 100000 in
theorem spongePads_card : Rows.SpongePadsCardSaid :=
  Claim7.holds_tied_plain_at .later [] [.data, .data] true (true, "6022e3c362c65ddb5e4c18bedef3ddafca15e789426a41385729bbd240e05e94") false
    spongePads_holds (fun _ h => by cases h) (by kernel_rfl) (fun _ h => by cases h) spongePads_row_tie rfl ⟨rfl, rfl⟩ (by kernel_rfl) rfl
    (fun f fn hf hfn => by
      obtain rfl : f = 9 := Option.some.inj ((show Tryd.prog.funcNamed "sheafer/sheaferlaw03.SpongePads" = some 9 by kernel_rfl).symm.trans hf) |>.symm
      obtain rfl : fn = Tryd.f9 := (Option.some.inj (Tryd.func9.symm.trans hfn)).symm
      exact ⟨by kernel_rfl, fun j t ht => by
        rw [Tryd.params9] at ht
        have hm : t ∈ [24, 24, 9] := by simpa using Array.mem_of_getElem? ht
        have hall : ([24, 24, 9].all fun u => !Tryd.prog.wantsStandIn u) = true := by kernel_rfl
        exact (show Tryd.prog.wantsStandIn t = false by simpa using List.all_eq_true.1 hall t hm)⟩)
    (by kernel_rfl)
end Go.Proofs.YthjmjccggkejhaaDoor
