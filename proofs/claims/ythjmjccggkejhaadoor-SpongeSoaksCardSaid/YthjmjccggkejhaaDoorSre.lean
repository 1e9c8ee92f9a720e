/- The document's Round and Permute. -/
import Derived.Test.YthjmjccggkejhaaDoorSrd
namespace Go.Proofs.YthjmjccggkejhaaDoor
open Go.RowKit Go.Shelf

def RK (w : World) (r : Nat → Nat) (W : World) : Prop := Ln W (w.heap.size) r ∧ Ln W (w.heap.size + 1) (fun _ => 0) ∧ Ext w W
set_option maxRecDepth 100000 in
theorem RK.ext {w : World} {r : Nat → Nat} {W W' : World} (h : RK w r W) (he : Ext W W') : RK w r W' := ⟨h.1.ext he, h.2.1.ext he, h.2.2.trans he⟩
set_option maxRecDepth 100000 in
theorem RK.put {w : World} {r : Nat → Nat} {W : World} (h : RK w r W) (p v : Nat) : RK w (fun i => if i = p then v else r i) (W.setCell ⟨w.heap.size, p, none⟩ (.int .u64 (v : Nat))) :=
  ⟨h.1.set p v, h.2.1.kept (grown_set _ _ _ _) (some_ne (by omega)), h.2.2.grown (grown_set _ _ _ _) (Nat.le_refl _)⟩

set_option maxRecDepth 100000 in
set_option maxHeartbeats 1000000 in
theorem refRound_any (f : Nat → Nat) (n : Nat) (w : World) (hf : Lok f) (hn : n < 24) : Calls Tryd.prog 25 #[lnv f, .int .i64 (n : Int)] w fun e w' => e = .returned (lnv (rndF f n)) ∧ Ext w w' := by
  have HF := Lib.hid hf
  clear hf
  have HK : Hid (RK w f ((w.alloc (.cells (lc f) 35)).alloc (.cells (lc fun _ => 0) 35))) :=
    Lib.hid ⟨(Cs.new _ _ _ _ rfl).alloc _, Cs.new _ _ _ _ (by simp), ((Ext.refl w).alloc _).alloc _⟩
  rw [lc_zero] at HK
  unfold lnv
  go_enter Tryd.func25, Tryd.ntmps25
  go_wp2_with ((with_reducible refine wpList_load_lanes ?_ (.tmp 2) ?_ w.heap.size f ?_ ?_ ?_); (exact rfl); (exact rfl); (exact rfl); (exact HK.out.1))
  refine (refMix_any f _ HF.out).mono ?_
  rintro e w3 ⟨rfl, he3⟩
  have HK := Lib.hid (HK.out.ext he3)
  clear he3
  go_wp2_with fail
  refine (refRows_any (mixF f) _ (mixF_lt f HF.out)).mono ?_
  rintro e w4 ⟨rfl, he4⟩
  have HK := Lib.hid (HK.out.ext he4)
  clear he4
  have HR0 := Lib.hid (rowF_lt (mixF f) (mixF_lt f HF.out) 0 (by decide))
  have HRN := Lib.hid (rnN_lt n hn)
  have HS := Lib.hid (show (fun i => if i = 0 then rowF (mixF f) 0 ^^^ rnN n else rowF (mixF f) i) = rndF f n from rfl)
  generalize rowF (mixF f) = r at *
  go_upto_region 2 with ((with_reducible refine wpList_store_lanes ?_ ?_ (.tmp 2) (.tmp 7) ?_ w.heap.size (lc f) r ?_ ?_ ?_ ?_ ?_); (exact rfl); (exact rfl); (exact rfl); (exact rfl); (exact rfl); (exact HK.out.1); (exact lc_size _); intro w5 k5 g5; have HK2 : Hid (RK w r w5) := Lib.hid ⟨k5, HK.out.2.1.kept g5 (some_ne (by omega)), HK.out.2.2.grown g5 (Nat.le_refl _)⟩; clear k5 g5)
  clear HK
  refine wp_named fun a0 ha0 => ?_
  obtain ⟨fr, hfr⟩ : ∃ fr : (Nat → Value) → Act, ∀ V, fr V = ((((((a0.put (some 8) (V 0)).put (some 9) (V 1)).put (some 10) (V 2)).put (some 11) (V 3)).put (some 12) (V 4)).put (some 13) (V 5)) := ⟨fun V => ((((((a0.put (some 8) (V 0)).put (some 9) (V 1)).put (some 10) (V 2)).put (some 11) (V 3)).put (some 12) (V 4)).put (some 13) (V 5)), fun _ => rfl⟩
  rw [ha0] at hfr
  simp only [Act.put, List.setIfInBounds_toArray, List.set_cons_zero, List.set_cons_succ] at hfr
  have HFR := Lib.hid hfr
  clear hfr
  refine wp_region_inv (by kernel_rfl) (by kernel_rfl) (fun L A W => ∃ V : Nat → Value, A = fr V ∧ Vals (fun j => ([some (.pointer (some ⟨w.heap.size, 0, none⟩)), some (.int .u64 (r 0 : Nat)), some (.int .i64 (n : Nat)), some (.int .u64 (rnN n : Nat)), some (.int .u64 (r 0 ^^^ rnN n : Nat)), some (.pointer (some ⟨w.heap.size, 0, none⟩)), none] : List (Option Value)).getD j none) L V ∧ (L 6 = false → RK w r W) ∧ (L 6 = true → RK w (fun i => if i = 0 then r 0 ^^^ rnN n else r i) W)) ?_ ⟨?_, ?_, ?_, ?_, ?_, ?_, ?_, trivial⟩ ?_
  · refine ⟨fun j => a0.tmps.getD (([8, 9, 10, 11, 12, 13, 0] : List Nat).getD j 0) undef, ?_, Vals.no _ _ _ (far_none _ _ rfl), fun _ => RK.ext HK2.out (Ext.refl _).drew, fun h => absurd h (by decide)⟩
    rw [HFR.out, ha0]
    rfl
  all_goals clear ha0
  · rintro L A W K hL hC hW ⟨V, rfl, HV, hb, ha⟩ hK
    have h0 : L 6 = false := hC.no hL 6 _ rfl rfl
    have hB := hb h0
    have H := Lib.hid (hK _ W ⟨upd V 0 (.pointer (some ⟨w.heap.size, 0, none⟩)), rfl, HV.up 0 _ (fun x hx => Option.some.inj hx), fun _ => hB, fun h => absurd (more_ne h rfl) (by rw [h0]; simp)⟩)
    clear hK hC hW hL HV hb ha h0
    rw [HFR.out]
    clear hB
    go_wp2_with fail
    show K _ _
    have := H.out
    rw [HFR.out] at this
    exact this
  · rintro L A W K hL hC hW ⟨V, rfl, HV, hb, ha⟩ hK
    have e0 : V 0 = .pointer (some ⟨w.heap.size, 0, none⟩) := HV 0 _ rfl (hW 0 rfl)
    have h0 : L 6 = false := hC.no hL 6 _ rfl rfl
    have hB := hb h0
    have H := Lib.hid (hK _ W ⟨upd V 1 (.int .u64 (r 0 : Nat)), rfl, HV.up 1 _ (fun x hx => Option.some.inj hx), fun _ => hB, fun h => absurd (more_ne h rfl) (by rw [h0]; simp)⟩)
    clear hK hC hW hL HV hb ha h0
    have u0 : (upd V 1 (.int .u64 (r 0 : Nat))) 0 = .pointer (some ⟨w.heap.size, 0, none⟩) := e0
    have HU := Lib.hid (show (upd V 1 (.int .u64 (r 0 : Nat))) 0 = .pointer (some ⟨w.heap.size, 0, none⟩) from u0)
    clear u0
    rw [HFR.out]
    rw [e0]
    clear e0
    have hc := Ln.cell hB.1 0 (by decide)
    clear hB
    go_wp2_with fail
    show K _ _
    have := H.out
    rw [HFR.out] at this
    obtain u0 := HU.out
    rw [u0] at this
    exact this
  · rintro L A W K hL hC hW ⟨V, rfl, HV, hb, ha⟩ hK
    have h0 : L 6 = false := hC.no hL 6 _ rfl rfl
    have hB := hb h0
    have H := Lib.hid (hK _ W ⟨upd V 2 (.int .i64 (n : Nat)), rfl, HV.up 2 _ (fun x hx => Option.some.inj hx), fun _ => hB, fun h => absurd (more_ne h rfl) (by rw [h0]; simp)⟩)
    clear hK hC hW hL HV hb ha h0
    rw [HFR.out]
    clear hB
    go_wp2_with fail
    show K _ _
    have := H.out
    rw [HFR.out] at this
    exact this
  · rintro L A W K hL hC hW ⟨V, rfl, HV, hb, ha⟩ hK
    have e2 : V 2 = .int .i64 (n : Nat) := HV 2 _ rfl (hW 2 rfl)
    have h0 : L 6 = false := hC.no hL 6 _ rfl rfl
    have hB := hb h0
    have H := Lib.hid (hK _ W ⟨upd V 3 (.int .u64 (rnN n : Nat)), rfl, HV.up 3 _ (fun x hx => Option.some.inj hx), fun _ => hB, fun h => absurd (more_ne h rfl) (by rw [h0]; simp)⟩)
    clear hK hC hW hL HV hb ha h0
    have u2 : (upd V 3 (.int .u64 (rnN n : Nat))) 2 = .int .i64 (n : Nat) := e2
    have HU := Lib.hid (show (upd V 3 (.int .u64 (rnN n : Nat))) 2 = .int .i64 (n : Nat) from u2)
    clear u2
    rw [HFR.out]
    rw [e2]
    clear e2
    clear hB
    go_wp2_with fail
    refine (number_ref n _ hn).mono ?_
    rintro e wx ⟨rfl, rfl⟩
    go_wp2_with fail
    show K _ _
    have := H.out
    rw [HFR.out] at this
    obtain u2 := HU.out
    rw [u2] at this
    exact this
  · rintro L A W K hL hC hW ⟨V, rfl, HV, hb, ha⟩ hK
    have e1 : V 1 = .int .u64 (r 0 : Nat) := HV 1 _ rfl (hW 1 rfl)
    have e3 : V 3 = .int .u64 (rnN n : Nat) := HV 3 _ rfl (hW 3 rfl)
    have h0 : L 6 = false := hC.no hL 6 _ rfl rfl
    have hB := hb h0
    have H := Lib.hid (hK _ W ⟨upd V 4 (.int .u64 (r 0 ^^^ rnN n : Nat)), rfl, HV.up 4 _ (fun x hx => Option.some.inj hx), fun _ => hB, fun h => absurd (more_ne h rfl) (by rw [h0]; simp)⟩)
    clear hK hC hW hL HV hb ha h0
    have u1 : (upd V 4 (.int .u64 (r 0 ^^^ rnN n : Nat))) 1 = .int .u64 (r 0 : Nat) := e1
    have u3 : (upd V 4 (.int .u64 (r 0 ^^^ rnN n : Nat))) 3 = .int .u64 (rnN n : Nat) := e3
    have HU := Lib.hid (show (upd V 4 (.int .u64 (r 0 ^^^ rnN n : Nat))) 1 = .int .u64 (r 0 : Nat) ∧ (upd V 4 (.int .u64 (r 0 ^^^ rnN n : Nat))) 3 = .int .u64 (rnN n : Nat) from ⟨u1, u3⟩)
    clear u1 u3
    rw [HFR.out]
    rw [e1, e3]
    clear e1 e3
    have hn := u64_xor_nat (r 0) (rnN n) HR0.out HRN.out
    clear hB
    go_wp2_with fail
    show K _ _
    have := H.out
    rw [HFR.out] at this
    obtain ⟨u1, u3⟩ := HU.out
    rw [u1, u3] at this
    exact this
  · rintro L A W K hL hC hW ⟨V, rfl, HV, hb, ha⟩ hK
    have h0 : L 6 = false := hC.no hL 6 _ rfl rfl
    have hB := hb h0
    have H := Lib.hid (hK _ W ⟨upd V 5 (.pointer (some ⟨w.heap.size, 0, none⟩)), rfl, HV.up 5 _ (fun x hx => Option.some.inj hx), fun _ => hB, fun h => absurd (more_ne h rfl) (by rw [h0]; simp)⟩)
    clear hK hC hW hL HV hb ha h0
    rw [HFR.out]
    clear hB
    go_wp2_with fail
    show K _ _
    have := H.out
    rw [HFR.out] at this
    exact this
  · rintro L A W K hL hC hW ⟨V, rfl, HV, hb, ha⟩ hK
    have e5 : V 5 = .pointer (some ⟨w.heap.size, 0, none⟩) := HV 5 _ rfl (hW 5 rfl)
    have e4 : V 4 = .int .u64 (r 0 ^^^ rnN n : Nat) := HV 4 _ rfl (hW 4 rfl)
    have hB := hb hL
    have H := Lib.hid (show ∀ W', RK w (fun i => if i = 0 then r 0 ^^^ rnN n else r i) W' → K (fr V) W' from fun W' hA => hK _ W' ⟨V, rfl, HV.st 6 rfl, fun h => absurd h (by unfold More; rw [if_pos rfl]; simp), fun _ => hA⟩)
    clear hK hC hW hL HV hb ha
    have HU := Lib.hid (show V 5 = .pointer (some ⟨w.heap.size, 0, none⟩) ∧ V 4 = .int .u64 (r 0 ^^^ rnN n : Nat) from ⟨e5, e4⟩)
    rw [HFR.out]
    rw [e5, e4]
    clear e5 e4
    have hz := Ln.cell hB.1 0 (by decide)
    have hf := Cs.frozen hB.1 0
    have HA := Lib.hid (RK.put hB 0 (r 0 ^^^ rnN n))
    clear hB
    go_wp2_with fail
    show K _ _
    have := H.out _ HA.out
    rw [HFR.out] at this
    obtain ⟨u5, u4⟩ := HU.out
    rw [u5, u4] at this
    exact this
  · rintro L A W hL ⟨V, rfl, HV, hb, ha⟩
    have e0 : V 0 = .pointer (some ⟨w.heap.size, 0, none⟩) := HV 0 _ rfl (hL 0 (by simp))
    have e1 : V 1 = .int .u64 (r 0 : Nat) := HV 1 _ rfl (hL 1 (by simp))
    have e2 : V 2 = .int .i64 (n : Nat) := HV 2 _ rfl (hL 2 (by simp))
    have e3 : V 3 = .int .u64 (rnN n : Nat) := HV 3 _ rfl (hL 3 (by simp))
    have e4 : V 4 = .int .u64 (r 0 ^^^ rnN n : Nat) := HV 4 _ rfl (hL 4 (by simp))
    have e5 : V 5 = .pointer (some ⟨w.heap.size, 0, none⟩) := HV 5 _ rfl (hL 5 (by simp))
    have hA := ha (hL 6 (by simp))
    rw [HFR.out]
    rw [e0, e1, e2, e3, e4, e5]
    clear hL HV HFR e0 e1 e2 e3 e4 e5 hb ha
    rw [HS.out] at hA
    have HK3 := Lib.hid hA
    clear hA HK2 HR0 HRN HS
    go_wp2_with (first
      | ((with_reducible refine wpList_load_lanes ?_ (.tmp 2) ?_ w.heap.size (rndF f n) ?_ ?_ ?_); (exact rfl); (exact rfl); (exact rfl); (exact HK3.out.1))
      | ((with_reducible refine wpList_store_lanes ?_ ?_ (.tmp 4) (.tmp 14) ?_ (w.heap.size + 1) (lc fun _ => 0) (rndF f n) ?_ ?_ ?_ ?_ ?_); (exact rfl); (exact rfl); (exact rfl); (exact rfl); (exact rfl); (exact HK3.out.2.1); (exact lc_size _); intro w7 k7 g7; have K7 := Lib.hid k7; have HE7 := Lib.hid (HK3.out.2.2.grown g7 (by omega)); clear k7 g7))
    exact bodyPost_ret (results_lanes Tryd.results25 _ _ (w.heap.size + 1) _ rfl K7.out) rfl ⟨rfl, HE7.out⟩

set_option maxRecDepth 100000 in
set_option maxHeartbeats 1000000 in
theorem refPermute_any (f : Nat → Nat) (w : World) (hf : Lok f) : Calls Tryd.prog 23 #[lnv f] w fun e w' => e = .returned (lnv (prmF f 24)) ∧ Ext w w' := by
  have HF := Lib.hid hf
  clear hf
  have HK : Hid (RK w (prmF f 0) ((w.alloc (.cells (lc f) 35)).alloc (.cells (lc fun _ => 0) 35))) :=
    Lib.hid ⟨(Cs.new _ _ _ _ rfl).alloc _, Cs.new _ _ _ _ (by simp), ((Ext.refl w).alloc _).alloc _⟩
  rw [lc_zero] at HK
  unfold lnv
  go_enter Tryd.func23, Tryd.ntmps23
  go_wp2_with fail
  go_loopw [3, 4, 5, 6, 7, 8, 9, 10] (fun _ u _ _ _ _ _ _ wr => ∃ k : Nat, k ≤ 24 ∧ u = .int .i64 k ∧ Hid (RK w (prmF f k) wr)) (fun _ u _ _ _ _ _ _ _ => 24 - (intOf u).toNat)
  case atStart => exact ⟨0, by omega, rfl, HK⟩
  case round =>
    clear HK
    obtain ⟨k, hk, rfl, HK⟩ := hrel
    by_cases hlt : k < 24
    · have hd : decide ((k : Int) < 24) = true := by simp; omega
      have HL := Lib.hid (prmF_lt f HF.out k (by omega))
      have HS := Lib.hid (show rndF (prmF f k) k = prmF f (k + 1) from rfl)
      generalize prmF f k = r at *
      go_wp2_with ((with_reducible refine wpList_load_lanes ?_ (.tmp 1) ?_ w.heap.size r ?_ ?_ ?_); (exact rfl); (exact rfl); (exact rfl); (exact HK.out.1))
      refine (refRound_any r k _ HL.out hlt).mono ?_
      rintro e w3 ⟨rfl, he3⟩
      have HK := Lib.hid (HK.out.ext he3)
      clear he3
      go_wp2_with ((with_reducible refine wpList_store_lanes ?_ ?_ (.tmp 1) (.tmp 9) ?_ w.heap.size (lc r) (rndF r k) ?_ ?_ ?_ ?_ ?_); (exact rfl); (exact rfl); (exact rfl); (exact rfl); (exact rfl); (exact HK.out.1); (exact lc_size _); intro w5 k5 g5; have HK2 : Hid (RK w (rndF r k) w5) := Lib.hid ⟨k5, HK.out.2.1.kept g5 (some_ne (by omega)), HK.out.2.2.grown g5 (Nat.le_refl _)⟩; clear k5 g5)
      rw [HS.out] at HK2
      exact ⟨⟨k + 1, by omega, by go_num, HK2⟩, by simp [intOf]; omega⟩
    · obtain rfl : k = 24 := by omega
      obtain ⟨r, hr⟩ : ∃ r, prmF f 24 = r := ⟨_, rfl⟩
      rw [hr] at HK
      have HR := Lib.hid hr
      clear hr
      go_wp2_with (first
        | ((with_reducible refine wpList_load_lanes ?_ (.tmp 1) ?_ w.heap.size r ?_ ?_ ?_); (exact rfl); (exact rfl); (exact rfl); (exact HK.out.1))
        | ((with_reducible refine wpList_store_lanes ?_ ?_ (.tmp 2) (.tmp 11) ?_ (w.heap.size + 1) (lc fun _ => 0) r ?_ ?_ ?_ ?_ ?_); (exact rfl); (exact rfl); (exact rfl); (exact rfl); (exact rfl); (exact HK.out.2.1); (exact lc_size _); intro w7 k7 g7; have K7 := Lib.hid k7; have HE7 := Lib.hid (HK.out.2.2.grown g7 (by omega)); clear k7 g7))
      exact bodyPost_ret (results_lanes Tryd.results23 _ _ (w.heap.size + 1) _ rfl K7.out) rfl ⟨by rw [HR.out]; rfl, HE7.out⟩
end Go.Proofs.YthjmjccggkejhaaDoor
