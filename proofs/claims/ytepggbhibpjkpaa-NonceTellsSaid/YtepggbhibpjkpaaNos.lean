/- The law NonceTells: which nonces may be, are the same, and what they tell. -/
import Derived.Test.YtepggbhibpjkpaaNoq
import Derived.Test.YtepggbhibpjkpaaNok
namespace Go.Proofs.Ytepggbhibpjkpaa
open Go.ChangeShapes Go.WideShapes Go.ChangeAt Go.RowKit Go.Shelf

def TlJ (w : World) (g12 g14 a x y : Nat) (W : World) : Prop := Qb W g12 a x ∧ Wd W g14 29 y ∧ Ext w W
set_option maxRecDepth 100000 in
theorem TlJ.ext {w : World} {g12 g14 a x y : Nat} {W W' : World} (h : TlJ w g12 g14 a x y W) (he : Ext W W') : TlJ w g12 g14 a x y W' := ⟨h.1.ext he, Wd.ext h.2.1 he, h.2.2.trans he⟩
/-- A slice that reads as these nonces. -/
def FwP (n : List Nn) (W : World) (v : Value) : Prop := ∃ A c, v = .slice A n.length c ∧ Nns W (.slice A n.length c) n
set_option maxRecDepth 100000 in
theorem FwP.ext {n : List Nn} {W W' : World} {v : Value} (h : FwP n W v) (he : Ext W W') : FwP n W' v := by
  obtain ⟨A, c, e, hn⟩ := h
  exact ⟨A, c, e, hn.ext he⟩
set_option maxRecDepth 100000 in
theorem FwP.of {n : List Nn} {W : World} {v : Value} (h : Nns W v n) : FwP n W v := by
  obtain ⟨A, c, rfl, _, _⟩ := h.len
  exact ⟨A, c, rfl, h⟩
set_option maxRecDepth 100000 in
set_option maxHeartbeats 16000000 in
theorem nonceTells_any (v u : Value) (ll : List (List Nn)) (l : List (Nat × Nat)) (w : World) (hs : Nss w v ll) (ht : Qts w u l) : Calls Try.prog 4 #[v, u] w (RetT w) := by
  have HS := Lib.hid hs
  have HT := Lib.hid ht
  obtain ⟨A0, c1, rfl, h1, h2⟩ := hs.len
  obtain ⟨A2, c2, rfl, h3, h4⟩ := ht.len
  unfold maxLen at h2 h4
  clear hs ht
  go_enter Try.func4, Try.ntmps4
  go_wp2_with fail
  refine (wakesN_any _).mono ?_
  rintro e w1 ⟨rfl, he⟩
  have HE1 := Lib.hid he
  clear he
  go_wp2_with fail
  go_loopw [20] (fun iv wr => ∃ i : Nat, i ≤ ll.length ∧ iv = .int .i64 i ∧ Hid (Ext w wr)) (fun iv _ => ll.length - (intOf iv).toNat)
  case atStart => exact ⟨0, by omega, rfl, HE1⟩
  case round =>
    clear HE1
    obtain ⟨i, hi, rfl, HE⟩ := hrel
    by_cases hlt : i < ll.length
    · have hd : decide (i < ll.length) = true := decide_eq_true hlt
      have hd2 : decide ((i : Int) < (ll.length : Int)) = true := decide_eq_true (by omega)
      have hd0 : decide (0 < ll.length) = true := decide_eq_true (by omega)
      have hd01 : decide ((0 : Int) < (ll.length : Int)) = true := decide_eq_true (by omega)
      have hl0 : 0 < ll.length := by omega
      obtain ⟨b2, o2, u0, rfl, hc0, hu0⟩ := (HS.out.ext HE.out).at 0 hl0
      obtain ⟨b', o', ui, eA, hci, hui⟩ := (HS.out.ext HE.out).at i hlt
      cases eA
      rw [Nat.add_zero] at hc0
      have HUV := Lib.hid hui
      have HUV0 := Lib.hid hu0
      obtain ⟨x0, hx0⟩ : ∃ x0, ll.getD i [] = x0 := ⟨_, rfl⟩
      obtain ⟨y0, hy0⟩ : ∃ y0, ll.getD 0 [] = y0 := ⟨_, rfl⟩
      rw [hx0] at HUV hui
      rw [hy0] at HUV0 hu0
      obtain ⟨AU, cU, rfl, _, _⟩ := hui.len
      obtain ⟨AV, cV, rfl, _, _⟩ := hu0.len
      have HC0 := Lib.hid hc0
      clear hui hu0 hc0 hx0 hy0
      by_cases h6 : i = 6
      · have d10 : ((i : Int) == 6) = true := by rw [beq_iff_eq]; omega
        have d11 : (i == 6) = true := by simp [h6]
        clear h6
        go_wp2_with fail
        go_ret
        exact ⟨rfl, HE.out⟩
      have d10 : ((i : Int) == 6) = false := by rw [beq_eq_false_iff_ne]; omega
      have d11 : (i == 6) = false := by simpa using h6
      clear h6
      go_upto_region 7 with fail
      clear hd hd2 hci d10 d11
      obtain ⟨n, hn⟩ : ∃ n, x0.take 49 = n := ⟨_, rfl⟩
      obtain ⟨m, hm⟩ : ∃ m, y0.take 49 = m := ⟨_, rfl⟩
      have HN0 := Lib.hid hn
      have HM0 := Lib.hid hm
      clear hn hm
      refine wp_named fun a0 ha0 => ?_
      obtain ⟨fr, hfr⟩ : ∃ fr : (Nat → Value) → Act, ∀ V, fr V = ((((((((a0.put (some 27) (V 0)).put (some 28) (V 1)).put (some 29) (V 2)).put (some 30) (V 3)).put (some 31) (V 4)).put (some 32) (V 5)).put (some 7) (V 6)).put (some 8) (V 7)) := ⟨fun V => ((((((((a0.put (some 27) (V 0)).put (some 28) (V 1)).put (some 29) (V 2)).put (some 30) (V 3)).put (some 31) (V 4)).put (some 32) (V 5)).put (some 7) (V 6)).put (some 8) (V 7)), fun _ => rfl⟩
      rw [ha0] at hfr
      simp only [Act.put, List.setIfInBounds_toArray, List.set_cons_zero, List.set_cons_succ] at hfr
      have HFR := Lib.hid hfr
      clear hfr
      refine wp_region_inv (by kernel_rfl) (by kernel_rfl) (fun L A W => ∃ V : Nat → Value, A = fr V ∧ Vals (fun j => ([some (.slice AU x0.length cU), none, some (.slice (some ⟨b2, o2, none⟩) ll.length c1), some (.pointer (some ⟨b2, o2, none⟩)), some (.slice AV y0.length cV), none, none, none] : List (Option Value)).getD j none) L V ∧ (Ext wr W) ∧ (L 1 = true → FwP n W (V 1)) ∧ (L 5 = true → FwP m W (V 5)) ∧ (L 6 = true → FwP n W (V 6)) ∧ (L 7 = true → FwP m W (V 7))) ?_ ⟨?_, ?_, ?_, ?_, ?_, ?_, ?_, ?_, trivial⟩ ?_
      · refine ⟨fun j => a0.tmps.getD (([27, 28, 29, 30, 31, 32, 7, 8] : List Nat).getD j 0) undef, ?_, Vals.no _ _ _ (far_none _ _ rfl), (Ext.refl wr).drew, fun h0 => absurd h0 (by decide), fun h0 => absurd h0 (by decide), fun h0 => absurd h0 (by decide), fun h0 => absurd h0 (by decide)⟩
        rw [HFR.out, ha0]
        rfl
      all_goals clear ha0
      · rintro L A W K hL hC hW ⟨V, rfl, HV, s0, f1, f5, f6, f7⟩ hK
        have H := Lib.hid (show ∀ W', Ext W W' → K (fr (upd V 0 (.slice AU x0.length cU))) W' from fun W' he => hK _ _ ⟨upd V 0 (.slice AU x0.length cU), rfl, HV.up 0 _ (fun x hx => Option.some.inj hx), Ext.trans s0 he, fun h0 => FwP.ext (f1 (more_ne h0 rfl)) he, fun h0 => FwP.ext (f5 (more_ne h0 rfl)) he, fun h0 => FwP.ext (f6 (more_ne h0 rfl)) he, fun h0 => FwP.ext (f7 (more_ne h0 rfl)) he⟩)
        clear hK hC hW hL HV s0 f1 f5 f6 f7
        rw [HFR.out]
        go_wp2_with fail
        show K _ _
        have := H.out _ (Ext.refl _)
        rw [HFR.out] at this
        exact this
      · rintro L A W K hL hC hW ⟨V, rfl, HV, s0, f1, f5, f6, f7⟩ hK
        have e0 : V 0 = .slice AU x0.length cU := HV 0 _ rfl (hW 0 rfl)
        have hB := s0
        have H := Lib.hid (show ∀ v W', Ext W W' → (FwP n W' v) → K (fr (upd V 1 v)) W' from fun v W' he hp => hK _ _ ⟨upd V 1 v, rfl, HV.up 1 _ (fun x hx => absurd hx (by intro h; cases h)), Ext.trans s0 he, fun h0 => hp, fun h0 => FwP.ext (f5 (more_ne h0 rfl)) he, fun h0 => FwP.ext (f6 (more_ne h0 rfl)) he, fun h0 => FwP.ext (f7 (more_ne h0 rfl)) he⟩)
        have HU := Lib.hid (show ∀ v, (upd V 1 v) 0 = .slice AU x0.length cU from fun v => e0)
        clear hK hC hW hL HV s0 f1 f5 f6 f7
        rw [HFR.out]
        rw [e0]
        clear e0
        have HB := Lib.hid hB
        clear hB
        go_wp2_with fail
        refine (fewN_any _ x0 _ (HUV.out.ext HB.out)).mono ?_
        rintro e wx ⟨v9, rfl, ho, he⟩
        have := H.out _ _ he (FwP.of (HN0.out ▸ ho.nns))
        clear H
        go_wp2_with fail
        show K _ _
        rw [HFR.out] at this
        obtain u0 := HU.out _
        rw [u0] at this
        exact this
      · rintro L A W K hL hC hW ⟨V, rfl, HV, s0, f1, f5, f6, f7⟩ hK
        have H := Lib.hid (show ∀ W', Ext W W' → K (fr (upd V 2 (.slice (some ⟨b2, o2, none⟩) ll.length c1))) W' from fun W' he => hK _ _ ⟨upd V 2 (.slice (some ⟨b2, o2, none⟩) ll.length c1), rfl, HV.up 2 _ (fun x hx => Option.some.inj hx), Ext.trans s0 he, fun h0 => FwP.ext (f1 (more_ne h0 rfl)) he, fun h0 => FwP.ext (f5 (more_ne h0 rfl)) he, fun h0 => FwP.ext (f6 (more_ne h0 rfl)) he, fun h0 => FwP.ext (f7 (more_ne h0 rfl)) he⟩)
        clear hK hC hW hL HV s0 f1 f5 f6 f7
        rw [HFR.out]
        go_wp2_with fail
        show K _ _
        have := H.out _ (Ext.refl _)
        rw [HFR.out] at this
        exact this
      · rintro L A W K hL hC hW ⟨V, rfl, HV, s0, f1, f5, f6, f7⟩ hK
        have e2 : V 2 = .slice (some ⟨b2, o2, none⟩) ll.length c1 := HV 2 _ rfl (hW 2 rfl)
        have H := Lib.hid (show ∀ W', Ext W W' → K (fr (upd V 3 (.pointer (some ⟨b2, o2, none⟩)))) W' from fun W' he => hK _ _ ⟨upd V 3 (.pointer (some ⟨b2, o2, none⟩)), rfl, HV.up 3 _ (fun x hx => Option.some.inj hx), Ext.trans s0 he, fun h0 => FwP.ext (f1 (more_ne h0 rfl)) he, fun h0 => FwP.ext (f5 (more_ne h0 rfl)) he, fun h0 => FwP.ext (f6 (more_ne h0 rfl)) he, fun h0 => FwP.ext (f7 (more_ne h0 rfl)) he⟩)
        have HU := Lib.hid (show (upd V 3 (.pointer (some ⟨b2, o2, none⟩))) 2 = .slice (some ⟨b2, o2, none⟩) ll.length c1 from e2)
        clear hK hC hW hL HV s0 f1 f5 f6 f7
        rw [HFR.out]
        rw [e2]
        clear e2
        go_wp2_with fail
        show K _ _
        have := H.out _ (Ext.refl _)
        rw [HFR.out] at this
        obtain u2 := HU.out
        rw [u2] at this
        exact this
      · rintro L A W K hL hC hW ⟨V, rfl, HV, s0, f1, f5, f6, f7⟩ hK
        have e3 : V 3 = .pointer (some ⟨b2, o2, none⟩) := HV 3 _ rfl (hW 3 rfl)
        have hB := s0
        have H := Lib.hid (show ∀ W', Ext W W' → K (fr (upd V 4 (.slice AV y0.length cV))) W' from fun W' he => hK _ _ ⟨upd V 4 (.slice AV y0.length cV), rfl, HV.up 4 _ (fun x hx => Option.some.inj hx), Ext.trans s0 he, fun h0 => FwP.ext (f1 (more_ne h0 rfl)) he, fun h0 => FwP.ext (f5 (more_ne h0 rfl)) he, fun h0 => FwP.ext (f6 (more_ne h0 rfl)) he, fun h0 => FwP.ext (f7 (more_ne h0 rfl)) he⟩)
        have HU := Lib.hid (show (upd V 4 (.slice AV y0.length cV)) 3 = .pointer (some ⟨b2, o2, none⟩) from e3)
        clear hK hC hW hL HV s0 f1 f5 f6 f7
        rw [HFR.out]
        rw [e3]
        clear e3
        have hcl := hB.cell HC0.out
        clear hB
        go_wp2_with fail
        show K _ _
        have := H.out _ (Ext.refl _)
        rw [HFR.out] at this
        obtain u3 := HU.out
        rw [u3] at this
        exact this
      · rintro L A W K hL hC hW ⟨V, rfl, HV, s0, f1, f5, f6, f7⟩ hK
        have e4 : V 4 = .slice AV y0.length cV := HV 4 _ rfl (hW 4 rfl)
        have hB := s0
        have H := Lib.hid (show ∀ v W', Ext W W' → (FwP m W' v) → K (fr (upd V 5 v)) W' from fun v W' he hp => hK _ _ ⟨upd V 5 v, rfl, HV.up 5 _ (fun x hx => absurd hx (by intro h; cases h)), Ext.trans s0 he, fun h0 => FwP.ext (f1 (more_ne h0 rfl)) he, fun h0 => hp, fun h0 => FwP.ext (f6 (more_ne h0 rfl)) he, fun h0 => FwP.ext (f7 (more_ne h0 rfl)) he⟩)
        have HU := Lib.hid (show ∀ v, (upd V 5 v) 4 = .slice AV y0.length cV from fun v => e4)
        clear hK hC hW hL HV s0 f1 f5 f6 f7
        rw [HFR.out]
        rw [e4]
        clear e4
        have HB := Lib.hid hB
        clear hB
        go_wp2_with fail
        refine (fewN_any _ y0 _ (HUV0.out.ext HB.out)).mono ?_
        rintro e wx ⟨v9, rfl, ho, he⟩
        have := H.out _ _ he (FwP.of (HM0.out ▸ ho.nns))
        clear H
        go_wp2_with fail
        show K _ _
        rw [HFR.out] at this
        obtain u4 := HU.out _
        rw [u4] at this
        exact this
      · rintro L A W K hL hC hW ⟨V, rfl, HV, s0, f1, f5, f6, f7⟩ hK
        have q1 := f1 (hW 1 rfl)
        obtain ⟨A1, c1', e1, z1⟩ := q1
        have H := Lib.hid (show ∀ v W', Ext W W' → (FwP n W' v) → K (fr (upd V 6 v)) W' from fun v W' he hp => hK _ _ ⟨upd V 6 v, rfl, HV.up 6 _ (fun x hx => absurd hx (by intro h; cases h)), Ext.trans s0 he, fun h0 => FwP.ext (f1 (more_ne h0 rfl)) he, fun h0 => FwP.ext (f5 (more_ne h0 rfl)) he, fun h0 => hp, fun h0 => FwP.ext (f7 (more_ne h0 rfl)) he⟩)
        have HU := Lib.hid (show ∀ v, (upd V 6 v) 1 = .slice A1 n.length c1' from fun v => e1)
        clear hK hC hW hL HV s0 f1 f5 f6 f7
        rw [HFR.out]
        rw [e1]
        clear e1
        go_wp2_with fail
        show K _ _
        have := H.out (.slice A1 n.length c1') _ (Ext.refl _) (⟨_, _, rfl, z1⟩)
        rw [HFR.out] at this
        obtain u1 := HU.out _
        rw [u1] at this
        exact this
      · rintro L A W K hL hC hW ⟨V, rfl, HV, s0, f1, f5, f6, f7⟩ hK
        have q5 := f5 (hW 5 rfl)
        obtain ⟨A5, c5, e5, z5⟩ := q5
        have H := Lib.hid (show ∀ v W', Ext W W' → (FwP m W' v) → K (fr (upd V 7 v)) W' from fun v W' he hp => hK _ _ ⟨upd V 7 v, rfl, HV.up 7 _ (fun x hx => absurd hx (by intro h; cases h)), Ext.trans s0 he, fun h0 => FwP.ext (f1 (more_ne h0 rfl)) he, fun h0 => FwP.ext (f5 (more_ne h0 rfl)) he, fun h0 => FwP.ext (f6 (more_ne h0 rfl)) he, fun h0 => hp⟩)
        have HU := Lib.hid (show ∀ v, (upd V 7 v) 5 = .slice A5 m.length c5 from fun v => e5)
        clear hK hC hW hL HV s0 f1 f5 f6 f7
        rw [HFR.out]
        rw [e5]
        clear e5
        go_wp2_with fail
        show K _ _
        have := H.out (.slice A5 m.length c5) _ (Ext.refl _) (⟨_, _, rfl, z5⟩)
        rw [HFR.out] at this
        obtain u5 := HU.out _
        rw [u5] at this
        exact this
      · rintro L A W hL ⟨V, rfl, HV, s0, f1, f5, f6, f7⟩
        have e0 : V 0 = .slice AU x0.length cU := HV 0 _ rfl (hL 0 (by simp))
        have e2 : V 2 = .slice (some ⟨b2, o2, none⟩) ll.length c1 := HV 2 _ rfl (hL 2 (by simp))
        have e3 : V 3 = .pointer (some ⟨b2, o2, none⟩) := HV 3 _ rfl (hL 3 (by simp))
        have e4 : V 4 = .slice AV y0.length cV := HV 4 _ rfl (hL 4 (by simp))
        have hA := s0
        have p28 := f1 (hL 1 (by simp))
        have p32 := f5 (hL 5 (by simp))
        have p7 := f6 (hL 6 (by simp))
        have p8 := f7 (hL 7 (by simp))
        rw [HFR.out]
        rw [e0, e2, e3, e4]
        clear hL HV HFR e0 e2 e3 e4 s0 f1 f5 f6 f7
        obtain ⟨A7, c7, e7, hn7⟩ := p7
        obtain ⟨A8, c8, e8, hm8⟩ := p8
        rw [e7, e8]
        have HX8 := Lib.hid hA
        have HNV7 := Lib.hid hn7
        have HMV7 := Lib.hid hm8
        clear hA hn7 hm8 e7 e8 p28 p32
        go_wp2_with fail
        refine (refRight_any _ n _ HNV7.out).mono ?_
        rintro e wA ⟨rfl, he⟩
        have HXA := Lib.hid (HX8.out.trans he)
        have HNVA := Lib.hid (HNV7.out.ext he)
        have HMVA := Lib.hid (HMV7.out.ext he)
        clear he HX8 HNV7 HMV7
        go_wp2_with fail
        refine (checkN_any _ n _ HNVA.out).mono ?_
        rintro e wB ⟨rfl, he⟩
        have HX9 := Lib.hid (HXA.out.trans he)
        have HNV8 := Lib.hid (HNVA.out.ext he)
        have HMV8 := Lib.hid (HMVA.out.ext he)
        clear he HXA HNVA HMVA
        cases hr : rightN n with
        | false =>
          have HRR := Lib.hid hr
          rw [chkN_no hr]
          clear hr
          go_wp2_with fail
          refine (sameN_any _ _ _ _ _ HNV8.out HMV8.out).mono ?_
          rintro e wD ⟨rfl, he⟩
          have HXD := Lib.hid (HX9.out.trans he)
          have HND := Lib.hid (HNV8.out.ext he)
          have HMD := Lib.hid (HMV8.out.ext he)
          clear he
          go_wp2_with fail
          refine (refSameN_any _ _ _ _ _ HND.out HMD.out).mono ?_
          rintro e wE ⟨rfl, he⟩
          have HXE := Lib.hid (HXD.out.trans he)
          have HNE2 := Lib.hid (HND.out.ext he)
          clear he HXD HMD HND
          obtain ⟨D, hD⟩ : ∃ D, decide (n = m) = D := ⟨_, rfl⟩
          rw [hD]
          clear hD
          have hbb : (D != D) = false := bne_self_eq_false D
          go_wp2_with fail
          refine (fewN_any _ x0 _ (HUV.out.ext HXE.out)).mono ?_
          rintro e wF ⟨vF, rfl, ho, he⟩
          have HXF := Lib.hid (HXE.out.trans he)
          have HNF := Lib.hid (HNE2.out.ext he)
          have HFF := Lib.hid (show Nns wF vF n from HN0.out ▸ ho.nns)
          clear he ho HXE HNE2 hbb
          obtain ⟨AF, cF, rfl, _, _⟩ := HFF.out.len
          go_wp2_with fail
          refine (sameN_any _ _ _ _ _ HNF.out HFF.out).mono ?_
          rintro e wR ⟨rfl, he⟩
          rw [show decide (n = n) = true from decide_eq_true rfl]
          have HER := Lib.hid ((HE.out.trans HXF.out).trans he)
          have HNV := Lib.hid (HNF.out.ext he)
          clear he HXF HFF HNF
          go_wp2_with fail
          go_loopw [67] (fun jv ws => ∃ j : Nat, j ≤ l.length ∧ jv = .int .i64 j ∧ Hid (Ext wR ws)) (fun jv _ => l.length - (intOf jv).toNat)
          case atStart => exact ⟨0, by omega, rfl, Lib.hid (Ext.refl _)⟩
          case round =>
            obtain ⟨j, hj, rfl, HJ⟩ := hrel
            by_cases hjl : j < l.length
            · have hd : decide (j < l.length) = true := decide_eq_true hjl
              have hd2 : decide ((j : Int) < (l.length : Int)) = true := decide_eq_true (by omega)
              obtain ⟨bb, oo, rfl, hrg, hqa, hqk⟩ := (HT.out.ext (HER.out.trans HJ.out)).at j hjl
              have HR := Lib.hid hrg
              have HAA := Lib.hid hqa
              have HKX := Lib.hid hqk
              clear hrg hqa hqk
              generalize (l.getD j (0, 0)).1 = a at *
              generalize (l.getD j (0, 0)).2 = x at *
              have HZS := Lib.hid HJ.out.size
              by_cases h10 : j = 10
              · have d10 : ((j : Int) == 10) = true := by rw [beq_iff_eq]; omega
                have d11 : (j == 10) = true := by simp [h10]
                clear h10
                go_wp2_with (first
                  | ((with_reducible refine wpList_load_at ?_ (.tmp 70) ?_ bb (oo + j * 5) a x ?_ ?_ ?_); (exact rfl); (exact rfl); (exact rfl); (exact HR.out))
                  | ((with_reducible refine wpList_store_at ?_ ?_ (.tmp 12) (.tmp 71) ?_ wr.heap.size 0 0 a x ?_ ?_ ?_ ?_); (exact rfl); (exact rfl); (exact rfl); (exact rfl); (exact rfl); (exact (Cs.new _ _ _ _ rfl)); intro w4 k4 g4; have K4 := Lib.hid k4; have G4 := Lib.hid g4; clear k4 g4))
                exact ⟨⟨i + 1, by omega, by go_num, Lib.hid (HER.out.trans ((HJ.out.alloc (.cells (okc 0 0) 31)).grown G4.out HZS.out))⟩, by simp [intOf]; omega⟩
              have d10 : ((j : Int) == 10) = false := by rw [beq_eq_false_iff_ne]; omega
              have d11 : (j == 10) = false := by simpa using h10
              clear h10
              go_upto_region 16 with (first
                | ((with_reducible refine wpList_load_at ?_ (.tmp 70) ?_ bb (oo + j * 5) a x ?_ ?_ ?_); (exact rfl); (exact rfl); (exact rfl); (exact HR.out))
                | ((with_reducible refine wpList_store_at ?_ ?_ (.tmp 12) (.tmp 71) ?_ wr.heap.size 0 0 a x ?_ ?_ ?_ ?_); (exact rfl); (exact rfl); (exact rfl); (exact rfl); (exact rfl); (exact (Cs.new _ _ _ _ rfl)); intro w4 k4 g4; have K4 := Lib.hid k4; have G4 := Lib.hid g4; clear k4 g4))
              have HX4 := Lib.hid ((HJ.out.alloc (.cells (okc 0 0) 31)).grown G4.out HZS.out)
              have HQ4 := Lib.hid K4.out
              clear G4 K4 hd hd2 d10 d11 HR HJ HZS
              generalize wr.heap.size = g12 at *
              have q0 := HQ4.out.addr
              have HX5 := Lib.hid HX4.out
              have HQ5 := Lib.hid HQ4.out
              have HWS := Lib.hid (show Ws w4 (.slice none 0 0) (owN n a) by unfold owN; rw [HRR.out]; exact ⟨none, 0, rfl, Nat.le_refl _, Nat.zero_le _, fun h => absurd h (by simp), fun i h => absurd h (by simp)⟩)
              go_wp2_with fail
              refine (ofN_any _ n a _ (HNV.out.ext HX5.out) HAA.out).mono ?_
              rintro e w6 ⟨vp, rfl, hws, he⟩
              have HX6 := Lib.hid (HX5.out.trans he)
              have HQ6 := Lib.hid (HQ5.out.ext he)
              have HWP := Lib.hid hws
              have HWS6 := Lib.hid (HWS.out.ext he)
              clear he hws HX5 HQ5 q0 HWS
              obtain ⟨AP, cP, rfl, _, _⟩ := HWP.out.len2
              go_wp2_with fail
              refine (equalW_any _ _ _ _ _ HWP.out HWS6.out).mono ?_
              rintro e w7 ⟨rfl, he⟩
              rw [show decide (owN n a = owN n a) = true from decide_eq_true rfl]
              have HX7 := Lib.hid (HX6.out.trans he)
              have HQ7 := Lib.hid (HQ6.out.ext he)
              clear he HX6 HQ6 HWP HWS6
              have q0 := HQ7.out.addr
              have HQK := Lib.hid HQ7.out.key
              go_wp2_with (first
                | ((with_reducible refine wpList_load_wordIn ?_ (.tmp 90) ?_ g12 1 (x) ?_ ?_ ?_); (exact rfl); (exact rfl); (exact rfl); (exact HQK.out)))
              refine (nextN_any _ n a x _ (HNV.out.ext HX7.out) HAA.out HKX.out).mono ?_
              rintro e w8 ⟨rfl, he⟩
              have HX8 := Lib.hid (HX7.out.trans he)
              have HQ8 := Lib.hid (HQ7.out.ext he)
              have HZ8 := Lib.hid HX8.out.size
              clear he HX7 HQ7 q0 HQK
              have HNE : Hid (nxE n a x = if rightN n then (if a = 0 then 2 else if keyB x then 0 else 2) else 180) := Lib.hid rfl
              have HNW : Hid (nxW n a x = if nxE n a x = 0 then jnN x (rowN n a x).nxt else 0) := Lib.hid rfl
              generalize nxE n a x = ne at *
              generalize nxW n a x = nw at *
              obtain rfl : ne = 180 := by rw [HNE.out, HRR.out]; rfl
              obtain rfl : nw = 0 := HNW.out
              clear HNE HNW
              go_upto_region 22 with (first
                | ((with_reducible refine wpList_store_word ?_ ?_ 29 (.tmp 14) (.tmp 93) ?_ winfo w8.heap.size (wc 0) (0) ?_ ?_ ?_ ?_ ?_); (exact rfl); (exact rfl); (exact rfl); (exact rfl); (exact rfl); (exact (Cs.new _ _ _ _ rfl)); (exact rfl); intro w9 k9 g9; have K9 := Lib.hid k9; have G9 := Lib.hid g9; clear k9 g9))
              have HX9 := Lib.hid ((HX8.out.alloc (.cells (wc 0) 29)).grown G9.out HZ8.out)
              have HB14 := Lib.hid (Cs.rg K9.out)
              clear G9 K9
              go_wp2_with (first
                | ((with_reducible refine wpList_load_wordIn ?_ (.tmp 14) ?_ w8.heap.size 0 (0) ?_ ?_ ?_); (exact rfl); (exact rfl); (exact rfl); (exact HB14.out))
                | ((with_reducible refine wpList_neq_word ?_ (.tmp 101) (.tmp 102) ?_ 0 0 (by decide) (by decide) ?_ ?_ ?_); (exact rfl); (exact rfl); (exact rfl); (exact rfl); rw [show ((0 : Nat) != 0) = false from rfl]))
              exact ⟨⟨j + 1, by omega, by go_num, HX9⟩, by simp [intOf]; omega⟩
            · obtain rfl : j = l.length := by omega
              have hd : decide (l.length < l.length) = false := decide_eq_false (by omega)
              have hd2 : decide ((l.length : Int) < (l.length : Int)) = false := decide_eq_false (by omega)
              go_wp2_with fail
              exact ⟨⟨i + 1, by omega, by go_num, Lib.hid (HER.out.trans HJ.out)⟩, by simp [intOf]; omega⟩
        | true =>
          have HRR := Lib.hid hr
          rw [chkN_yes hr]
          clear hr
          go_wp2_with fail
          refine (sameN_any _ _ _ _ _ HNV8.out HMV8.out).mono ?_
          rintro e wD ⟨rfl, he⟩
          have HXD := Lib.hid (HX9.out.trans he)
          have HND := Lib.hid (HNV8.out.ext he)
          have HMD := Lib.hid (HMV8.out.ext he)
          clear he
          go_wp2_with fail
          refine (refSameN_any _ _ _ _ _ HND.out HMD.out).mono ?_
          rintro e wE ⟨rfl, he⟩
          have HXE := Lib.hid (HXD.out.trans he)
          have HNE2 := Lib.hid (HND.out.ext he)
          clear he HXD HMD HND
          obtain ⟨D, hD⟩ : ∃ D, decide (n = m) = D := ⟨_, rfl⟩
          rw [hD]
          clear hD
          have hbb : (D != D) = false := bne_self_eq_false D
          go_wp2_with fail
          refine (fewN_any _ x0 _ (HUV.out.ext HXE.out)).mono ?_
          rintro e wF ⟨vF, rfl, ho, he⟩
          have HXF := Lib.hid (HXE.out.trans he)
          have HNF := Lib.hid (HNE2.out.ext he)
          have HFF := Lib.hid (show Nns wF vF n from HN0.out ▸ ho.nns)
          clear he ho HXE HNE2 hbb
          obtain ⟨AF, cF, rfl, _, _⟩ := HFF.out.len
          go_wp2_with fail
          refine (sameN_any _ _ _ _ _ HNF.out HFF.out).mono ?_
          rintro e wR ⟨rfl, he⟩
          rw [show decide (n = n) = true from decide_eq_true rfl]
          have HER := Lib.hid ((HE.out.trans HXF.out).trans he)
          have HNV := Lib.hid (HNF.out.ext he)
          clear he HXF HFF HNF
          go_wp2_with fail
          go_loopw [67] (fun jv ws => ∃ j : Nat, j ≤ l.length ∧ jv = .int .i64 j ∧ Hid (Ext wR ws)) (fun jv _ => l.length - (intOf jv).toNat)
          case atStart => exact ⟨0, by omega, rfl, Lib.hid (Ext.refl _)⟩
          case round =>
            obtain ⟨j, hj, rfl, HJ⟩ := hrel
            by_cases hjl : j < l.length
            · have hd : decide (j < l.length) = true := decide_eq_true hjl
              have hd2 : decide ((j : Int) < (l.length : Int)) = true := decide_eq_true (by omega)
              obtain ⟨bb, oo, rfl, hrg, hqa, hqk⟩ := (HT.out.ext (HER.out.trans HJ.out)).at j hjl
              have HR := Lib.hid hrg
              have HAA := Lib.hid hqa
              have HKX := Lib.hid hqk
              clear hrg hqa hqk
              generalize (l.getD j (0, 0)).1 = a at *
              generalize (l.getD j (0, 0)).2 = x at *
              have HZS := Lib.hid HJ.out.size
              by_cases h10 : j = 10
              · have d10 : ((j : Int) == 10) = true := by rw [beq_iff_eq]; omega
                have d11 : (j == 10) = true := by simp [h10]
                clear h10
                go_wp2_with (first
                  | ((with_reducible refine wpList_load_at ?_ (.tmp 70) ?_ bb (oo + j * 5) a x ?_ ?_ ?_); (exact rfl); (exact rfl); (exact rfl); (exact HR.out))
                  | ((with_reducible refine wpList_store_at ?_ ?_ (.tmp 12) (.tmp 71) ?_ wr.heap.size 0 0 a x ?_ ?_ ?_ ?_); (exact rfl); (exact rfl); (exact rfl); (exact rfl); (exact rfl); (exact (Cs.new _ _ _ _ rfl)); intro w4 k4 g4; have K4 := Lib.hid k4; have G4 := Lib.hid g4; clear k4 g4))
                exact ⟨⟨i + 1, by omega, by go_num, Lib.hid (HER.out.trans ((HJ.out.alloc (.cells (okc 0 0) 31)).grown G4.out HZS.out))⟩, by simp [intOf]; omega⟩
              have d10 : ((j : Int) == 10) = false := by rw [beq_eq_false_iff_ne]; omega
              have d11 : (j == 10) = false := by simpa using h10
              clear h10
              go_upto_region 16 with (first
                | ((with_reducible refine wpList_load_at ?_ (.tmp 70) ?_ bb (oo + j * 5) a x ?_ ?_ ?_); (exact rfl); (exact rfl); (exact rfl); (exact HR.out))
                | ((with_reducible refine wpList_store_at ?_ ?_ (.tmp 12) (.tmp 71) ?_ wr.heap.size 0 0 a x ?_ ?_ ?_ ?_); (exact rfl); (exact rfl); (exact rfl); (exact rfl); (exact rfl); (exact (Cs.new _ _ _ _ rfl)); intro w4 k4 g4; have K4 := Lib.hid k4; have G4 := Lib.hid g4; clear k4 g4))
              have HX4 := Lib.hid ((HJ.out.alloc (.cells (okc 0 0) 31)).grown G4.out HZS.out)
              have HQ4 := Lib.hid K4.out
              clear G4 K4 hd hd2 d10 d11 HR HJ HZS
              generalize wr.heap.size = g12 at *
              have q0 := HQ4.out.addr
              go_wp2_with fail
              refine (refOfN_any _ n a _ (HNV.out.ext HX4.out) (by have := right_len HRR.out; omega)).mono ?_
              rintro e w5 ⟨vo, rfl, hws, he⟩
              have HX5 := Lib.hid (HX4.out.trans he)
              have HQ5 := Lib.hid (HQ4.out.ext he)
              have HWS := Lib.hid (show Ws w5 vo (owN n a) by unfold owN; rw [HRR.out]; exact hws)
              clear he hws HX4 HQ4 q0
              obtain ⟨AO, cO, rfl, _, _⟩ := HWS.out.len2
              have q0 := HQ5.out.addr
              go_wp2_with fail
              refine (ofN_any _ n a _ (HNV.out.ext HX5.out) HAA.out).mono ?_
              rintro e w6 ⟨vp, rfl, hws, he⟩
              have HX6 := Lib.hid (HX5.out.trans he)
              have HQ6 := Lib.hid (HQ5.out.ext he)
              have HWP := Lib.hid hws
              have HWS6 := Lib.hid (HWS.out.ext he)
              clear he hws HX5 HQ5 q0 HWS
              obtain ⟨AP, cP, rfl, _, _⟩ := HWP.out.len2
              go_wp2_with fail
              refine (equalW_any _ _ _ _ _ HWP.out HWS6.out).mono ?_
              rintro e w7 ⟨rfl, he⟩
              rw [show decide (owN n a = owN n a) = true from decide_eq_true rfl]
              have HX7 := Lib.hid (HX6.out.trans he)
              have HQ7 := Lib.hid (HQ6.out.ext he)
              clear he HX6 HQ6 HWP HWS6
              have q0 := HQ7.out.addr
              have HQK := Lib.hid HQ7.out.key
              go_wp2_with (first
                | ((with_reducible refine wpList_load_wordIn ?_ (.tmp 90) ?_ g12 1 (x) ?_ ?_ ?_); (exact rfl); (exact rfl); (exact rfl); (exact HQK.out)))
              refine (nextN_any _ n a x _ (HNV.out.ext HX7.out) HAA.out HKX.out).mono ?_
              rintro e w8 ⟨rfl, he⟩
              have HX8 := Lib.hid (HX7.out.trans he)
              have HQ8 := Lib.hid (HQ7.out.ext he)
              have HZ8 := Lib.hid HX8.out.size
              clear he HX7 HQ7 q0 HQK
              have HNE : Hid (nxE n a x = if rightN n then (if a = 0 then 2 else if keyB x then 0 else 2) else 180) := Lib.hid rfl
              have HNW : Hid (nxW n a x = if nxE n a x = 0 then jnN x (rowN n a x).nxt else 0) := Lib.hid rfl
              generalize nxE n a x = ne at *
              generalize nxW n a x = nw at *
              by_cases ha0 : a = 0
              · have hf : ((a : Int) == 0) = true := by rw [beq_iff_eq]; omega
                obtain rfl : ne = 2 := by rw [HNE.out, HRR.out, if_pos rfl, if_pos ha0]
                obtain rfl : nw = 0 := HNW.out
                clear HNE HNW ha0
                go_upto_region 22 with (first
                  | ((with_reducible refine wpList_store_word ?_ ?_ 29 (.tmp 14) (.tmp 93) ?_ winfo w8.heap.size (wc 0) (0) ?_ ?_ ?_ ?_ ?_); (exact rfl); (exact rfl); (exact rfl); (exact rfl); (exact rfl); (exact (Cs.new _ _ _ _ rfl)); (exact rfl); intro w9 k9 g9; have K9 := Lib.hid k9; have G9 := Lib.hid g9; clear k9 g9))
                have HX9 := Lib.hid ((HX8.out.alloc (.cells (wc 0) 29)).grown G9.out HZ8.out)
                have HB14 := Lib.hid (Cs.rg K9.out)
                have HQ9 := Lib.hid (Cs.kept (HQ8.out.ext ((Ext.refl _).alloc (.cells (wc 0) 29))) G9.out (some_ne (Nat.ne_of_lt (Cs.lt HQ8.out))))
                have q0 := Qb.addr HQ9.out
                go_wp2_with (first
                  | ((with_reducible refine wpList_load_wordIn ?_ (.tmp 14) ?_ w8.heap.size 0 (0) ?_ ?_ ?_); (exact rfl); (exact rfl); (exact rfl); (exact HB14.out))
                  | ((with_reducible refine wpList_neq_word ?_ (.tmp 118) (.tmp 119) ?_ 0 0 (by decide) (by decide) ?_ ?_ ?_); (exact rfl); (exact rfl); (exact rfl); (exact rfl); rw [show ((0 : Nat) != 0) = false from rfl]))
                exact ⟨⟨j + 1, by omega, by go_num, HX9⟩, by simp [intOf]; omega⟩
              · have hf : ((a : Int) == 0) = false := by rw [beq_eq_false_iff_ne]; omega
                cases hkb : keyB x with
                | false =>
                  obtain rfl : ne = 2 := by rw [HNE.out, HRR.out, hkb, if_pos rfl, if_neg ha0]; rfl
                  obtain rfl : nw = 0 := HNW.out
                  have HKB := Lib.hid hkb
                  clear HNE HNW ha0 hkb
                  go_upto_region 22 with (first
                    | ((with_reducible refine wpList_store_word ?_ ?_ 29 (.tmp 14) (.tmp 93) ?_ winfo w8.heap.size (wc 0) (0) ?_ ?_ ?_ ?_ ?_); (exact rfl); (exact rfl); (exact rfl); (exact rfl); (exact rfl); (exact (Cs.new _ _ _ _ rfl)); (exact rfl); intro w9 k9 g9; have K9 := Lib.hid k9; have G9 := Lib.hid g9; clear k9 g9))
                  have HX9 := Lib.hid ((HX8.out.alloc (.cells (wc 0) 29)).grown G9.out HZ8.out)
                  have HB14 := Lib.hid (Cs.rg K9.out)
                  have HQ9 := Lib.hid (Cs.kept (HQ8.out.ext ((Ext.refl _).alloc (.cells (wc 0) 29))) G9.out (some_ne (Nat.ne_of_lt (Cs.lt HQ8.out))))
                  have q0 := Qb.addr HQ9.out
                  have HQK := Lib.hid (Qb.key HQ9.out)
                  go_wp2_with (first
                    | ((with_reducible refine wpList_load_wordIn ?_ (.tmp 110) ?_ g12 1 (x) ?_ ?_ ?_); (exact rfl); (exact rfl); (exact rfl); (exact HQK.out)))
                  refine (refKey_any x _).mono ?_
                  rintro e wA ⟨rfl, he⟩
                  rw [HKB.out]
                  have HXA := Lib.hid (HX9.out.trans he)
                  have HBA := Lib.hid (fun (y : Nat) (z : Value) (hz : (wc 0).toList[y]? = some z) => he.cell (HB14.out y z hz))
                  clear he HX9 HB14 HQK
                  go_wp2_with (first
                    | ((with_reducible refine wpList_load_wordIn ?_ (.tmp 14) ?_ w8.heap.size 0 (0) ?_ ?_ ?_); (exact rfl); (exact rfl); (exact rfl); (exact HBA.out))
                    | ((with_reducible refine wpList_neq_word ?_ (.tmp 118) (.tmp 119) ?_ 0 0 (by decide) (by decide) ?_ ?_ ?_); (exact rfl); (exact rfl); (exact rfl); (exact rfl); rw [show ((0 : Nat) != 0) = false from rfl]))
                  exact ⟨⟨j + 1, by omega, by go_num, HXA⟩, by simp [intOf]; omega⟩
                | true =>
                  obtain rfl : ne = 0 := by rw [HNE.out, HRR.out, hkb, if_pos rfl, if_neg ha0]; rfl
                  have HNWV := Lib.hid (show nw = jnN x (rowN n a x).nxt from HNW.out)
                  have HNL := Lib.hid (show (rowN n a x).nxt < 18446744073709551616 from (rowN_ok HNV.out.oks HAA.out HKX.out).2.2)
                  have HKB := Lib.hid hkb
                  obtain ⟨nx, hnx⟩ : ∃ nx, (rowN n a x).nxt = nx := ⟨_, rfl⟩
                  have HNX := Lib.hid hnx
                  rw [hnx] at HNWV HNL
                  obtain rfl := HNWV.out
                  have HJL := Lib.hid (jnN_lt x nx HNL.out)
                  clear HNE HNW ha0 hkb hnx HNWV
                  go_upto_region 22 with (first
                    | ((with_reducible refine wpList_store_word ?_ ?_ 29 (.tmp 14) (.tmp 93) ?_ winfo w8.heap.size (wc 0) (jnN x nx) ?_ ?_ ?_ ?_ ?_); (exact rfl); (exact rfl); (exact rfl); (exact rfl); (exact rfl); (exact (Cs.new _ _ _ _ rfl)); (exact rfl); intro w9 k9 g9; have K9 := Lib.hid k9; have G9 := Lib.hid g9; clear k9 g9))
                  have HX9 := Lib.hid ((HX8.out.alloc (.cells (wc 0) 29)).grown G9.out HZ8.out)
                  have HQ9 := Lib.hid (show Qb w9 g12 a x from Cs.kept (HQ8.out.ext ((Ext.refl _).alloc (.cells (wc 0) 29))) G9.out (some_ne (Nat.ne_of_lt (Cs.lt HQ8.out))))
                  have HW9 := Lib.hid K9.out
                  have q0 := Qb.addr HQ9.out
                  have HQK := Lib.hid (Qb.key HQ9.out)
                  clear G9 K9 HQ8 HX8
                  generalize w8.heap.size = g14 at *
                  go_wp2_with (first
                    | ((with_reducible refine wpList_load_wordIn ?_ (.tmp 110) ?_ g12 1 (x) ?_ ?_ ?_); (exact rfl); (exact rfl); (exact rfl); (exact HQK.out)))
                  refine (refKey_any x _).mono ?_
                  rintro e wq ⟨rfl, he⟩
                  rw [HKB.out]
                  have HJ28 : Hid (TlJ wq g12 g14 a x (jnN x nx) wq) := Lib.hid ⟨HQ9.out.ext he, Wd.ext HW9.out he, Ext.refl _⟩
                  have HXQ := Lib.hid (HX9.out.trans he)
                  have HNQ := Lib.hid (HNV.out.ext HXQ.out)
                  clear he HX9 HQ9 HW9 HQK q0
                  go_upto_region 28 with fail
                  refine wp_named fun a0 ha0 => ?_
                  obtain ⟨fr, hfr⟩ : ∃ fr : (Nat → Value) → Act, ∀ V, fr V = ((((((((((((((((a0.put (some 123) (V 0)).put (some 124) (V 1)).put (some 125) (V 2)).put (some 126) (V 3)).put (some 127) (V 4)).put (some 128) (V 5)).put (some 129) (V 6)).put (some 130) (V 7)).put (some 131) (V 8)).put (some 132) (V 9)).put (some 133) (V 10)).put (some 134) (V 11)).put (some 135) (V 12)).put (some 136) (V 13)).put (some 137) (V 14)).put (some 122) (V 15)) := ⟨fun V => ((((((((((((((((a0.put (some 123) (V 0)).put (some 124) (V 1)).put (some 125) (V 2)).put (some 126) (V 3)).put (some 127) (V 4)).put (some 128) (V 5)).put (some 129) (V 6)).put (some 130) (V 7)).put (some 131) (V 8)).put (some 132) (V 9)).put (some 133) (V 10)).put (some 134) (V 11)).put (some 135) (V 12)).put (some 136) (V 13)).put (some 137) (V 14)).put (some 122) (V 15)), fun _ => rfl⟩
                  rw [ha0] at hfr
                  simp only [Act.put, List.setIfInBounds_toArray, List.set_cons_zero, List.set_cons_succ] at hfr
                  have HFR := Lib.hid hfr
                  clear hfr
                  refine wp_region_inv (by kernel_rfl) (by kernel_rfl) (fun L A W => ∃ V : Nat → Value, A = fr V ∧ Vals (fun j => ([some (.int .i64 0), some (.bool false), some (.bool false), some (wv (jnN x nx)), some (.pointer (some ⟨g12, 1, none⟩)), some (wv x), some (.slice A7 n.length c7), some (.pointer (some ⟨g12, 0, none⟩)), some (.int .u64 (a : Nat)), some (.pointer (some ⟨g12, 1, none⟩)), some (wv x), some (.int .u64 (nx : Nat)), some (wv (jnN x nx)), some (.bool false), some (.bool false), some (.bool false)] : List (Option Value)).getD j none) L V ∧ (TlJ wq g12 g14 a x (jnN x nx) W)) ?_ ⟨?_, ?_, ?_, ?_, ?_, ?_, ?_, ?_, ?_, ?_, ?_, ?_, ?_, ?_, ?_, ?_, trivial⟩ ?_
                  · refine ⟨fun j => a0.tmps.getD (([123, 124, 125, 126, 127, 128, 129, 130, 131, 132, 133, 134, 135, 136, 137, 122] : List Nat).getD j 0) undef, ?_, Vals.no _ _ _ (far_none _ _ rfl), HJ28.out.ext ((Ext.refl _).drew)⟩
                    rw [HFR.out, ha0]
                    rfl
                  all_goals clear ha0
                  · rintro L A W K hL hC hW ⟨V, rfl, HV, s0⟩ hK
                    have H := Lib.hid (show ∀ W', Ext W W' → K (fr (upd V 0 (.int .i64 0))) W' from fun W' he => hK _ _ ⟨upd V 0 (.int .i64 0), rfl, HV.up 0 _ (fun x hx => Option.some.inj hx), TlJ.ext s0 he⟩)
                    clear hK hC hW hL HV s0
                    rw [HFR.out]
                    go_wp2_with fail
                    show K _ _
                    have := H.out _ (Ext.refl _)
                    rw [HFR.out] at this
                    exact this
                  · rintro L A W K hL hC hW ⟨V, rfl, HV, s0⟩ hK
                    have e0 : V 0 = .int .i64 0 := HV 0 _ rfl (hW 0 rfl)
                    have H := Lib.hid (show ∀ W', Ext W W' → K (fr (upd V 1 (.bool false))) W' from fun W' he => hK _ _ ⟨upd V 1 (.bool false), rfl, HV.up 1 _ (fun x hx => Option.some.inj hx), TlJ.ext s0 he⟩)
                    have HU := Lib.hid (show (upd V 1 (.bool false)) 0 = .int .i64 0 from e0)
                    clear hK hC hW hL HV s0
                    rw [HFR.out]
                    rw [e0]
                    clear e0
                    go_wp2_with fail
                    show K _ _
                    have := H.out _ (Ext.refl _)
                    rw [HFR.out] at this
                    obtain u0 := HU.out
                    rw [u0] at this
                    exact this
                  · rintro L A W K hL hC hW ⟨V, rfl, HV, s0⟩ hK
                    have e1 : V 1 = .bool false := HV 1 _ rfl (hW 1 rfl)
                    have H := Lib.hid (show ∀ W', Ext W W' → K (fr (upd V 2 (.bool false))) W' from fun W' he => hK _ _ ⟨upd V 2 (.bool false), rfl, HV.up 2 _ (fun x hx => Option.some.inj hx), TlJ.ext s0 he⟩)
                    have HU := Lib.hid (show (upd V 2 (.bool false)) 1 = .bool false from e1)
                    clear hK hC hW hL HV s0
                    rw [HFR.out]
                    rw [e1]
                    clear e1
                    go_wp2_with fail
                    show K _ _
                    have := H.out _ (Ext.refl _)
                    rw [HFR.out] at this
                    obtain u1 := HU.out
                    rw [u1] at this
                    exact this
                  · rintro L A W K hL hC hW ⟨V, rfl, HV, s0⟩ hK
                    have e2 : V 2 = .bool false := HV 2 _ rfl (hW 2 rfl)
                    have hB := s0
                    have H := Lib.hid (show ∀ W', Ext W W' → K (fr (upd V 3 (wv (jnN x nx)))) W' from fun W' he => hK _ _ ⟨upd V 3 (wv (jnN x nx)), rfl, HV.up 3 _ (fun x hx => Option.some.inj hx), TlJ.ext s0 he⟩)
                    have HU := Lib.hid (show (upd V 3 (wv (jnN x nx))) 2 = .bool false from e2)
                    clear hK hC hW hL HV s0
                    rw [HFR.out]
                    rw [e2]
                    clear e2
                    have HWW := Lib.hid (Cs.rg hB.2.1)
                    clear hB
                    refine wpList_load_wordIn rfl (.tmp 14) rfl g14 0 (jnN x nx) rfl HWW.out ?_
                    show K _ _
                    have := H.out _ (Ext.refl _)
                    rw [HFR.out] at this
                    obtain u2 := HU.out
                    rw [u2] at this
                    exact this
                  · rintro L A W K hL hC hW ⟨V, rfl, HV, s0⟩ hK
                    have e2 : V 2 = .bool false := HV 2 _ rfl (hW 2 rfl)
                    have H := Lib.hid (show ∀ W', Ext W W' → K (fr (upd V 4 (.pointer (some ⟨g12, 1, none⟩)))) W' from fun W' he => hK _ _ ⟨upd V 4 (.pointer (some ⟨g12, 1, none⟩)), rfl, HV.up 4 _ (fun x hx => Option.some.inj hx), TlJ.ext s0 he⟩)
                    have HU := Lib.hid (show (upd V 4 (.pointer (some ⟨g12, 1, none⟩))) 2 = .bool false from e2)
                    clear hK hC hW hL HV s0
                    rw [HFR.out]
                    rw [e2]
                    clear e2
                    go_wp2_with fail
                    show K _ _
                    have := H.out _ (Ext.refl _)
                    rw [HFR.out] at this
                    obtain u2 := HU.out
                    rw [u2] at this
                    exact this
                  · rintro L A W K hL hC hW ⟨V, rfl, HV, s0⟩ hK
                    have e2 : V 2 = .bool false := HV 2 _ rfl (hW 2 rfl)
                    have e4 : V 4 = .pointer (some ⟨g12, 1, none⟩) := HV 4 _ rfl (hW 4 rfl)
                    have hB := s0
                    have H := Lib.hid (show ∀ W', Ext W W' → K (fr (upd V 5 (wv x))) W' from fun W' he => hK _ _ ⟨upd V 5 (wv x), rfl, HV.up 5 _ (fun x hx => Option.some.inj hx), TlJ.ext s0 he⟩)
                    have HU := Lib.hid (show (upd V 5 (wv x)) 2 = .bool false ∧ (upd V 5 (wv x)) 4 = .pointer (some ⟨g12, 1, none⟩) from ⟨e2, e4⟩)
                    clear hK hC hW hL HV s0
                    rw [HFR.out]
                    rw [e2, e4]
                    clear e2 e4
                    have HWW := Lib.hid hB.1.key
                    clear hB
                    refine wpList_load_wordIn rfl (.tmp 127) rfl g12 1 x rfl HWW.out ?_
                    show K _ _
                    have := H.out _ (Ext.refl _)
                    rw [HFR.out] at this
                    obtain ⟨u2, u4⟩ := HU.out
                    rw [u2, u4] at this
                    exact this
                  · rintro L A W K hL hC hW ⟨V, rfl, HV, s0⟩ hK
                    have e2 : V 2 = .bool false := HV 2 _ rfl (hW 2 rfl)
                    have H := Lib.hid (show ∀ W', Ext W W' → K (fr (upd V 6 (.slice A7 n.length c7))) W' from fun W' he => hK _ _ ⟨upd V 6 (.slice A7 n.length c7), rfl, HV.up 6 _ (fun x hx => Option.some.inj hx), TlJ.ext s0 he⟩)
                    have HU := Lib.hid (show (upd V 6 (.slice A7 n.length c7)) 2 = .bool false from e2)
                    clear hK hC hW hL HV s0
                    rw [HFR.out]
                    rw [e2]
                    clear e2
                    go_wp2_with fail
                    show K _ _
                    have := H.out _ (Ext.refl _)
                    rw [HFR.out] at this
                    obtain u2 := HU.out
                    rw [u2] at this
                    exact this
                  · rintro L A W K hL hC hW ⟨V, rfl, HV, s0⟩ hK
                    have e2 : V 2 = .bool false := HV 2 _ rfl (hW 2 rfl)
                    have H := Lib.hid (show ∀ W', Ext W W' → K (fr (upd V 7 (.pointer (some ⟨g12, 0, none⟩)))) W' from fun W' he => hK _ _ ⟨upd V 7 (.pointer (some ⟨g12, 0, none⟩)), rfl, HV.up 7 _ (fun x hx => Option.some.inj hx), TlJ.ext s0 he⟩)
                    have HU := Lib.hid (show (upd V 7 (.pointer (some ⟨g12, 0, none⟩))) 2 = .bool false from e2)
                    clear hK hC hW hL HV s0
                    rw [HFR.out]
                    rw [e2]
                    clear e2
                    go_wp2_with fail
                    show K _ _
                    have := H.out _ (Ext.refl _)
                    rw [HFR.out] at this
                    obtain u2 := HU.out
                    rw [u2] at this
                    exact this
                  · rintro L A W K hL hC hW ⟨V, rfl, HV, s0⟩ hK
                    have e2 : V 2 = .bool false := HV 2 _ rfl (hW 2 rfl)
                    have e7 : V 7 = .pointer (some ⟨g12, 0, none⟩) := HV 7 _ rfl (hW 7 rfl)
                    have hB := s0
                    have H := Lib.hid (show ∀ W', Ext W W' → K (fr (upd V 8 (.int .u64 (a : Nat)))) W' from fun W' he => hK _ _ ⟨upd V 8 (.int .u64 (a : Nat)), rfl, HV.up 8 _ (fun x hx => Option.some.inj hx), TlJ.ext s0 he⟩)
                    have HU := Lib.hid (show (upd V 8 (.int .u64 (a : Nat))) 2 = .bool false ∧ (upd V 8 (.int .u64 (a : Nat))) 7 = .pointer (some ⟨g12, 0, none⟩) from ⟨e2, e7⟩)
                    clear hK hC hW hL HV s0
                    rw [HFR.out]
                    rw [e2, e7]
                    clear e2 e7
                    have qq := hB.1.addr
                    clear hB
                    go_wp2_with fail
                    show K _ _
                    have := H.out _ (Ext.refl _)
                    rw [HFR.out] at this
                    obtain ⟨u2, u7⟩ := HU.out
                    rw [u2, u7] at this
                    exact this
                  · rintro L A W K hL hC hW ⟨V, rfl, HV, s0⟩ hK
                    have e2 : V 2 = .bool false := HV 2 _ rfl (hW 2 rfl)
                    have H := Lib.hid (show ∀ W', Ext W W' → K (fr (upd V 9 (.pointer (some ⟨g12, 1, none⟩)))) W' from fun W' he => hK _ _ ⟨upd V 9 (.pointer (some ⟨g12, 1, none⟩)), rfl, HV.up 9 _ (fun x hx => Option.some.inj hx), TlJ.ext s0 he⟩)
                    have HU := Lib.hid (show (upd V 9 (.pointer (some ⟨g12, 1, none⟩))) 2 = .bool false from e2)
                    clear hK hC hW hL HV s0
                    rw [HFR.out]
                    rw [e2]
                    clear e2
                    go_wp2_with fail
                    show K _ _
                    have := H.out _ (Ext.refl _)
                    rw [HFR.out] at this
                    obtain u2 := HU.out
                    rw [u2] at this
                    exact this
                  · rintro L A W K hL hC hW ⟨V, rfl, HV, s0⟩ hK
                    have e2 : V 2 = .bool false := HV 2 _ rfl (hW 2 rfl)
                    have e9 : V 9 = .pointer (some ⟨g12, 1, none⟩) := HV 9 _ rfl (hW 9 rfl)
                    have hB := s0
                    have H := Lib.hid (show ∀ W', Ext W W' → K (fr (upd V 10 (wv x))) W' from fun W' he => hK _ _ ⟨upd V 10 (wv x), rfl, HV.up 10 _ (fun x hx => Option.some.inj hx), TlJ.ext s0 he⟩)
                    have HU := Lib.hid (show (upd V 10 (wv x)) 2 = .bool false ∧ (upd V 10 (wv x)) 9 = .pointer (some ⟨g12, 1, none⟩) from ⟨e2, e9⟩)
                    clear hK hC hW hL HV s0
                    rw [HFR.out]
                    rw [e2, e9]
                    clear e2 e9
                    have HWW := Lib.hid hB.1.key
                    clear hB
                    refine wpList_load_wordIn rfl (.tmp 132) rfl g12 1 x rfl HWW.out ?_
                    show K _ _
                    have := H.out _ (Ext.refl _)
                    rw [HFR.out] at this
                    obtain ⟨u2, u9⟩ := HU.out
                    rw [u2, u9] at this
                    exact this
                  · rintro L A W K hL hC hW ⟨V, rfl, HV, s0⟩ hK
                    have e2 : V 2 = .bool false := HV 2 _ rfl (hW 2 rfl)
                    have e6 : V 6 = .slice A7 n.length c7 := HV 6 _ rfl (hW 6 rfl)
                    have e8 : V 8 = .int .u64 (a : Nat) := HV 8 _ rfl (hW 8 rfl)
                    have e10 : V 10 = wv x := HV 10 _ rfl (hW 10 rfl)
                    have hB := s0
                    have H := Lib.hid (show ∀ W', Ext W W' → K (fr (upd V 11 (.int .u64 (nx : Nat)))) W' from fun W' he => hK _ _ ⟨upd V 11 (.int .u64 (nx : Nat)), rfl, HV.up 11 _ (fun x hx => Option.some.inj hx), TlJ.ext s0 he⟩)
                    have HU := Lib.hid (show (upd V 11 (.int .u64 (nx : Nat))) 2 = .bool false ∧ (upd V 11 (.int .u64 (nx : Nat))) 6 = .slice A7 n.length c7 ∧ (upd V 11 (.int .u64 (nx : Nat))) 8 = .int .u64 (a : Nat) ∧ (upd V 11 (.int .u64 (nx : Nat))) 10 = wv x from ⟨e2, e6, e8, e10⟩)
                    clear hK hC hW hL HV s0
                    rw [HFR.out]
                    rw [e2, e6, e8, e10]
                    clear e2 e6 e8 e10
                    have HB := Lib.hid hB
                    clear hB
                    go_wp2_with fail
                    refine ((refNextN_any _ n a x _ (HNQ.out.ext HB.out.2.2) (right_rise HRR.out) HKX.out).mono (fun _ _ h => show _ = Ending.returned (.int .u64 (nx : Nat)) ∧ _ from by rw [← HNX.out]; exact h)).mono ?_
                    rintro e wx ⟨rfl, he⟩
                    have := H.out _ he
                    clear H
                    go_wp2_with fail
                    show K _ _
                    rw [HFR.out] at this
                    obtain ⟨u2, u6, u8, u10⟩ := HU.out
                    rw [u2, u6, u8, u10] at this
                    exact this
                  · rintro L A W K hL hC hW ⟨V, rfl, HV, s0⟩ hK
                    have e2 : V 2 = .bool false := HV 2 _ rfl (hW 2 rfl)
                    have e5 : V 5 = wv x := HV 5 _ rfl (hW 5 rfl)
                    have e11 : V 11 = .int .u64 (nx : Nat) := HV 11 _ rfl (hW 11 rfl)
                    have hB := s0
                    have H := Lib.hid (show ∀ W', Ext W W' → K (fr (upd V 12 (wv (jnN x nx)))) W' from fun W' he => hK _ _ ⟨upd V 12 (wv (jnN x nx)), rfl, HV.up 12 _ (fun x hx => Option.some.inj hx), TlJ.ext s0 he⟩)
                    have HU := Lib.hid (show (upd V 12 (wv (jnN x nx))) 2 = .bool false ∧ (upd V 12 (wv (jnN x nx))) 5 = wv x ∧ (upd V 12 (wv (jnN x nx))) 11 = .int .u64 (nx : Nat) from ⟨e2, e5, e11⟩)
                    clear hK hC hW hL HV s0
                    rw [HFR.out]
                    rw [e2, e5, e11]
                    clear e2 e5 e11
                    clear hB
                    go_wp2_with fail
                    refine (refJoin_any x nx _ HNL.out).mono ?_
                    rintro e wx ⟨rfl, he⟩
                    have := H.out _ he
                    clear H
                    go_wp2_with fail
                    show K _ _
                    rw [HFR.out] at this
                    obtain ⟨u2, u5, u11⟩ := HU.out
                    rw [u2, u5, u11] at this
                    exact this
                  · rintro L A W K hL hC hW ⟨V, rfl, HV, s0⟩ hK
                    have e2 : V 2 = .bool false := HV 2 _ rfl (hW 2 rfl)
                    have e3 : V 3 = wv (jnN x nx) := HV 3 _ rfl (hW 3 rfl)
                    have e12 : V 12 = wv (jnN x nx) := HV 12 _ rfl (hW 12 rfl)
                    have hB := s0
                    have H := Lib.hid (show ∀ W', Ext W W' → K (fr (upd V 13 (.bool false))) W' from fun W' he => hK _ _ ⟨upd V 13 (.bool false), rfl, HV.up 13 _ (fun x hx => Option.some.inj hx), TlJ.ext s0 he⟩)
                    have HU := Lib.hid (show (upd V 13 (.bool false)) 2 = .bool false ∧ (upd V 13 (.bool false)) 3 = wv (jnN x nx) ∧ (upd V 13 (.bool false)) 12 = wv (jnN x nx) from ⟨e2, e3, e12⟩)
                    clear hK hC hW hL HV s0
                    rw [HFR.out]
                    rw [e2, e3, e12]
                    clear e2 e3 e12
                    clear hB
                    refine wpList_neq_word rfl (.tmp 126) (.tmp 135) rfl (jnN x nx) (jnN x nx) HJL.out HJL.out rfl rfl ?_
                    rw [bne_self_eq_false]
                    show K _ _
                    have := H.out _ (Ext.refl _)
                    rw [HFR.out] at this
                    obtain ⟨u2, u3, u12⟩ := HU.out
                    rw [u2, u3, u12] at this
                    exact this
                  · rintro L A W K hL hC hW ⟨V, rfl, HV, s0⟩ hK
                    have e2 : V 2 = .bool false := HV 2 _ rfl (hW 2 rfl)
                    have e13 : V 13 = .bool false := HV 13 _ rfl (hW 13 rfl)
                    have H := Lib.hid (show ∀ W', Ext W W' → K (fr (upd V 14 (.bool false))) W' from fun W' he => hK _ _ ⟨upd V 14 (.bool false), rfl, HV.up 14 _ (fun x hx => Option.some.inj hx), TlJ.ext s0 he⟩)
                    have HU := Lib.hid (show (upd V 14 (.bool false)) 2 = .bool false ∧ (upd V 14 (.bool false)) 13 = .bool false from ⟨e2, e13⟩)
                    clear hK hC hW hL HV s0
                    rw [HFR.out]
                    rw [e2, e13]
                    clear e2 e13
                    go_wp2_with fail
                    show K _ _
                    have := H.out _ (Ext.refl _)
                    rw [HFR.out] at this
                    obtain ⟨u2, u13⟩ := HU.out
                    rw [u2, u13] at this
                    exact this
                  · rintro L A W K hL hC hW ⟨V, rfl, HV, s0⟩ hK
                    have e14 : V 14 = .bool false := HV 14 _ rfl (hW 14 rfl)
                    have H := Lib.hid (show ∀ W', Ext W W' → K (fr (upd V 15 (.bool false))) W' from fun W' he => hK _ _ ⟨upd V 15 (.bool false), rfl, HV.up 15 _ (fun x hx => Option.some.inj hx), TlJ.ext s0 he⟩)
                    have HU := Lib.hid (show (upd V 15 (.bool false)) 14 = .bool false from e14)
                    clear hK hC hW hL HV s0
                    rw [HFR.out]
                    rw [e14]
                    clear e14
                    go_wp2_with fail
                    show K _ _
                    have := H.out _ (Ext.refl _)
                    rw [HFR.out] at this
                    obtain u14 := HU.out
                    rw [u14] at this
                    exact this
                  · rintro L A W hL ⟨V, rfl, HV, s0⟩
                    have e0 : V 0 = .int .i64 0 := HV 0 _ rfl (hL 0 (by simp))
                    have e1 : V 1 = .bool false := HV 1 _ rfl (hL 1 (by simp))
                    have e2 : V 2 = .bool false := HV 2 _ rfl (hL 2 (by simp))
                    have e3 : V 3 = wv (jnN x nx) := HV 3 _ rfl (hL 3 (by simp))
                    have e4 : V 4 = .pointer (some ⟨g12, 1, none⟩) := HV 4 _ rfl (hL 4 (by simp))
                    have e5 : V 5 = wv x := HV 5 _ rfl (hL 5 (by simp))
                    have e6 : V 6 = .slice A7 n.length c7 := HV 6 _ rfl (hL 6 (by simp))
                    have e7 : V 7 = .pointer (some ⟨g12, 0, none⟩) := HV 7 _ rfl (hL 7 (by simp))
                    have e8 : V 8 = .int .u64 (a : Nat) := HV 8 _ rfl (hL 8 (by simp))
                    have e9 : V 9 = .pointer (some ⟨g12, 1, none⟩) := HV 9 _ rfl (hL 9 (by simp))
                    have e10 : V 10 = wv x := HV 10 _ rfl (hL 10 (by simp))
                    have e11 : V 11 = .int .u64 (nx : Nat) := HV 11 _ rfl (hL 11 (by simp))
                    have e12 : V 12 = wv (jnN x nx) := HV 12 _ rfl (hL 12 (by simp))
                    have e13 : V 13 = .bool false := HV 13 _ rfl (hL 13 (by simp))
                    have e14 : V 14 = .bool false := HV 14 _ rfl (hL 14 (by simp))
                    have e15 : V 15 = .bool false := HV 15 _ rfl (hL 15 (by simp))
                    have hA := s0
                    rw [HFR.out]
                    rw [e0, e1, e2, e3, e4, e5, e6, e7, e8, e9, e10, e11, e12, e13, e14, e15]
                    clear hL HV HFR e0 e1 e2 e3 e4 e5 e6 e7 e8 e9 e10 e11 e12 e13 e14 e15 s0
                    go_wp2_with fail
                    exact ⟨⟨j + 1, by omega, by go_num, Lib.hid (HXQ.out.trans hA.2.2)⟩, by simp [intOf]; omega⟩
            · obtain rfl : j = l.length := by omega
              have hd : decide (l.length < l.length) = false := decide_eq_false (by omega)
              have hd2 : decide ((l.length : Int) < (l.length : Int)) = false := decide_eq_false (by omega)
              go_wp2_with fail
              exact ⟨⟨i + 1, by omega, by go_num, Lib.hid (HER.out.trans HJ.out)⟩, by simp [intOf]; omega⟩
    · obtain rfl : i = ll.length := by omega
      have hd : decide (ll.length < ll.length) = false := decide_eq_false (by omega)
      have hd2 : decide ((ll.length : Int) < (ll.length : Int)) = false := decide_eq_false (by omega)
      go_wp2_with fail
      go_ret
      exact ⟨rfl, HE.out⟩

set_option maxRecDepth 100000 in
theorem nonceTells_told (W : World) (args : Array Value) (h : Told Try.f4 W args) : Calls Try.prog 4 args W (RetT W) := by
  obtain ⟨H, enc, base, ds, p, hval, hA⟩ := h
  rw [Try.params4] at hA hval
  obtain ⟨v0, v1, d0, d1, p0, p1, rfl, rfl, rfl, h0, h1⟩ := trodAll_two hA
  obtain ⟨A, n, c, rfl⟩ := okWide_slice Try.underlying40 (hval 0 _ v0 rfl rfl)
  obtain ⟨l, hl⟩ := nss_came h0 rfl
  obtain ⟨A2, n2, c2, rfl⟩ := okWide_slice Try.underlying23 (hval 1 _ v1 rfl rfl)
  obtain ⟨m, hm⟩ := qts_came h1 rfl
  exact nonceTells_any _ _ l m W hl hm

set_option maxRecDepth 100000 in
theorem nonceTells_spec (H : Type) : ∀ ds : List (DataW H), ds.length = Try.f4.params.toList.length → Rows.nonceTellsSpec.fn H ds = { results := [.lit (.bool true)], args := ds }
  | [_, _], _ => rfl
  | [], h | [_], h | _ :: _ :: _ :: _, h => by rw [Try.params4] at h; simp at h

set_option maxRecDepth 100000 in
theorem nonceTells_holds : Rows.NonceTellsSaid :=
  OpenClaim.holds_of_wide 4 Try.f4 rfl rfl rfl rfl rfl rfl rfl ⟨rfl, rfl, rfl, rfl, rfl⟩ rfl rfl rfl rfl rfl (by kernel_rfl) Try.func4 (by kernel_rfl)
    (of_decide_eq_true (by kernel_rfl)) (by unfold Func.isWrapper; first | (rw [if_pos (by decide +kernel)]; kernel_rfl) | (rw [if_neg (by decide +kernel)]; exact ⟨rfl, rfl⟩))
    (fun os started H enc _ => law_lifted started (by kernel_rfl) Try.func4 rfl rfl (nonceTells_spec H) (of_decide_eq_true (by kernel_rfl))
      (ChangeSpec.witness6 (enc := enc) (C := Try.checked) false ⟨#[], #[.slice none 0 0, .slice none 0 0], []⟩ 8 (by kernel_rfl) (by kernel_rfl) (by kernel_rfl) (by kernel_rfl)) nonceTells_told)
end Go.Proofs.Ytepggbhibpjkpaa
