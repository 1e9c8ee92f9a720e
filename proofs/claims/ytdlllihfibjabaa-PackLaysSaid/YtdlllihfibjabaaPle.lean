/- PackLays: which parts may be, are the same, and their bytes. No condition: every row of slices of parts. -/
import Derived.Test.YtdlllihfibjabaaPld
import Derived.Test.YtdlllihfibjabaaPlb
namespace Go.Proofs.Ytdlllihfibjabaa
open Go.ChangeShapes Go.WideShapes Go.ChangeAt Go.RowKit Go.Shelf

set_option maxRecDepth 100000 in
theorem Pts.shape {W : World} {v : Value} {l : List Pt} (h : Pts W v l) : ∃ A c, v = .slice A l.length c ∧ Pts W (.slice A l.length c) l := by
  obtain ⟨A, c, rfl, _, _⟩ := h.len
  exact ⟨A, c, rfl, h⟩
set_option maxRecDepth 100000 in
theorem layL_bad (l : List Pt) (h : errP l ≠ 0) : layL l = [] ∧ szN l = 0 := by
  unfold layL szN
  rw [if_neg h, if_neg h]
  exact ⟨rfl, rfl⟩
set_option maxRecDepth 100000 in
set_option maxHeartbeats 4000000 in
theorem packLays_any (v1 : Value) (l : List (List Pt)) (w : World) (h1 : Ptss w v1 l) : Calls Try.prog 3 #[v1] w (RetT w) := by
  have H1 := Lib.hid h1
  obtain ⟨A0, c0, rfl, k1, k2⟩ := h1.len
  unfold maxLen at k2
  clear h1
  go_enter Try.func3, Try.ntmps3
  go_wp2_with fail
  refine (packWakes_any _).mono ?_
  rintro e w1 ⟨rfl, he1⟩
  have HE1 := Lib.hid he1
  clear he1
  go_wp2_with fail
  go_loopw [14] (fun u wr => ∃ k : Nat, k ≤ l.length ∧ u = .int .i64 k ∧ Hid (Ext w wr)) (fun u _ => l.length - (intOf u).toNat)
  case atStart => exact ⟨0, by omega, rfl, HE1⟩
  case round =>
    clear HE1
    obtain ⟨k, hk, rfl, HE⟩ := hrel
    by_cases hlt : k < l.length
    · have hd : decide (k < l.length) = true := decide_eq_true hlt
      obtain ⟨bb, oo, ux, rfl, hcx, hpx⟩ := (H1.out.ext HE.out).at k hlt
      obtain ⟨b2, o2, uy, e2, hcy, hpy⟩ := (H1.out.ext HE.out).at 0 (by omega)
      injection e2 with e2
      injection e2 with e2 e3 _
      subst e2
      subst e3
      rw [Nat.add_zero] at hcy
      have HX := Lib.hid hpx
      have HCY := Lib.hid hcy
      have hpos : 0 < l.length := by omega
      have HFX := Lib.hid (fun W (h : Ext wr W) => packFew_any ux (l.getD k []) W (hpx.ext h))
      have HFY := Lib.hid (fun W (h : Ext wr W) => packFew_any uy (l.getD 0 []) W (hpy.ext h))
      generalize fewP (l.getD k []) = fx at *
      generalize fewP (l.getD 0 []) = fy at *
      clear hpx hpy hcy
      by_cases h8 : k = 8
      · have h81 : ((k : Int) == 8) = true := by simp; omega
        have h82 : (k == 8) = true := by simp; omega
        clear h8
        go_wp2_with fail
        go_ret
        exact ⟨rfl, HE.out⟩
      · have h81 : ((k : Int) == 8) = false := by simp; omega
        have h82 : (k == 8) = false := by simpa using h8
        clear h8
        go_upto_region 7 with (fail)
        refine wp_named fun a0 ha0 => ?_
        obtain ⟨fr, hfr⟩ : ∃ fr : (Nat → Value) → Act, ∀ V, fr V = ((((((((a0.put (some 21) (V 0)).put (some 22) (V 1)).put (some 23) (V 2)).put (some 24) (V 3)).put (some 25) (V 4)).put (some 26) (V 5)).put (some 5) (V 6)).put (some 6) (V 7)) := ⟨fun V => ((((((((a0.put (some 21) (V 0)).put (some 22) (V 1)).put (some 23) (V 2)).put (some 24) (V 3)).put (some 25) (V 4)).put (some 26) (V 5)).put (some 5) (V 6)).put (some 6) (V 7)), fun _ => rfl⟩
        rw [ha0] at hfr
        simp only [Act.put, List.setIfInBounds_toArray, List.set_cons_zero, List.set_cons_succ] at hfr
        have HFR := Lib.hid hfr
        clear hfr
        refine wp_region_inv (by kernel_rfl) (by kernel_rfl) (fun L A W => ∃ V : Nat → Value, A = fr V ∧ Vals (fun j => ([some (ux), none, some (.slice (some ⟨bb, oo, none⟩) l.length c0), some (.pointer (some ⟨bb, oo, none⟩)), some (uy), none, none, none] : List (Option Value)).getD j none) L V ∧ (Ext wr W) ∧ (L 1 = true → Pts W (V 1) fx) ∧ (L 5 = true → Pts W (V 5) fy) ∧ (L 6 = true → Pts W (V 6) fx) ∧ (L 7 = true → Pts W (V 7) fy)) ?_ ⟨?_, ?_, ?_, ?_, ?_, ?_, ?_, ?_, trivial⟩ ?_
        · refine ⟨fun j => a0.tmps.getD (([21, 22, 23, 24, 25, 26, 5, 6] : List Nat).getD j 0) undef, ?_, Vals.no _ _ _ (far_none _ _ rfl), ext_drewN (Ext.refl wr) 1, fun h0 => absurd h0 (by decide), fun h0 => absurd h0 (by decide), fun h0 => absurd h0 (by decide), fun h0 => absurd h0 (by decide)⟩
          rw [HFR.out, ha0]
          rfl
        all_goals clear ha0
        · rintro L A W K hL hC hW ⟨V, rfl, HV, s0, f1, f5, f6, f7⟩ hK
          have H := Lib.hid (show ∀ W', Ext W W' → K (fr (upd V 0 (ux))) W' from fun W' he => hK _ _ ⟨upd V 0 (ux), rfl, HV.up 0 _ (fun x hx => Option.some.inj hx), Ext.trans s0 he, fun h0 => Pts.ext (f1 (more_ne h0 rfl)) he, fun h0 => Pts.ext (f5 (more_ne h0 rfl)) he, fun h0 => Pts.ext (f6 (more_ne h0 rfl)) he, fun h0 => Pts.ext (f7 (more_ne h0 rfl)) he⟩)
          clear hK hC hW hL HV s0 f1 f5 f6 f7
          rw [HFR.out]
          go_wp2_with fail
          show K _ _
          have := H.out _ (Ext.refl _)
          rw [HFR.out] at this
          exact this
        · rintro L A W K hL hC hW ⟨V, rfl, HV, s0, f1, f5, f6, f7⟩ hK
          have e0 : V 0 = ux := HV 0 _ rfl (hW 0 rfl)
          have hB := s0
          have H := Lib.hid (show ∀ v W', Ext W W' → (Pts W' v fx) → K (fr (upd V 1 v)) W' from fun v W' he hp => hK _ _ ⟨upd V 1 v, rfl, HV.up 1 _ (fun x hx => absurd hx (by intro h; cases h)), Ext.trans s0 he, fun h0 => hp, fun h0 => Pts.ext (f5 (more_ne h0 rfl)) he, fun h0 => Pts.ext (f6 (more_ne h0 rfl)) he, fun h0 => Pts.ext (f7 (more_ne h0 rfl)) he⟩)
          have HU := Lib.hid (show ∀ v, (upd V 1 v) 0 = ux from fun v => e0)
          clear hK hC hW hL HV s0 f1 f5 f6 f7
          rw [HFR.out]
          rw [e0]
          clear e0
          go_wp2_with fail
          refine (HFX.out _ hB).mono ?_
          rintro e wx ⟨v, rfl, hf, he⟩
          have := H.out _ _ he (hf.here)
          clear H
          go_wp2_with fail
          show K _ _
          rw [HFR.out] at this
          obtain u0 := HU.out _
          rw [u0] at this
          exact this
        · rintro L A W K hL hC hW ⟨V, rfl, HV, s0, f1, f5, f6, f7⟩ hK
          have H := Lib.hid (show ∀ W', Ext W W' → K (fr (upd V 2 (.slice (some ⟨bb, oo, none⟩) l.length c0))) W' from fun W' he => hK _ _ ⟨upd V 2 (.slice (some ⟨bb, oo, none⟩) l.length c0), rfl, HV.up 2 _ (fun x hx => Option.some.inj hx), Ext.trans s0 he, fun h0 => Pts.ext (f1 (more_ne h0 rfl)) he, fun h0 => Pts.ext (f5 (more_ne h0 rfl)) he, fun h0 => Pts.ext (f6 (more_ne h0 rfl)) he, fun h0 => Pts.ext (f7 (more_ne h0 rfl)) he⟩)
          clear hK hC hW hL HV s0 f1 f5 f6 f7
          rw [HFR.out]
          go_wp2_with fail
          show K _ _
          have := H.out _ (Ext.refl _)
          rw [HFR.out] at this
          exact this
        · rintro L A W K hL hC hW ⟨V, rfl, HV, s0, f1, f5, f6, f7⟩ hK
          have e2 : V 2 = .slice (some ⟨bb, oo, none⟩) l.length c0 := HV 2 _ rfl (hW 2 rfl)
          have H := Lib.hid (show ∀ W', Ext W W' → K (fr (upd V 3 (.pointer (some ⟨bb, oo, none⟩)))) W' from fun W' he => hK _ _ ⟨upd V 3 (.pointer (some ⟨bb, oo, none⟩)), rfl, HV.up 3 _ (fun x hx => Option.some.inj hx), Ext.trans s0 he, fun h0 => Pts.ext (f1 (more_ne h0 rfl)) he, fun h0 => Pts.ext (f5 (more_ne h0 rfl)) he, fun h0 => Pts.ext (f6 (more_ne h0 rfl)) he, fun h0 => Pts.ext (f7 (more_ne h0 rfl)) he⟩)
          have HU := Lib.hid (show (upd V 3 (.pointer (some ⟨bb, oo, none⟩))) 2 = .slice (some ⟨bb, oo, none⟩) l.length c0 from e2)
          clear hK hC hW hL HV s0 f1 f5 f6 f7
          rw [HFR.out]
          rw [e2]
          clear e2
          go_wp2_with fail
          show K _ _
          have := H.out _ (Ext.refl _)
          rw [HFR.out] at this
          obtain u2 := HU.out
          rw [u2] at this
          exact this
        · rintro L A W K hL hC hW ⟨V, rfl, HV, s0, f1, f5, f6, f7⟩ hK
          have e3 : V 3 = .pointer (some ⟨bb, oo, none⟩) := HV 3 _ rfl (hW 3 rfl)
          have hB := s0
          have H := Lib.hid (show ∀ W', Ext W W' → K (fr (upd V 4 (uy))) W' from fun W' he => hK _ _ ⟨upd V 4 (uy), rfl, HV.up 4 _ (fun x hx => Option.some.inj hx), Ext.trans s0 he, fun h0 => Pts.ext (f1 (more_ne h0 rfl)) he, fun h0 => Pts.ext (f5 (more_ne h0 rfl)) he, fun h0 => Pts.ext (f6 (more_ne h0 rfl)) he, fun h0 => Pts.ext (f7 (more_ne h0 rfl)) he⟩)
          have HU := Lib.hid (show (upd V 4 (uy)) 3 = .pointer (some ⟨bb, oo, none⟩) from e3)
          clear hK hC hW hL HV s0 f1 f5 f6 f7
          rw [HFR.out]
          rw [e3]
          clear e3
          have hcl := hB.cell HCY.out
          clear hB
          go_wp2_with fail
          show K _ _
          have := H.out _ (Ext.refl _)
          rw [HFR.out] at this
          obtain u3 := HU.out
          rw [u3] at this
          exact this
        · rintro L A W K hL hC hW ⟨V, rfl, HV, s0, f1, f5, f6, f7⟩ hK
          have e4 : V 4 = uy := HV 4 _ rfl (hW 4 rfl)
          have hB := s0
          have H := Lib.hid (show ∀ v W', Ext W W' → (Pts W' v fy) → K (fr (upd V 5 v)) W' from fun v W' he hp => hK _ _ ⟨upd V 5 v, rfl, HV.up 5 _ (fun x hx => absurd hx (by intro h; cases h)), Ext.trans s0 he, fun h0 => Pts.ext (f1 (more_ne h0 rfl)) he, fun h0 => hp, fun h0 => Pts.ext (f6 (more_ne h0 rfl)) he, fun h0 => Pts.ext (f7 (more_ne h0 rfl)) he⟩)
          have HU := Lib.hid (show ∀ v, (upd V 5 v) 4 = uy from fun v => e4)
          clear hK hC hW hL HV s0 f1 f5 f6 f7
          rw [HFR.out]
          rw [e4]
          clear e4
          go_wp2_with fail
          refine (HFY.out _ hB).mono ?_
          rintro e wx ⟨v, rfl, hf, he⟩
          have := H.out _ _ he (hf.here)
          clear H
          go_wp2_with fail
          show K _ _
          rw [HFR.out] at this
          obtain u4 := HU.out _
          rw [u4] at this
          exact this
        · rintro L A W K hL hC hW ⟨V, rfl, HV, s0, f1, f5, f6, f7⟩ hK
          have q1 := f1 (hW 1 rfl)
          obtain ⟨A1, c1, e1, z1⟩ := Pts.shape q1
          have H := Lib.hid (show ∀ v W', Ext W W' → (Pts W' v fx) → K (fr (upd V 6 v)) W' from fun v W' he hp => hK _ _ ⟨upd V 6 v, rfl, HV.up 6 _ (fun x hx => absurd hx (by intro h; cases h)), Ext.trans s0 he, fun h0 => Pts.ext (f1 (more_ne h0 rfl)) he, fun h0 => Pts.ext (f5 (more_ne h0 rfl)) he, fun h0 => hp, fun h0 => Pts.ext (f7 (more_ne h0 rfl)) he⟩)
          have HU := Lib.hid (show ∀ v, (upd V 6 v) 1 = .slice A1 fx.length c1 from fun v => e1)
          clear hK hC hW hL HV s0 f1 f5 f6 f7
          rw [HFR.out]
          rw [e1]
          clear e1
          go_wp2_with fail
          show K _ _
          have := H.out (.slice A1 fx.length c1) _ (Ext.refl _) (z1)
          rw [HFR.out] at this
          obtain u1 := HU.out _
          rw [u1] at this
          exact this
        · rintro L A W K hL hC hW ⟨V, rfl, HV, s0, f1, f5, f6, f7⟩ hK
          have q5 := f5 (hW 5 rfl)
          obtain ⟨A5, c5, e5, z5⟩ := Pts.shape q5
          have H := Lib.hid (show ∀ v W', Ext W W' → (Pts W' v fy) → K (fr (upd V 7 v)) W' from fun v W' he hp => hK _ _ ⟨upd V 7 v, rfl, HV.up 7 _ (fun x hx => absurd hx (by intro h; cases h)), Ext.trans s0 he, fun h0 => Pts.ext (f1 (more_ne h0 rfl)) he, fun h0 => Pts.ext (f5 (more_ne h0 rfl)) he, fun h0 => Pts.ext (f6 (more_ne h0 rfl)) he, fun h0 => hp⟩)
          have HU := Lib.hid (show ∀ v, (upd V 7 v) 5 = .slice A5 fy.length c5 from fun v => e5)
          clear hK hC hW hL HV s0 f1 f5 f6 f7
          rw [HFR.out]
          rw [e5]
          clear e5
          go_wp2_with fail
          show K _ _
          have := H.out (.slice A5 fy.length c5) _ (Ext.refl _) (z5)
          rw [HFR.out] at this
          obtain u5 := HU.out _
          rw [u5] at this
          exact this
        · rintro L A W hL ⟨V, rfl, HV, s0, f1, f5, f6, f7⟩
          have e0 : V 0 = ux := HV 0 _ rfl (hL 0 (by simp))
          have e2 : V 2 = .slice (some ⟨bb, oo, none⟩) l.length c0 := HV 2 _ rfl (hL 2 (by simp))
          have e3 : V 3 = .pointer (some ⟨bb, oo, none⟩) := HV 3 _ rfl (hL 3 (by simp))
          have e4 : V 4 = uy := HV 4 _ rfl (hL 4 (by simp))
          have hA := s0
          have p22 := f1 (hL 1 (by simp))
          have p26 := f5 (hL 5 (by simp))
          have p5 := f6 (hL 6 (by simp))
          have p6 := f7 (hL 7 (by simp))
          rw [HFR.out]
          rw [e0, e2, e3, e4]
          clear hL HV HFR e0 e2 e3 e4 s0 f1 f5 f6 f7
          have HA := Lib.hid hA
          have HP5 := Lib.hid p5
          have HP6 := Lib.hid p6
          clear hA p5 p6 p22 p26
          have HF5 := Lib.hid (back_facts fx)
          have HW5 := Lib.hid HP5.out.words
          have HBD := Lib.hid (layL_bad fx)
          obtain ⟨A5, c5, e5, z5⟩ := Pts.shape HP5.out
          rw [e5] at HP5
          rw [e5]
          obtain ⟨A6, c6, e6, z6⟩ := Pts.shape HP6.out
          rw [e6] at HP6
          rw [e6]
          clear z5 z6 e5 e6
          go_wp2_with fail
          refine (refErr4_any _ fx _ HP5.out).mono ?_
          rintro e x1 ⟨rfl, he⟩
          have HQ1 := Lib.hid (HP5.out.ext he)
          have HR1 := Lib.hid (HP6.out.ext he)
          have HA1 := Lib.hid (HA.out.trans he)
          clear he HP5 HP6 HA
          go_wp2_with fail
          refine (lay_any _ fx _ HQ1.out).mono ?_
          rintro e x2 ⟨vb, rfl, ho, he⟩
          have HB2 := Lib.hid ho.bs
          have HQ2 := Lib.hid (HQ1.out.ext he)
          have HR2 := Lib.hid (HR1.out.ext he)
          have HA2 := Lib.hid (HA1.out.trans he)
          clear he ho HQ1 HR1 HA1
          go_wp2_with fail
          refine (check_any _ fx _ HQ2.out).mono ?_
          rintro e x3 ⟨rfl, he⟩
          have HB3 := Lib.hid (HB2.out.ext he)
          have HQ3 := Lib.hid (HQ2.out.ext he)
          have HR3 := Lib.hid (HR2.out.ext he)
          have HA3 := Lib.hid (HA2.out.trans he)
          clear he HB2 HQ2 HR2 HA2
          obtain ⟨el, hel⟩ : ∃ el, errP fx = el := ⟨_, rfl⟩
          have HEL := Lib.hid hel
          rw [hel]
          clear hel
          have hee : (el != el) = false := by simp
          go_wp2_with fail
          refine (packSame_any _ _ fx fy _ HQ3.out HR3.out).mono ?_
          rintro e x4 ⟨rfl, he⟩
          have HB4 := Lib.hid (HB3.out.ext he)
          have HQ4 := Lib.hid (HQ3.out.ext he)
          have HR4 := Lib.hid (HR3.out.ext he)
          have HA4 := Lib.hid (HA3.out.trans he)
          clear he HB3 HQ3 HR3 HA3
          go_wp2_with fail
          refine (refSameL_any _ _ fx fy _ HQ4.out HR4.out).mono ?_
          rintro e x5 ⟨rfl, he⟩
          have HB5 := Lib.hid (HB4.out.ext he)
          have HQ5 := Lib.hid (HQ4.out.ext he)
          have HA5 := Lib.hid (HA4.out.trans he)
          clear he HB4 HQ4 HR4 HA4
          obtain ⟨sm, hsm⟩ : ∃ sm, (fx == fy) = sm := ⟨_, rfl⟩
          rw [hsm]
          clear hsm
          have hs1 : (sm != sm) = false := by simp
          have hs2 : (!sm == sm) = false := by cases sm <;> rfl
          go_wp2_with fail
          refine (HFX.out _ HA5.out).mono ?_
          rintro e x6 ⟨v6, rfl, hf, he⟩
          have HB6 := Lib.hid (HB5.out.ext he)
          have HQ6 := Lib.hid (HQ5.out.ext he)
          have HN6 := Lib.hid hf.here
          have HA6 := Lib.hid (HA5.out.trans he)
          clear he hf HB5 HQ5 HA5
          go_wp2_with fail
          refine (packSame_any _ _ fx fx _ HQ6.out HN6.out).mono ?_
          rintro e x7 ⟨rfl, he⟩
          rw [show (fx == fx) = true by simp]
          have HB7 := Lib.hid (HB6.out.ext he)
          have HQ7 := Lib.hid (HQ6.out.ext he)
          have HA7 := Lib.hid (HA6.out.trans he)
          clear he HB6 HQ6 HN6 HA6
          go_wp2_with fail
          refine (HFX.out _ HA7.out).mono ?_
          rintro e x8 ⟨v8, rfl, hf, he⟩
          have HB8 := Lib.hid (HB7.out.ext he)
          have HQ8 := Lib.hid (HQ7.out.ext he)
          have HN8 := Lib.hid hf.here
          have HA8 := Lib.hid (HA7.out.trans he)
          clear he hf HB7 HQ7 HA7
          go_wp2_with fail
          refine (refSameL_any _ _ fx fx _ HQ8.out HN8.out).mono ?_
          rintro e x9 ⟨rfl, he⟩
          rw [show (fx == fx) = true by simp]
          have HB9 := Lib.hid (HB8.out.ext he)
          have HQ9 := Lib.hid (HQ8.out.ext he)
          have HA9 := Lib.hid (HA8.out.trans he)
          clear he HB8 HQ8 HN8 HA8 hee hs1 hs2
          by_cases h0 : el = 0
          · subst h0
            obtain ⟨_, _, _, _, z5, z6⟩ := HF5.out HEL.out HW5.out
            have HSZ := Lib.hid z5
            clear z5
            have HRL := Lib.hid (fun W (h : Pts W (.slice A5 fx.length c5) fx) => refLay_any _ fx W h HEL.out)
            obtain ⟨Ab, cb, rfl, y1, y2, y3⟩ := HB9.out
            unfold maxLen at y2
            clear y3
            generalize layL fx = b at *
            have hbb : ((b.length : Int) != (b.length : Int)) = false := by simp
            have hlB : (b.length : Int) ≤ 1000000 := by omega
            go_wp2_with fail
            refine (HRL.out _ HQ9.out).mono ?_
            rintro e y1 ⟨v10, rfl, ho, he⟩
            have HC := Lib.hid ho.bs
            have HBa := Lib.hid (HB9.out.ext he)
            have HQa := Lib.hid (HQ9.out.ext he)
            have HAa := Lib.hid (HA9.out.trans he)
            clear he ho HB9 HQ9 HA9
            go_wp2_with fail
            refine (bytesEqual_any _ _ b b _ HBa.out HC.out).mono ?_
            rintro e y2 ⟨rfl, rfl⟩
            rw [show (b == b) = true by simp]
            go_wp2_with fail
            refine (size_any _ fx _ HQa.out).mono ?_
            rintro e y3 ⟨rfl, he⟩
            rw [HSZ.out]
            have HAb := Lib.hid (HE.out.trans (HAa.out.trans he))
            clear he
            go_wp2_with fail
            exact ⟨⟨k + 1, by omega, by go_num, HAb⟩, by simp [intOf]; omega⟩
          · obtain ⟨z5, z6⟩ := HBD.out (by rw [HEL.out]; exact h0)
            rw [z5] at HB9
            have HSZ := Lib.hid z6
            clear z5 z6
            obtain ⟨Ab, cb, rfl, y1, y2, y3⟩ := HB9.out
            unfold maxLen at y2
            clear y3
            have hb1 : (el != 0) = true := by simpa using h0
            have hb2 : (el == 0) = false := by simpa using h0
            go_wp2_with fail
            refine (size_any _ fx _ HQ9.out).mono ?_
            rintro e y3 ⟨rfl, he⟩
            rw [HSZ.out]
            have HAb := Lib.hid (HE.out.trans (HA9.out.trans he))
            clear he
            go_wp2_with fail
            exact ⟨⟨k + 1, by omega, by go_num, HAb⟩, by simp [intOf]; omega⟩
    · obtain rfl : k = l.length := by omega
      go_wp2_with fail
      go_ret
      exact ⟨rfl, HE.out⟩

set_option maxRecDepth 100000 in
theorem packLays_told (W : World) (args : Array Value) (h : Told Try.f3 W args) : Calls Try.prog 3 args W (RetT W) := by
  obtain ⟨H, enc, base, ds, p, hval, hA⟩ := h
  rw [Try.params3] at hA hval
  obtain ⟨v0, d0, rfl, rfl, h0⟩ := trodAll_one hA
  obtain ⟨x0, hx0⟩ := ptss_came (hval 0 _ v0 rfl rfl) h0
  exact packLays_any v0 x0 W hx0

set_option maxRecDepth 100000 in
theorem packLays_spec (H : Type) : ∀ ds : List (DataW H), ds.length = Try.f3.params.toList.length → Rows.packLaysSpec.fn H ds = { results := [.lit (.bool true)], args := ds }
  | [_], _ => rfl
  | [], h | _ :: _ :: _, h => by rw [Try.params3] at h; simp at h

set_option maxRecDepth 100000 in
theorem packLays_holds : Rows.PackLaysSaid :=
  OpenClaim.holds_of_wide 3 Try.f3 rfl rfl rfl rfl rfl rfl rfl ⟨rfl, rfl, rfl, rfl, rfl⟩ rfl rfl rfl rfl rfl (by kernel_rfl) Try.func3 (by kernel_rfl)
    (of_decide_eq_true (by kernel_rfl)) (by unfold Func.isWrapper; first | (rw [if_pos (by decide +kernel)]; kernel_rfl) | (rw [if_neg (by decide +kernel)]; exact ⟨rfl, rfl⟩))
    (fun os started H enc _ => law_lifted started (by kernel_rfl) Try.func3 rfl rfl (packLays_spec H) (of_decide_eq_true (by kernel_rfl))
      (ChangeSpec.witness6 (enc := enc) (C := Try.checked) false ⟨#[], #[.slice none 0 0], []⟩ 8 (by kernel_rfl) (by kernel_rfl) (by kernel_rfl) (by kernel_rfl)) packLays_told)
end Go.Proofs.Ytdlllihfibjabaa
