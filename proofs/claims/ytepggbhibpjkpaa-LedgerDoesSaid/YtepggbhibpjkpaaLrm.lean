/- The document's put of layer 7: a row without a deposit. -/
import Derived.Test.YtepggbhibpjkpaaLre
import Derived.BigQuiet
namespace Go.Proofs.Ytepggbhibpjkpaa
open Go.ChangeShapes Go.WideShapes Go.ChangeAt Go.RowKit Go.Shelf

set_option maxRecDepth 100000 in
set_option maxHeartbeats 8000000 in
theorem refPut_zero (v : Value) (l : List Hd) (h : Hd) (w : World) (hs : Hds w v l) (hr : RiseG l) (hln : l.length ≤ 1000) (hok : h.ok) (hz : h.dep = 0) : Calls Try.prog 137 #[.agg #[v], .agg (hdc h)] w (RetG w (putR l h)) := by
  have HS := Lib.hid hs
  have HZZ := Lib.hid hz
  clear hz
  have HRI := Lib.hid hr
  have HHO := Lib.hid hok
  have HP1 := Lib.hid hok.2.1
  have HP2 := Lib.hid hok.2.2.1
  obtain ⟨A1, c1, rfl, h1, h2⟩ := hs.len
  unfold maxLen at h2
  obtain ⟨hc, hhc⟩ : ∃ hc, hdc h = hc := ⟨_, rfl⟩
  have HHC := Lib.hid hhc
  obtain ⟨w0, hw0⟩ : ∃ w0, (((w.alloc (.cells #[.slice A1 l.length c1] 88)).alloc (.cells hc 97)).alloc (.cells #[.slice none 0 0] 88)).alloc (.cells #[.slice none 0 0] 88) = w0 := ⟨_, rfl⟩
  have HW0 := Lib.hid hw0
  have HL : Hid (Cs w0 w.heap.size 88 #[.slice A1 l.length c1]) := Lib.hid (by rw [← hw0]; exact Cs.alloc (Cs.alloc (Cs.alloc (Cs.new _ _ _ _ rfl) _) _) _)
  have HH : Hid (Cs w0 (w.heap.size + 1) 97 hc) := Lib.hid (by rw [← hw0]; exact Cs.alloc (Cs.alloc (Cs.new _ _ _ _ (by rw [World.size_alloc])) _) _)
  have HR : Hid (Cs w0 (w.heap.size + 2) 88 #[.slice none 0 0]) := Lib.hid (by rw [← hw0]; exact Cs.alloc (Cs.new _ _ _ _ (by rw [World.size_alloc, World.size_alloc])) _)
  have HO : Hid (Cs w0 (w.heap.size + 3) 88 #[.slice none 0 0]) := Lib.hid (by rw [← hw0]; exact Cs.new _ _ _ _ (by rw [World.size_alloc, World.size_alloc, World.size_alloc]))
  have HE : Hid (Ext w w0) := Lib.hid (by rw [← hw0]; exact ((((Ext.refl w).alloc _).alloc _).alloc _).alloc _)
  rw [hhc]
  clear hs hr hok hw0 hhc
  go_enter Try.func137, Try.ntmps137
  go_upto_region 2 with fail
  rw [HW0.out]
  clear HW0
  obtain ⟨g2, hg2⟩ : ∃ g, w.heap.size = g := ⟨_, rfl⟩
  obtain ⟨g3, hg3⟩ : ∃ g, w.heap.size + 1 = g := ⟨_, rfl⟩
  obtain ⟨g4, hg4⟩ : ∃ g, w.heap.size + 2 = g := ⟨_, rfl⟩
  obtain ⟨g6, hg6⟩ : ∃ g, w.heap.size + 3 = g := ⟨_, rfl⟩
  have HGS := Lib.hid (show w.heap.size ≤ g2 ∧ g2 < g3 ∧ g3 < g4 ∧ g4 < g6 by omega)
  rw [hg6] at HO ⊢
  rw [hg4] at HR ⊢
  rw [hg3] at HH ⊢
  rw [hg2] at HL ⊢
  rw [← HHC.out] at HH
  clear hg2 hg3 hg4 hg6 HHC
  have HHB : Hid (Hb w0 g3 h) := Lib.hid HH.out
  have HKD := Lib.hid (Hb.dep HHB.out)
  go_wp2_with ((with_reducible refine wpList_load_wordIn ?_ (.tmp 11) ?_ g3 1 (h.dep) ?_ ?_ ?_); (exact rfl); (exact rfl); (exact rfl); (exact HKD.out))
  refine (refNone_any h.dep _ HP1.out).mono ?_
  rintro e w1 ⟨rfl, he⟩
  have HX1 := Lib.hid he
  have HHB1 := Lib.hid (HHB.out.ext he)
  clear he HKD HH
  have HKS := Lib.hid (Hb.stk HHB1.out)
  have hz := HZZ.out
  clear HZZ
  have HEM := Lib.hid (show emB h = decide (h.stk = 0) by unfold emB; rw [hz]; rfl)
  rw [show decide (h.dep = 0) = true from decide_eq_true hz]
  clear hz
  go_wp2_with ((with_reducible refine wpList_load_wordIn ?_ (.tmp 15) ?_ g3 5 (h.stk) ?_ ?_ ?_); (exact rfl); (exact rfl); (exact rfl); (exact HKS.out))
  refine (refNone_any h.stk _ HP2.out).mono ?_
  rintro e w2 ⟨rfl, he⟩
  have HXX := Lib.hid (HX1.out.trans he)
  have HLX := Lib.hid (Cs.ext HL.out HXX.out)
  have HHX := Lib.hid (HHB.out.ext HXX.out)
  have HRX0 := Lib.hid (Cs.ext HR.out HXX.out)
  have HOX := Lib.hid (Cs.ext HO.out HXX.out)
  have HEX := Lib.hid (HE.out.trans HXX.out)
  clear he HX1 HXX HL HHB HHB1 HR HO HE HKS
  generalize decide (h.stk = 0) = bz at *
  go_wp2_with fail
  obtain ⟨lo, hlo⟩ : ∃ lo, w2.heap.size = lo := ⟨_, rfl⟩
  go_loopw [8, 7] (fun iv bv wr => ∃ i : Nat, i ≤ l.length ∧ iv = .int .i64 i ∧ bv = .bool (laidP l h i) ∧ Hid (PuE lo g2 g3 g4 g6 w (.slice A1 l.length c1) h (outP l h i) wr)) (fun iv _ _ => l.length - (intOf iv).toNat)
  case atStart => exact ⟨0, by omega, rfl, by rw [(outP_zero l h).2, HEM.out], Lib.hid ⟨.slice none 0 0, by rw [(outP_zero l h).1]; exact ⟨⟨HGS.out.1, HGS.out.2.1, HGS.out.2.2.1, HGS.out.2.2.2, by rw [← hlo]; exact Cs.lt HOX.out, by omega⟩, OwnH.nil _ _, HOX.out, HLX.out, HHX.out, HRX0.out, HEX.out⟩⟩⟩
  case round =>
    clear HLX HHX HRX0 HOX HEX hlo
    obtain ⟨i, hi, rfl, rfl, HJ0⟩ := hrel
    obtain ⟨vo, hj⟩ := HJ0.out
    have HJ := Lib.hid hj
    clear hj HJ0
    by_cases hlt : i < l.length
    · have hd : decide (i < l.length) = true := decide_eq_true hlt
      have hd2 : decide ((i : Int) < (l.length : Int)) = true := decide_eq_true (by omega)
      obtain ⟨bb, oo, rfl, hrg, hqo⟩ := (HS.out.ext HJ.out.2.2.2.2.2.2).at i hlt
      have HQO := Lib.hid hqo
      have HRX : Hid (∀ W, Ext w W → W.rangeAt bb (oo + i * 11) (hdc (l.getD i hz0)).toList) := Lib.hid (fun W he => by
        obtain ⟨b', o', e', hr', _⟩ := (HS.out.ext he).at i hlt
        injection e' with e'
        injection e' with e1 e2 _
        subst e1 e2
        exact hr')
      have HLT := Lib.hid (fun hh => outP_lt HRI.out (h := h) hlt hh)
      have HEQ := Lib.hid (fun hh => outP_eq HRI.out (h := h) hlt hh)
      have HGT := Lib.hid (fun hh => outP_gt (h := h) hlt hh)
      have HLN := Lib.hid (show (outP l h i).length + 1 ≤ 1099511627776 by have := outP_len l h i; omega)
      have HLN2 := Lib.hid (show (outP l h i ++ [h]).length + 1 ≤ 1099511627776 by have := outP_len l h i; rw [List.length_append, List.length_singleton]; omega)
      clear hrg hqo
      generalize l.getD i hz0 = q at *
      have qL := HJ.out.2.2.2.1.cell 0 _ rfl
      go_upto_region 6 with fail
      clear qL
      by_cases hc1 : q.addr < h.addr
      · have HC0 := Lib.hid (HLT.out hc1)
        cases hl : laidP l h i with
        | true =>
          have HC := Lib.hid (show outP l h (i + 1) = outP l h i ++ [q] ∧ laidP l h (i + 1) = true from ⟨HC0.out.1, HC0.out.2.trans hl⟩)
          clear hl HC0
          have qL := HJ.out.2.2.2.1.cell 0 _ rfl
          have qh := Hb.addr HJ.out.2.2.2.2.1
          have qq := hd_addr (HRX.out wr HJ.out.2.2.2.2.2.2)
          have m1 : decide ((q.addr : Int) ≥ (h.addr : Int)) = false := decide_eq_false (by omega)
          have m2 : decide ((h.addr : Int) ≤ (q.addr : Int)) = false := decide_eq_false (by omega)
          have m3 : decide (h.addr ≤ q.addr) = false := decide_eq_false (by omega)
          go_upto_region 6 with fail
          go_quiet (fail)
          have HJ6 := Lib.hid (HJ.out.ext (Ext.drewN (Ext.refl _) nq))
          clear qL qh qq m1 m2 m3 HJ
          obtain ⟨wz, hwz⟩ : ∃ wz, wr.drewN nq = wz := ⟨_, rfl⟩
          rw [hwz] at HJ6 ⊢
          clear hwz nq
          have qL := HJ6.out.2.2.2.1.cell 0 _ rfl
          have qh := Hb.addr HJ6.out.2.2.2.2.1
          have qq := hd_addr (HRX.out wz HJ6.out.2.2.2.2.2.2)
          have n1 : ((q.addr : Int) != (h.addr : Int)) = true := by rw [bne_iff_ne]; omega
          have n2 : (q.addr != h.addr) = true := by rw [bne_iff_ne]; omega
          have n3 : ((q.addr : Int) == (h.addr : Int)) = false := by rw [beq_eq_false_iff_ne]; omega
          have n4 : (q.addr == h.addr) = false := by rw [beq_eq_false_iff_ne]; omega
          go_upto_region 9 with fail
          go_quiet (fail)
          have HJq := Lib.hid (HJ6.out.ext (Ext.drewN (Ext.refl _) nq))
          clear qL qh qq
          go_upto_region 10 with fail
          clear n1 n2 n3 n4
          obtain ⟨A9, c9, e9, _, _⟩ := HJq.out.2.1.sl
          rw [e9] at HJq
          clear e9
          refine wp_named fun a0 ha0 => ?_
          obtain ⟨fr, hfr⟩ : ∃ fr : (Nat → Value) → Act, ∀ V, fr V = ((((((((((a0.put (some 54) (V 0)).put (some 55) (V 1)).put (some 56) (V 2)).put (some 57) (V 3)).put (some 58) (V 4)).put (some 59) (V 5)).put (some 60) (V 6)).put (some 61) (V 7)).put (some 62) (V 8)).put (some 63) (V 9)) := ⟨fun V => ((((((((((a0.put (some 54) (V 0)).put (some 55) (V 1)).put (some 56) (V 2)).put (some 57) (V 3)).put (some 58) (V 4)).put (some 59) (V 5)).put (some 60) (V 6)).put (some 61) (V 7)).put (some 62) (V 8)).put (some 63) (V 9)), fun _ => rfl⟩
          rw [ha0] at hfr
          simp only [Act.put, List.setIfInBounds_toArray, List.set_cons_zero, List.set_cons_succ] at hfr
          have HFR := Lib.hid hfr
          clear hfr
          refine wp_region_inv (by kernel_rfl) (by kernel_rfl) (fun L A W => ∃ V : Nat → Value, A = fr V ∧ Vals (fun j => ([some (.pointer (some ⟨g6, 0, none⟩)), some (.slice A9 (outP l h i).length c9), some (.pointer (some ⟨g2, 0, none⟩)), some (.slice (some ⟨bb, oo, none⟩) l.length c1), some (.int .i64 i), some (.pointer (some ⟨bb, oo + i * 11, none⟩)), some (.agg (hdc q)), none, none, some (.pointer (some ⟨g6, 0, none⟩)), none] : List (Option Value)).getD j none) L V ∧ (L 8 = false → PuM lo g2 g3 g4 g6 w (.slice (some ⟨bb, oo, none⟩) l.length c1) h (.slice A9 (outP l h i).length c9) (.slice A9 (outP l h i).length c9) (outP l h i) W) ∧ (L 8 = true → L 10 = false → PuM lo g2 g3 g4 g6 w (.slice (some ⟨bb, oo, none⟩) l.length c1) h (.slice A9 (outP l h i).length c9) (V 8) (outP l h i ++ [q]) W) ∧ (L 10 = true → PuE lo g2 g3 g4 g6 w (.slice (some ⟨bb, oo, none⟩) l.length c1) h (outP l h i ++ [q]) W) ∧ (L 8 = false → L 7 = true → PlH q W (V 7)) ∧ (L 10 = false → L 8 = true → SlG ((outP l h i).length + 1) W (V 8))) ?_ ⟨?_, ?_, ?_, ?_, ?_, ?_, ?_, ?_, ?_, ?_, ?_, trivial⟩ ?_
          · refine ⟨fun j => a0.tmps.getD (([54, 55, 56, 57, 58, 59, 60, 61, 62, 63, 0] : List Nat).getD j 0) undef, ?_, Vals.no _ _ _ (far_none _ _ rfl), fun _ => HJq.out.ext (Ext.refl _).drew, fun h0 h1 => absurd h0 (by decide), fun h0 => absurd h0 (by decide), fun h0 h1 => absurd h1 (by decide), fun h0 h1 => absurd h1 (by decide)⟩
            rw [HFR.out, ha0]
            rfl
          all_goals clear ha0
          · rintro L A W K hL hC hW ⟨V, rfl, HV, s0, s1, s2, f7, f8⟩ hK
            have H := Lib.hid (show ∀ W', Ext W W' → K (fr (upd V 0 (.pointer (some ⟨g6, 0, none⟩)))) W' from fun W' he => hK _ _ ⟨upd V 0 (.pointer (some ⟨g6, 0, none⟩)), rfl, HV.up 0 _ (fun x hx => Option.some.inj hx), fun h0 => PuM.ext (s0 (by unfold More at h0; rwa [if_neg (by decide)] at h0)) he, fun h0 h1 => PuM.ext (s1 (more_ne h0 rfl) (by unfold More at h1; rwa [if_neg (by decide)] at h1)) he, fun h0 => PuE.ext (s2 (more_ne h0 rfl)) he, fun h0 h1 => PlH.ext (f7 (by unfold More at h0; rwa [if_neg (by decide)] at h0) (more_ne h1 rfl)) he, fun h0 h1 => SlG.ext (f8 (by unfold More at h0; rwa [if_neg (by decide)] at h0) (more_ne h1 rfl)) he⟩)
            clear hK hC hW hL HV s0 s1 s2 f7 f8
            rw [HFR.out]
            go_wp2_with fail
            show K _ _
            have := H.out _ (Ext.refl _)
            rw [HFR.out] at this
            exact this
          · rintro L A W K hL hC hW ⟨V, rfl, HV, s0, s1, s2, f7, f8⟩ hK
            have e0 : V 0 = .pointer (some ⟨g6, 0, none⟩) := HV 0 _ rfl (hW 0 rfl)
            have hB := s0 (hC.no hL 8 _ rfl rfl)
            have H := Lib.hid (show ∀ W', Ext W W' → K (fr (upd V 1 (.slice A9 (outP l h i).length c9))) W' from fun W' he => hK _ _ ⟨upd V 1 (.slice A9 (outP l h i).length c9), rfl, HV.up 1 _ (fun x hx => Option.some.inj hx), fun h0 => PuM.ext (s0 (by unfold More at h0; rwa [if_neg (by decide)] at h0)) he, fun h0 h1 => PuM.ext (s1 (more_ne h0 rfl) (by unfold More at h1; rwa [if_neg (by decide)] at h1)) he, fun h0 => PuE.ext (s2 (more_ne h0 rfl)) he, fun h0 h1 => PlH.ext (f7 (by unfold More at h0; rwa [if_neg (by decide)] at h0) (more_ne h1 rfl)) he, fun h0 h1 => SlG.ext (f8 (by unfold More at h0; rwa [if_neg (by decide)] at h0) (more_ne h1 rfl)) he⟩)
            have HU := Lib.hid (show (upd V 1 (.slice A9 (outP l h i).length c9)) 0 = .pointer (some ⟨g6, 0, none⟩) from e0)
            clear hK hC hW hL HV s0 s1 s2 f7 f8
            rw [HFR.out]
            rw [e0]
            clear e0
            have hcl := hB.2.2.1.cell 0 _ rfl
            clear hB
            go_wp2_with fail
            show K _ _
            have := H.out _ (Ext.refl _)
            rw [HFR.out] at this
            obtain u0 := HU.out
            rw [u0] at this
            exact this
          · rintro L A W K hL hC hW ⟨V, rfl, HV, s0, s1, s2, f7, f8⟩ hK
            have H := Lib.hid (show ∀ W', Ext W W' → K (fr (upd V 2 (.pointer (some ⟨g2, 0, none⟩)))) W' from fun W' he => hK _ _ ⟨upd V 2 (.pointer (some ⟨g2, 0, none⟩)), rfl, HV.up 2 _ (fun x hx => Option.some.inj hx), fun h0 => PuM.ext (s0 (by unfold More at h0; rwa [if_neg (by decide)] at h0)) he, fun h0 h1 => PuM.ext (s1 (more_ne h0 rfl) (by unfold More at h1; rwa [if_neg (by decide)] at h1)) he, fun h0 => PuE.ext (s2 (more_ne h0 rfl)) he, fun h0 h1 => PlH.ext (f7 (by unfold More at h0; rwa [if_neg (by decide)] at h0) (more_ne h1 rfl)) he, fun h0 h1 => SlG.ext (f8 (by unfold More at h0; rwa [if_neg (by decide)] at h0) (more_ne h1 rfl)) he⟩)
            clear hK hC hW hL HV s0 s1 s2 f7 f8
            rw [HFR.out]
            go_wp2_with fail
            show K _ _
            have := H.out _ (Ext.refl _)
            rw [HFR.out] at this
            exact this
          · rintro L A W K hL hC hW ⟨V, rfl, HV, s0, s1, s2, f7, f8⟩ hK
            have e2 : V 2 = .pointer (some ⟨g2, 0, none⟩) := HV 2 _ rfl (hW 2 rfl)
            have hB := s0 (hC.no (hC.no (hC.no (hC.no hL 5 _ rfl rfl) 6 _ rfl rfl) 7 _ rfl rfl) 8 _ rfl rfl)
            have H := Lib.hid (show ∀ W', Ext W W' → K (fr (upd V 3 (.slice (some ⟨bb, oo, none⟩) l.length c1))) W' from fun W' he => hK _ _ ⟨upd V 3 (.slice (some ⟨bb, oo, none⟩) l.length c1), rfl, HV.up 3 _ (fun x hx => Option.some.inj hx), fun h0 => PuM.ext (s0 (by unfold More at h0; rwa [if_neg (by decide)] at h0)) he, fun h0 h1 => PuM.ext (s1 (more_ne h0 rfl) (by unfold More at h1; rwa [if_neg (by decide)] at h1)) he, fun h0 => PuE.ext (s2 (more_ne h0 rfl)) he, fun h0 h1 => PlH.ext (f7 (by unfold More at h0; rwa [if_neg (by decide)] at h0) (more_ne h1 rfl)) he, fun h0 h1 => SlG.ext (f8 (by unfold More at h0; rwa [if_neg (by decide)] at h0) (more_ne h1 rfl)) he⟩)
            have HU := Lib.hid (show (upd V 3 (.slice (some ⟨bb, oo, none⟩) l.length c1)) 2 = .pointer (some ⟨g2, 0, none⟩) from e2)
            clear hK hC hW hL HV s0 s1 s2 f7 f8
            rw [HFR.out]
            rw [e2]
            clear e2
            have hcl := hB.2.2.2.1.cell 0 _ rfl
            clear hB
            go_wp2_with fail
            show K _ _
            have := H.out _ (Ext.refl _)
            rw [HFR.out] at this
            obtain u2 := HU.out
            rw [u2] at this
            exact this
          · rintro L A W K hL hC hW ⟨V, rfl, HV, s0, s1, s2, f7, f8⟩ hK
            have H := Lib.hid (show ∀ W', Ext W W' → K (fr (upd V 4 (.int .i64 i))) W' from fun W' he => hK _ _ ⟨upd V 4 (.int .i64 i), rfl, HV.up 4 _ (fun x hx => Option.some.inj hx), fun h0 => PuM.ext (s0 (by unfold More at h0; rwa [if_neg (by decide)] at h0)) he, fun h0 h1 => PuM.ext (s1 (more_ne h0 rfl) (by unfold More at h1; rwa [if_neg (by decide)] at h1)) he, fun h0 => PuE.ext (s2 (more_ne h0 rfl)) he, fun h0 h1 => PlH.ext (f7 (by unfold More at h0; rwa [if_neg (by decide)] at h0) (more_ne h1 rfl)) he, fun h0 h1 => SlG.ext (f8 (by unfold More at h0; rwa [if_neg (by decide)] at h0) (more_ne h1 rfl)) he⟩)
            clear hK hC hW hL HV s0 s1 s2 f7 f8
            rw [HFR.out]
            go_wp2_with fail
            show K _ _
            have := H.out _ (Ext.refl _)
            rw [HFR.out] at this
            exact this
          · rintro L A W K hL hC hW ⟨V, rfl, HV, s0, s1, s2, f7, f8⟩ hK
            have e3 : V 3 = .slice (some ⟨bb, oo, none⟩) l.length c1 := HV 3 _ rfl (hW 3 rfl)
            have e4 : V 4 = .int .i64 i := HV 4 _ rfl (hW 4 rfl)
            have H := Lib.hid (show ∀ W', Ext W W' → K (fr (upd V 5 (.pointer (some ⟨bb, oo + i * 11, none⟩)))) W' from fun W' he => hK _ _ ⟨upd V 5 (.pointer (some ⟨bb, oo + i * 11, none⟩)), rfl, HV.up 5 _ (fun x hx => Option.some.inj hx), fun h0 => PuM.ext (s0 (by unfold More at h0; rwa [if_neg (by decide)] at h0)) he, fun h0 h1 => PuM.ext (s1 (more_ne h0 rfl) (by unfold More at h1; rwa [if_neg (by decide)] at h1)) he, fun h0 => PuE.ext (s2 (more_ne h0 rfl)) he, fun h0 h1 => PlH.ext (f7 (by unfold More at h0; rwa [if_neg (by decide)] at h0) (more_ne h1 rfl)) he, fun h0 h1 => SlG.ext (f8 (by unfold More at h0; rwa [if_neg (by decide)] at h0) (more_ne h1 rfl)) he⟩)
            have HU := Lib.hid (show (upd V 5 (.pointer (some ⟨bb, oo + i * 11, none⟩))) 3 = .slice (some ⟨bb, oo, none⟩) l.length c1 ∧ (upd V 5 (.pointer (some ⟨bb, oo + i * 11, none⟩))) 4 = .int .i64 i from ⟨e3, e4⟩)
            clear hK hC hW hL HV s0 s1 s2 f7 f8
            rw [HFR.out]
            rw [e3, e4]
            clear e3 e4
            go_wp2_with fail
            show K _ _
            have := H.out _ (Ext.refl _)
            rw [HFR.out] at this
            obtain ⟨u3, u4⟩ := HU.out
            rw [u3, u4] at this
            exact this
          · rintro L A W K hL hC hW ⟨V, rfl, HV, s0, s1, s2, f7, f8⟩ hK
            have e5 : V 5 = .pointer (some ⟨bb, oo + i * 11, none⟩) := HV 5 _ rfl (hW 5 rfl)
            have hB := s0 (hC.no (hC.no hL 7 _ rfl rfl) 8 _ rfl rfl)
            have H := Lib.hid (show ∀ W', Ext W W' → K (fr (upd V 6 (.agg (hdc q)))) W' from fun W' he => hK _ _ ⟨upd V 6 (.agg (hdc q)), rfl, HV.up 6 _ (fun x hx => Option.some.inj hx), fun h0 => PuM.ext (s0 (by unfold More at h0; rwa [if_neg (by decide)] at h0)) he, fun h0 h1 => PuM.ext (s1 (more_ne h0 rfl) (by unfold More at h1; rwa [if_neg (by decide)] at h1)) he, fun h0 => PuE.ext (s2 (more_ne h0 rfl)) he, fun h0 h1 => PlH.ext (f7 (by unfold More at h0; rwa [if_neg (by decide)] at h0) (more_ne h1 rfl)) he, fun h0 h1 => SlG.ext (f8 (by unfold More at h0; rwa [if_neg (by decide)] at h0) (more_ne h1 rfl)) he⟩)
            have HU := Lib.hid (show (upd V 6 (.agg (hdc q))) 5 = .pointer (some ⟨bb, oo + i * 11, none⟩) from e5)
            clear hK hC hW hL HV s0 s1 s2 f7 f8
            rw [HFR.out]
            rw [e5]
            clear e5
            have HWD := Lib.hid (HRX.out W hB.2.2.2.2.2.2)
            clear hB
            refine wpList_load_hd rfl (.tmp 59) rfl bb (oo + i * 11) q rfl HWD.out ?_
            show K _ _
            have := H.out _ (Ext.refl _)
            rw [HFR.out] at this
            obtain u5 := HU.out
            rw [u5] at this
            exact this
          · rintro L A W K hL hC hW ⟨V, rfl, HV, s0, s1, s2, f7, f8⟩ hK
            have e6 : V 6 = .agg (hdc q) := HV 6 _ rfl (hW 6 rfl)
            have H := Lib.hid (show ∀ v W', Ext W W' → (PlH q W' v) → K (fr (upd V 7 v)) W' from fun v W' he hp => hK _ _ ⟨upd V 7 v, rfl, HV.up 7 _ (fun x hx => absurd hx (by intro h; cases h)), fun h0 => PuM.ext (s0 (by unfold More at h0; rwa [if_neg (by decide)] at h0)) he, fun h0 h1 => PuM.ext (s1 (more_ne h0 rfl) (by unfold More at h1; rwa [if_neg (by decide)] at h1)) he, fun h0 => PuE.ext (s2 (more_ne h0 rfl)) he, fun h0 h1 => hp, fun h0 h1 => SlG.ext (f8 (by unfold More at h0; rwa [if_neg (by decide)] at h0) (more_ne h1 rfl)) he⟩)
            have HU := Lib.hid (show ∀ v, (upd V 7 v) 6 = .agg (hdc q) from fun v => e6)
            clear hK hC hW hL HV s0 s1 s2 f7 f8
            rw [HFR.out]
            rw [e6]
            clear e6
            refine wpList_build_one rfl (.tmp 60) 86 97 rfl Try.underlying86 _ 11 88 hdinfo3 (by decide) (by decide) (hdc q) rfl rfl ?_
            show K _ _
            have := H.out (.slice (some ⟨W.heap.size, 0, none⟩) 1 1) _ ((Ext.refl W).alloc (.cells (hdc q) 97)) (⟨_, rfl, Cs.new _ _ _ _ rfl⟩)
            rw [HFR.out] at this
            obtain u6 := HU.out _
            rw [u6] at this
            exact this
          · rintro L A W K hL hC hW ⟨V, rfl, HV, s0, s1, s2, f7, f8⟩ hK
            have e1 : V 1 = .slice A9 (outP l h i).length c9 := HV 1 _ rfl (hW 1 rfl)
            have hB := s0 hL
            have q7 := f7 hL (hW 7 rfl)
            obtain ⟨g7, e7, k7⟩ := q7
            have H := Lib.hid (show ∀ v W', (PuM lo g2 g3 g4 g6 w (.slice (some ⟨bb, oo, none⟩) l.length c1) h (.slice A9 (outP l h i).length c9) v (outP l h i ++ [q]) W') → (SlG ((outP l h i).length + 1) W' v) → K (fr (upd V 8 v)) W' from fun v W' hA hp => hK _ _ ⟨upd V 8 v, rfl, HV.up 8 _ (fun x hx => absurd hx (by intro h; cases h)), fun h0 => absurd h0 (by unfold More; rw [if_pos rfl]; simp), fun h0 h1 => hA, fun h0 => absurd (more_ne h0 rfl) (by rw [(hC.no hL 10 _ rfl rfl)]; simp), fun h0 h1 => absurd h0 (by unfold More; rw [if_pos rfl]; simp), fun h0 h1 => hp⟩)
            have HU := Lib.hid (show ∀ v, (upd V 8 v) 1 = .slice A9 (outP l h i).length c9 ∧ (upd V 8 v) 7 = .slice (some ⟨g7, 0, none⟩) 1 1 from fun v => ⟨e1, e7⟩)
            clear hK hC hW hL HV s0 s1 s2 f7 f8
            rw [HFR.out]
            rw [e1, e7]
            clear e1 e7
            have HB := Lib.hid hB
            have K3 := Lib.hid k7
            clear hB k7
            refine wpList_append_row rfl (.tmp 55) (.tmp 61) 86 rfl lo 97 Try.underlying86 _ 11 88 hdinfo3 rfl (by decide) (.slice A9 (outP l h i).length c9) (outP l h i).length (hdf (outP l h i)) rfl HB.out.2.1.1 (.slice (some ⟨g7, 0, none⟩) 1 1) 1 (hdc q).toList rfl (rs_hd1 K3.out) (hdc_ones2 q) HLN.out (by decide) HB.out.1.2.2.2.2.2 ?_
            intro v5 w5 o5 g5' b5
            have HO5 := Lib.hid (OwnH.add HB.out.2.1.2 HQO.out o5)
            have HA := Lib.hid (HB.out.app g5' HO5.out)
            have HP : Hid (SlG ((outP l h i).length + 1) w5 v5) := Lib.hid (by obtain ⟨A, c, e, _⟩ := HO5.out.sl; exact ⟨A, c, by rw [e, List.length_append, List.length_singleton]⟩)
            clear o5 g5' b5
            show K _ _
            have := H.out _ _ HA.out HP.out
            rw [HFR.out] at this
            obtain ⟨u1, u7⟩ := HU.out _
            rw [u1, u7] at this
            exact this
          · rintro L A W K hL hC hW ⟨V, rfl, HV, s0, s1, s2, f7, f8⟩ hK
            have H := Lib.hid (show ∀ W', Ext W W' → K (fr (upd V 9 (.pointer (some ⟨g6, 0, none⟩)))) W' from fun W' he => hK _ _ ⟨upd V 9 (.pointer (some ⟨g6, 0, none⟩)), rfl, HV.up 9 _ (fun x hx => Option.some.inj hx), fun h0 => PuM.ext (s0 (by unfold More at h0; rwa [if_neg (by decide)] at h0)) he, fun h0 h1 => PuM.ext (s1 (more_ne h0 rfl) (by unfold More at h1; rwa [if_neg (by decide)] at h1)) he, fun h0 => PuE.ext (s2 (more_ne h0 rfl)) he, fun h0 h1 => PlH.ext (f7 (by unfold More at h0; rwa [if_neg (by decide)] at h0) (more_ne h1 rfl)) he, fun h0 h1 => SlG.ext (f8 (by unfold More at h0; rwa [if_neg (by decide)] at h0) (more_ne h1 rfl)) he⟩)
            clear hK hC hW hL HV s0 s1 s2 f7 f8
            rw [HFR.out]
            go_wp2_with fail
            show K _ _
            have := H.out _ (Ext.refl _)
            rw [HFR.out] at this
            exact this
          · rintro L A W K hL hC hW ⟨V, rfl, HV, s0, s1, s2, f7, f8⟩ hK
            have e9 : V 9 = .pointer (some ⟨g6, 0, none⟩) := HV 9 _ rfl (hW 9 rfl)
            have hB := s1 (hW 8 rfl) hL
            have q8 := f8 hL (hW 8 rfl)
            obtain ⟨A8, c8, e8⟩ := q8
            have H := Lib.hid (show ∀ W', (PuE lo g2 g3 g4 g6 w (.slice (some ⟨bb, oo, none⟩) l.length c1) h (outP l h i ++ [q]) W') → K (fr (V)) W' from fun W' hA => hK _ _ ⟨V, rfl, HV.st 10 rfl, fun h0 => absurd (show L 8 = false by unfold More at h0; rwa [if_neg (by decide)] at h0) (by rw [(hW 8 rfl)]; simp), fun h0 h1 => absurd h1 (by unfold More; rw [if_pos rfl]; simp), fun h0 => hA, fun h0 h1 => absurd (show L 8 = false by unfold More at h0; rwa [if_neg (by decide)] at h0) (by rw [(hW 8 rfl)]; simp), fun h0 h1 => absurd h0 (by unfold More; rw [if_pos rfl]; simp)⟩)
            have HU := Lib.hid (show (V) 9 = .pointer (some ⟨g6, 0, none⟩) ∧ (V) 8 = .slice A8 ((outP l h i).length + 1) c8 from ⟨e9, e8⟩)
            clear hK hC hW hL HV s0 s1 s2 f7 f8
            rw [HFR.out]
            rw [e9, e8]
            clear e9 e8
            have HB := Lib.hid hB
            have hc := hB.2.2.1.cell 0 _ rfl
            have hf : W.frozen? ⟨g6, 0, none⟩ = false := hB.2.2.1.frozen 0
            clear hB
            go_wp2_with fail
            have HA : Hid (PuE lo g2 g3 g4 g6 w (.slice (some ⟨bb, oo, none⟩) l.length c1) h (outP l h i ++ [q]) (W.setCell ⟨g6, 0, none⟩ (.slice A8 ((outP l h i).length + 1) c8))) := Lib.hid ⟨_, by have h := HB.out; rw [HU.out.2] at h; exact h.store⟩
            show K _ _
            have := H.out _ HA.out
            rw [HFR.out] at this
            obtain ⟨u9, u8⟩ := HU.out
            rw [u9, u8] at this
            exact this
          · rintro L A W hL ⟨V, rfl, HV, s0, s1, s2, f7, f8⟩
            have e0 : V 0 = .pointer (some ⟨g6, 0, none⟩) := HV 0 _ rfl (hL 0 (by simp))
            have e1 : V 1 = .slice A9 (outP l h i).length c9 := HV 1 _ rfl (hL 1 (by simp))
            have e2 : V 2 = .pointer (some ⟨g2, 0, none⟩) := HV 2 _ rfl (hL 2 (by simp))
            have e3 : V 3 = .slice (some ⟨bb, oo, none⟩) l.length c1 := HV 3 _ rfl (hL 3 (by simp))
            have e4 : V 4 = .int .i64 i := HV 4 _ rfl (hL 4 (by simp))
            have e5 : V 5 = .pointer (some ⟨bb, oo + i * 11, none⟩) := HV 5 _ rfl (hL 5 (by simp))
            have e6 : V 6 = .agg (hdc q) := HV 6 _ rfl (hL 6 (by simp))
            have e9 : V 9 = .pointer (some ⟨g6, 0, none⟩) := HV 9 _ rfl (hL 9 (by simp))
            have hA := s2 (hL 10 (by simp))
            rw [HFR.out]
            rw [e0, e1, e2, e3, e4, e5, e6, e9]
            clear hL HV HFR e0 e1 e2 e3 e4 e5 e6 e9 s0 s1 s2 f7 f8
            have HA4 := Lib.hid hA
            clear hA
            go_wp2_with fail
            exact ⟨⟨i + 1, by omega, by go_num, by rw [HC.out.2], Lib.hid (by rw [HC.out.1]; exact HA4.out)⟩, by simp [intOf]; omega⟩
        | false =>
          have HC := Lib.hid (show outP l h (i + 1) = outP l h i ++ [q] ∧ laidP l h (i + 1) = false from ⟨HC0.out.1, HC0.out.2.trans hl⟩)
          clear hl HC0
          have qL := HJ.out.2.2.2.1.cell 0 _ rfl
          have qh := Hb.addr HJ.out.2.2.2.2.1
          have qq := hd_addr (HRX.out wr HJ.out.2.2.2.2.2.2)
          have m1 : decide ((q.addr : Int) ≥ (h.addr : Int)) = false := decide_eq_false (by omega)
          have m2 : decide ((h.addr : Int) ≤ (q.addr : Int)) = false := decide_eq_false (by omega)
          have m3 : decide (h.addr ≤ q.addr) = false := decide_eq_false (by omega)
          go_upto_region 6 with fail
          go_quiet (fail)
          have HJ6 := Lib.hid (HJ.out.ext (Ext.drewN (Ext.refl _) nq))
          clear qL qh qq m1 m2 m3 HJ
          obtain ⟨wz, hwz⟩ : ∃ wz, wr.drewN nq = wz := ⟨_, rfl⟩
          rw [hwz] at HJ6 ⊢
          clear hwz nq
          have qL := HJ6.out.2.2.2.1.cell 0 _ rfl
          have qh := Hb.addr HJ6.out.2.2.2.2.1
          have qq := hd_addr (HRX.out wz HJ6.out.2.2.2.2.2.2)
          have n1 : ((q.addr : Int) != (h.addr : Int)) = true := by rw [bne_iff_ne]; omega
          have n2 : (q.addr != h.addr) = true := by rw [bne_iff_ne]; omega
          have n3 : ((q.addr : Int) == (h.addr : Int)) = false := by rw [beq_eq_false_iff_ne]; omega
          have n4 : (q.addr == h.addr) = false := by rw [beq_eq_false_iff_ne]; omega
          go_upto_region 9 with fail
          go_quiet (fail)
          have HJq := Lib.hid (HJ6.out.ext (Ext.drewN (Ext.refl _) nq))
          clear qL qh qq
          go_upto_region 10 with fail
          clear n1 n2 n3 n4
          obtain ⟨A9, c9, e9, _, _⟩ := HJq.out.2.1.sl
          rw [e9] at HJq
          clear e9
          refine wp_named fun a0 ha0 => ?_
          obtain ⟨fr, hfr⟩ : ∃ fr : (Nat → Value) → Act, ∀ V, fr V = ((((((((((a0.put (some 54) (V 0)).put (some 55) (V 1)).put (some 56) (V 2)).put (some 57) (V 3)).put (some 58) (V 4)).put (some 59) (V 5)).put (some 60) (V 6)).put (some 61) (V 7)).put (some 62) (V 8)).put (some 63) (V 9)) := ⟨fun V => ((((((((((a0.put (some 54) (V 0)).put (some 55) (V 1)).put (some 56) (V 2)).put (some 57) (V 3)).put (some 58) (V 4)).put (some 59) (V 5)).put (some 60) (V 6)).put (some 61) (V 7)).put (some 62) (V 8)).put (some 63) (V 9)), fun _ => rfl⟩
          rw [ha0] at hfr
          simp only [Act.put, List.setIfInBounds_toArray, List.set_cons_zero, List.set_cons_succ] at hfr
          have HFR := Lib.hid hfr
          clear hfr
          refine wp_region_inv (by kernel_rfl) (by kernel_rfl) (fun L A W => ∃ V : Nat → Value, A = fr V ∧ Vals (fun j => ([some (.pointer (some ⟨g6, 0, none⟩)), some (.slice A9 (outP l h i).length c9), some (.pointer (some ⟨g2, 0, none⟩)), some (.slice (some ⟨bb, oo, none⟩) l.length c1), some (.int .i64 i), some (.pointer (some ⟨bb, oo + i * 11, none⟩)), some (.agg (hdc q)), none, none, some (.pointer (some ⟨g6, 0, none⟩)), none] : List (Option Value)).getD j none) L V ∧ (L 8 = false → PuM lo g2 g3 g4 g6 w (.slice (some ⟨bb, oo, none⟩) l.length c1) h (.slice A9 (outP l h i).length c9) (.slice A9 (outP l h i).length c9) (outP l h i) W) ∧ (L 8 = true → L 10 = false → PuM lo g2 g3 g4 g6 w (.slice (some ⟨bb, oo, none⟩) l.length c1) h (.slice A9 (outP l h i).length c9) (V 8) (outP l h i ++ [q]) W) ∧ (L 10 = true → PuE lo g2 g3 g4 g6 w (.slice (some ⟨bb, oo, none⟩) l.length c1) h (outP l h i ++ [q]) W) ∧ (L 8 = false → L 7 = true → PlH q W (V 7)) ∧ (L 10 = false → L 8 = true → SlG ((outP l h i).length + 1) W (V 8))) ?_ ⟨?_, ?_, ?_, ?_, ?_, ?_, ?_, ?_, ?_, ?_, ?_, trivial⟩ ?_
          · refine ⟨fun j => a0.tmps.getD (([54, 55, 56, 57, 58, 59, 60, 61, 62, 63, 0] : List Nat).getD j 0) undef, ?_, Vals.no _ _ _ (far_none _ _ rfl), fun _ => HJq.out.ext (Ext.refl _).drew, fun h0 h1 => absurd h0 (by decide), fun h0 => absurd h0 (by decide), fun h0 h1 => absurd h1 (by decide), fun h0 h1 => absurd h1 (by decide)⟩
            rw [HFR.out, ha0]
            rfl
          all_goals clear ha0
          · rintro L A W K hL hC hW ⟨V, rfl, HV, s0, s1, s2, f7, f8⟩ hK
            have H := Lib.hid (show ∀ W', Ext W W' → K (fr (upd V 0 (.pointer (some ⟨g6, 0, none⟩)))) W' from fun W' he => hK _ _ ⟨upd V 0 (.pointer (some ⟨g6, 0, none⟩)), rfl, HV.up 0 _ (fun x hx => Option.some.inj hx), fun h0 => PuM.ext (s0 (by unfold More at h0; rwa [if_neg (by decide)] at h0)) he, fun h0 h1 => PuM.ext (s1 (more_ne h0 rfl) (by unfold More at h1; rwa [if_neg (by decide)] at h1)) he, fun h0 => PuE.ext (s2 (more_ne h0 rfl)) he, fun h0 h1 => PlH.ext (f7 (by unfold More at h0; rwa [if_neg (by decide)] at h0) (more_ne h1 rfl)) he, fun h0 h1 => SlG.ext (f8 (by unfold More at h0; rwa [if_neg (by decide)] at h0) (more_ne h1 rfl)) he⟩)
            clear hK hC hW hL HV s0 s1 s2 f7 f8
            rw [HFR.out]
            go_wp2_with fail
            show K _ _
            have := H.out _ (Ext.refl _)
            rw [HFR.out] at this
            exact this
          · rintro L A W K hL hC hW ⟨V, rfl, HV, s0, s1, s2, f7, f8⟩ hK
            have e0 : V 0 = .pointer (some ⟨g6, 0, none⟩) := HV 0 _ rfl (hW 0 rfl)
            have hB := s0 (hC.no hL 8 _ rfl rfl)
            have H := Lib.hid (show ∀ W', Ext W W' → K (fr (upd V 1 (.slice A9 (outP l h i).length c9))) W' from fun W' he => hK _ _ ⟨upd V 1 (.slice A9 (outP l h i).length c9), rfl, HV.up 1 _ (fun x hx => Option.some.inj hx), fun h0 => PuM.ext (s0 (by unfold More at h0; rwa [if_neg (by decide)] at h0)) he, fun h0 h1 => PuM.ext (s1 (more_ne h0 rfl) (by unfold More at h1; rwa [if_neg (by decide)] at h1)) he, fun h0 => PuE.ext (s2 (more_ne h0 rfl)) he, fun h0 h1 => PlH.ext (f7 (by unfold More at h0; rwa [if_neg (by decide)] at h0) (more_ne h1 rfl)) he, fun h0 h1 => SlG.ext (f8 (by unfold More at h0; rwa [if_neg (by decide)] at h0) (more_ne h1 rfl)) he⟩)
            have HU := Lib.hid (show (upd V 1 (.slice A9 (outP l h i).length c9)) 0 = .pointer (some ⟨g6, 0, none⟩) from e0)
            clear hK hC hW hL HV s0 s1 s2 f7 f8
            rw [HFR.out]
            rw [e0]
            clear e0
            have hcl := hB.2.2.1.cell 0 _ rfl
            clear hB
            go_wp2_with fail
            show K _ _
            have := H.out _ (Ext.refl _)
            rw [HFR.out] at this
            obtain u0 := HU.out
            rw [u0] at this
            exact this
          · rintro L A W K hL hC hW ⟨V, rfl, HV, s0, s1, s2, f7, f8⟩ hK
            have H := Lib.hid (show ∀ W', Ext W W' → K (fr (upd V 2 (.pointer (some ⟨g2, 0, none⟩)))) W' from fun W' he => hK _ _ ⟨upd V 2 (.pointer (some ⟨g2, 0, none⟩)), rfl, HV.up 2 _ (fun x hx => Option.some.inj hx), fun h0 => PuM.ext (s0 (by unfold More at h0; rwa [if_neg (by decide)] at h0)) he, fun h0 h1 => PuM.ext (s1 (more_ne h0 rfl) (by unfold More at h1; rwa [if_neg (by decide)] at h1)) he, fun h0 => PuE.ext (s2 (more_ne h0 rfl)) he, fun h0 h1 => PlH.ext (f7 (by unfold More at h0; rwa [if_neg (by decide)] at h0) (more_ne h1 rfl)) he, fun h0 h1 => SlG.ext (f8 (by unfold More at h0; rwa [if_neg (by decide)] at h0) (more_ne h1 rfl)) he⟩)
            clear hK hC hW hL HV s0 s1 s2 f7 f8
            rw [HFR.out]
            go_wp2_with fail
            show K _ _
            have := H.out _ (Ext.refl _)
            rw [HFR.out] at this
            exact this
          · rintro L A W K hL hC hW ⟨V, rfl, HV, s0, s1, s2, f7, f8⟩ hK
            have e2 : V 2 = .pointer (some ⟨g2, 0, none⟩) := HV 2 _ rfl (hW 2 rfl)
            have hB := s0 (hC.no (hC.no (hC.no (hC.no hL 5 _ rfl rfl) 6 _ rfl rfl) 7 _ rfl rfl) 8 _ rfl rfl)
            have H := Lib.hid (show ∀ W', Ext W W' → K (fr (upd V 3 (.slice (some ⟨bb, oo, none⟩) l.length c1))) W' from fun W' he => hK _ _ ⟨upd V 3 (.slice (some ⟨bb, oo, none⟩) l.length c1), rfl, HV.up 3 _ (fun x hx => Option.some.inj hx), fun h0 => PuM.ext (s0 (by unfold More at h0; rwa [if_neg (by decide)] at h0)) he, fun h0 h1 => PuM.ext (s1 (more_ne h0 rfl) (by unfold More at h1; rwa [if_neg (by decide)] at h1)) he, fun h0 => PuE.ext (s2 (more_ne h0 rfl)) he, fun h0 h1 => PlH.ext (f7 (by unfold More at h0; rwa [if_neg (by decide)] at h0) (more_ne h1 rfl)) he, fun h0 h1 => SlG.ext (f8 (by unfold More at h0; rwa [if_neg (by decide)] at h0) (more_ne h1 rfl)) he⟩)
            have HU := Lib.hid (show (upd V 3 (.slice (some ⟨bb, oo, none⟩) l.length c1)) 2 = .pointer (some ⟨g2, 0, none⟩) from e2)
            clear hK hC hW hL HV s0 s1 s2 f7 f8
            rw [HFR.out]
            rw [e2]
            clear e2
            have hcl := hB.2.2.2.1.cell 0 _ rfl
            clear hB
            go_wp2_with fail
            show K _ _
            have := H.out _ (Ext.refl _)
            rw [HFR.out] at this
            obtain u2 := HU.out
            rw [u2] at this
            exact this
          · rintro L A W K hL hC hW ⟨V, rfl, HV, s0, s1, s2, f7, f8⟩ hK
            have H := Lib.hid (show ∀ W', Ext W W' → K (fr (upd V 4 (.int .i64 i))) W' from fun W' he => hK _ _ ⟨upd V 4 (.int .i64 i), rfl, HV.up 4 _ (fun x hx => Option.some.inj hx), fun h0 => PuM.ext (s0 (by unfold More at h0; rwa [if_neg (by decide)] at h0)) he, fun h0 h1 => PuM.ext (s1 (more_ne h0 rfl) (by unfold More at h1; rwa [if_neg (by decide)] at h1)) he, fun h0 => PuE.ext (s2 (more_ne h0 rfl)) he, fun h0 h1 => PlH.ext (f7 (by unfold More at h0; rwa [if_neg (by decide)] at h0) (more_ne h1 rfl)) he, fun h0 h1 => SlG.ext (f8 (by unfold More at h0; rwa [if_neg (by decide)] at h0) (more_ne h1 rfl)) he⟩)
            clear hK hC hW hL HV s0 s1 s2 f7 f8
            rw [HFR.out]
            go_wp2_with fail
            show K _ _
            have := H.out _ (Ext.refl _)
            rw [HFR.out] at this
            exact this
          · rintro L A W K hL hC hW ⟨V, rfl, HV, s0, s1, s2, f7, f8⟩ hK
            have e3 : V 3 = .slice (some ⟨bb, oo, none⟩) l.length c1 := HV 3 _ rfl (hW 3 rfl)
            have e4 : V 4 = .int .i64 i := HV 4 _ rfl (hW 4 rfl)
            have H := Lib.hid (show ∀ W', Ext W W' → K (fr (upd V 5 (.pointer (some ⟨bb, oo + i * 11, none⟩)))) W' from fun W' he => hK _ _ ⟨upd V 5 (.pointer (some ⟨bb, oo + i * 11, none⟩)), rfl, HV.up 5 _ (fun x hx => Option.some.inj hx), fun h0 => PuM.ext (s0 (by unfold More at h0; rwa [if_neg (by decide)] at h0)) he, fun h0 h1 => PuM.ext (s1 (more_ne h0 rfl) (by unfold More at h1; rwa [if_neg (by decide)] at h1)) he, fun h0 => PuE.ext (s2 (more_ne h0 rfl)) he, fun h0 h1 => PlH.ext (f7 (by unfold More at h0; rwa [if_neg (by decide)] at h0) (more_ne h1 rfl)) he, fun h0 h1 => SlG.ext (f8 (by unfold More at h0; rwa [if_neg (by decide)] at h0) (more_ne h1 rfl)) he⟩)
            have HU := Lib.hid (show (upd V 5 (.pointer (some ⟨bb, oo + i * 11, none⟩))) 3 = .slice (some ⟨bb, oo, none⟩) l.length c1 ∧ (upd V 5 (.pointer (some ⟨bb, oo + i * 11, none⟩))) 4 = .int .i64 i from ⟨e3, e4⟩)
            clear hK hC hW hL HV s0 s1 s2 f7 f8
            rw [HFR.out]
            rw [e3, e4]
            clear e3 e4
            go_wp2_with fail
            show K _ _
            have := H.out _ (Ext.refl _)
            rw [HFR.out] at this
            obtain ⟨u3, u4⟩ := HU.out
            rw [u3, u4] at this
            exact this
          · rintro L A W K hL hC hW ⟨V, rfl, HV, s0, s1, s2, f7, f8⟩ hK
            have e5 : V 5 = .pointer (some ⟨bb, oo + i * 11, none⟩) := HV 5 _ rfl (hW 5 rfl)
            have hB := s0 (hC.no (hC.no hL 7 _ rfl rfl) 8 _ rfl rfl)
            have H := Lib.hid (show ∀ W', Ext W W' → K (fr (upd V 6 (.agg (hdc q)))) W' from fun W' he => hK _ _ ⟨upd V 6 (.agg (hdc q)), rfl, HV.up 6 _ (fun x hx => Option.some.inj hx), fun h0 => PuM.ext (s0 (by unfold More at h0; rwa [if_neg (by decide)] at h0)) he, fun h0 h1 => PuM.ext (s1 (more_ne h0 rfl) (by unfold More at h1; rwa [if_neg (by decide)] at h1)) he, fun h0 => PuE.ext (s2 (more_ne h0 rfl)) he, fun h0 h1 => PlH.ext (f7 (by unfold More at h0; rwa [if_neg (by decide)] at h0) (more_ne h1 rfl)) he, fun h0 h1 => SlG.ext (f8 (by unfold More at h0; rwa [if_neg (by decide)] at h0) (more_ne h1 rfl)) he⟩)
            have HU := Lib.hid (show (upd V 6 (.agg (hdc q))) 5 = .pointer (some ⟨bb, oo + i * 11, none⟩) from e5)
            clear hK hC hW hL HV s0 s1 s2 f7 f8
            rw [HFR.out]
            rw [e5]
            clear e5
            have HWD := Lib.hid (HRX.out W hB.2.2.2.2.2.2)
            clear hB
            refine wpList_load_hd rfl (.tmp 59) rfl bb (oo + i * 11) q rfl HWD.out ?_
            show K _ _
            have := H.out _ (Ext.refl _)
            rw [HFR.out] at this
            obtain u5 := HU.out
            rw [u5] at this
            exact this
          · rintro L A W K hL hC hW ⟨V, rfl, HV, s0, s1, s2, f7, f8⟩ hK
            have e6 : V 6 = .agg (hdc q) := HV 6 _ rfl (hW 6 rfl)
            have H := Lib.hid (show ∀ v W', Ext W W' → (PlH q W' v) → K (fr (upd V 7 v)) W' from fun v W' he hp => hK _ _ ⟨upd V 7 v, rfl, HV.up 7 _ (fun x hx => absurd hx (by intro h; cases h)), fun h0 => PuM.ext (s0 (by unfold More at h0; rwa [if_neg (by decide)] at h0)) he, fun h0 h1 => PuM.ext (s1 (more_ne h0 rfl) (by unfold More at h1; rwa [if_neg (by decide)] at h1)) he, fun h0 => PuE.ext (s2 (more_ne h0 rfl)) he, fun h0 h1 => hp, fun h0 h1 => SlG.ext (f8 (by unfold More at h0; rwa [if_neg (by decide)] at h0) (more_ne h1 rfl)) he⟩)
            have HU := Lib.hid (show ∀ v, (upd V 7 v) 6 = .agg (hdc q) from fun v => e6)
            clear hK hC hW hL HV s0 s1 s2 f7 f8
            rw [HFR.out]
            rw [e6]
            clear e6
            refine wpList_build_one rfl (.tmp 60) 86 97 rfl Try.underlying86 _ 11 88 hdinfo3 (by decide) (by decide) (hdc q) rfl rfl ?_
            show K _ _
            have := H.out (.slice (some ⟨W.heap.size, 0, none⟩) 1 1) _ ((Ext.refl W).alloc (.cells (hdc q) 97)) (⟨_, rfl, Cs.new _ _ _ _ rfl⟩)
            rw [HFR.out] at this
            obtain u6 := HU.out _
            rw [u6] at this
            exact this
          · rintro L A W K hL hC hW ⟨V, rfl, HV, s0, s1, s2, f7, f8⟩ hK
            have e1 : V 1 = .slice A9 (outP l h i).length c9 := HV 1 _ rfl (hW 1 rfl)
            have hB := s0 hL
            have q7 := f7 hL (hW 7 rfl)
            obtain ⟨g7, e7, k7⟩ := q7
            have H := Lib.hid (show ∀ v W', (PuM lo g2 g3 g4 g6 w (.slice (some ⟨bb, oo, none⟩) l.length c1) h (.slice A9 (outP l h i).length c9) v (outP l h i ++ [q]) W') → (SlG ((outP l h i).length + 1) W' v) → K (fr (upd V 8 v)) W' from fun v W' hA hp => hK _ _ ⟨upd V 8 v, rfl, HV.up 8 _ (fun x hx => absurd hx (by intro h; cases h)), fun h0 => absurd h0 (by unfold More; rw [if_pos rfl]; simp), fun h0 h1 => hA, fun h0 => absurd (more_ne h0 rfl) (by rw [(hC.no hL 10 _ rfl rfl)]; simp), fun h0 h1 => absurd h0 (by unfold More; rw [if_pos rfl]; simp), fun h0 h1 => hp⟩)
            have HU := Lib.hid (show ∀ v, (upd V 8 v) 1 = .slice A9 (outP l h i).length c9 ∧ (upd V 8 v) 7 = .slice (some ⟨g7, 0, none⟩) 1 1 from fun v => ⟨e1, e7⟩)
            clear hK hC hW hL HV s0 s1 s2 f7 f8
            rw [HFR.out]
            rw [e1, e7]
            clear e1 e7
            have HB := Lib.hid hB
            have K3 := Lib.hid k7
            clear hB k7
            refine wpList_append_row rfl (.tmp 55) (.tmp 61) 86 rfl lo 97 Try.underlying86 _ 11 88 hdinfo3 rfl (by decide) (.slice A9 (outP l h i).length c9) (outP l h i).length (hdf (outP l h i)) rfl HB.out.2.1.1 (.slice (some ⟨g7, 0, none⟩) 1 1) 1 (hdc q).toList rfl (rs_hd1 K3.out) (hdc_ones2 q) HLN.out (by decide) HB.out.1.2.2.2.2.2 ?_
            intro v5 w5 o5 g5' b5
            have HO5 := Lib.hid (OwnH.add HB.out.2.1.2 HQO.out o5)
            have HA := Lib.hid (HB.out.app g5' HO5.out)
            have HP : Hid (SlG ((outP l h i).length + 1) w5 v5) := Lib.hid (by obtain ⟨A, c, e, _⟩ := HO5.out.sl; exact ⟨A, c, by rw [e, List.length_append, List.length_singleton]⟩)
            clear o5 g5' b5
            show K _ _
            have := H.out _ _ HA.out HP.out
            rw [HFR.out] at this
            obtain ⟨u1, u7⟩ := HU.out _
            rw [u1, u7] at this
            exact this
          · rintro L A W K hL hC hW ⟨V, rfl, HV, s0, s1, s2, f7, f8⟩ hK
            have H := Lib.hid (show ∀ W', Ext W W' → K (fr (upd V 9 (.pointer (some ⟨g6, 0, none⟩)))) W' from fun W' he => hK _ _ ⟨upd V 9 (.pointer (some ⟨g6, 0, none⟩)), rfl, HV.up 9 _ (fun x hx => Option.some.inj hx), fun h0 => PuM.ext (s0 (by unfold More at h0; rwa [if_neg (by decide)] at h0)) he, fun h0 h1 => PuM.ext (s1 (more_ne h0 rfl) (by unfold More at h1; rwa [if_neg (by decide)] at h1)) he, fun h0 => PuE.ext (s2 (more_ne h0 rfl)) he, fun h0 h1 => PlH.ext (f7 (by unfold More at h0; rwa [if_neg (by decide)] at h0) (more_ne h1 rfl)) he, fun h0 h1 => SlG.ext (f8 (by unfold More at h0; rwa [if_neg (by decide)] at h0) (more_ne h1 rfl)) he⟩)
            clear hK hC hW hL HV s0 s1 s2 f7 f8
            rw [HFR.out]
            go_wp2_with fail
            show K _ _
            have := H.out _ (Ext.refl _)
            rw [HFR.out] at this
            exact this
          · rintro L A W K hL hC hW ⟨V, rfl, HV, s0, s1, s2, f7, f8⟩ hK
            have e9 : V 9 = .pointer (some ⟨g6, 0, none⟩) := HV 9 _ rfl (hW 9 rfl)
            have hB := s1 (hW 8 rfl) hL
            have q8 := f8 hL (hW 8 rfl)
            obtain ⟨A8, c8, e8⟩ := q8
            have H := Lib.hid (show ∀ W', (PuE lo g2 g3 g4 g6 w (.slice (some ⟨bb, oo, none⟩) l.length c1) h (outP l h i ++ [q]) W') → K (fr (V)) W' from fun W' hA => hK _ _ ⟨V, rfl, HV.st 10 rfl, fun h0 => absurd (show L 8 = false by unfold More at h0; rwa [if_neg (by decide)] at h0) (by rw [(hW 8 rfl)]; simp), fun h0 h1 => absurd h1 (by unfold More; rw [if_pos rfl]; simp), fun h0 => hA, fun h0 h1 => absurd (show L 8 = false by unfold More at h0; rwa [if_neg (by decide)] at h0) (by rw [(hW 8 rfl)]; simp), fun h0 h1 => absurd h0 (by unfold More; rw [if_pos rfl]; simp)⟩)
            have HU := Lib.hid (show (V) 9 = .pointer (some ⟨g6, 0, none⟩) ∧ (V) 8 = .slice A8 ((outP l h i).length + 1) c8 from ⟨e9, e8⟩)
            clear hK hC hW hL HV s0 s1 s2 f7 f8
            rw [HFR.out]
            rw [e9, e8]
            clear e9 e8
            have HB := Lib.hid hB
            have hc := hB.2.2.1.cell 0 _ rfl
            have hf : W.frozen? ⟨g6, 0, none⟩ = false := hB.2.2.1.frozen 0
            clear hB
            go_wp2_with fail
            have HA : Hid (PuE lo g2 g3 g4 g6 w (.slice (some ⟨bb, oo, none⟩) l.length c1) h (outP l h i ++ [q]) (W.setCell ⟨g6, 0, none⟩ (.slice A8 ((outP l h i).length + 1) c8))) := Lib.hid ⟨_, by have h := HB.out; rw [HU.out.2] at h; exact h.store⟩
            show K _ _
            have := H.out _ HA.out
            rw [HFR.out] at this
            obtain ⟨u9, u8⟩ := HU.out
            rw [u9, u8] at this
            exact this
          · rintro L A W hL ⟨V, rfl, HV, s0, s1, s2, f7, f8⟩
            have e0 : V 0 = .pointer (some ⟨g6, 0, none⟩) := HV 0 _ rfl (hL 0 (by simp))
            have e1 : V 1 = .slice A9 (outP l h i).length c9 := HV 1 _ rfl (hL 1 (by simp))
            have e2 : V 2 = .pointer (some ⟨g2, 0, none⟩) := HV 2 _ rfl (hL 2 (by simp))
            have e3 : V 3 = .slice (some ⟨bb, oo, none⟩) l.length c1 := HV 3 _ rfl (hL 3 (by simp))
            have e4 : V 4 = .int .i64 i := HV 4 _ rfl (hL 4 (by simp))
            have e5 : V 5 = .pointer (some ⟨bb, oo + i * 11, none⟩) := HV 5 _ rfl (hL 5 (by simp))
            have e6 : V 6 = .agg (hdc q) := HV 6 _ rfl (hL 6 (by simp))
            have e9 : V 9 = .pointer (some ⟨g6, 0, none⟩) := HV 9 _ rfl (hL 9 (by simp))
            have hA := s2 (hL 10 (by simp))
            rw [HFR.out]
            rw [e0, e1, e2, e3, e4, e5, e6, e9]
            clear hL HV HFR e0 e1 e2 e3 e4 e5 e6 e9 s0 s1 s2 f7 f8
            have HA4 := Lib.hid hA
            clear hA
            go_wp2_with fail
            exact ⟨⟨i + 1, by omega, by go_num, by rw [HC.out.2], Lib.hid (by rw [HC.out.1]; exact HA4.out)⟩, by simp [intOf]; omega⟩
      by_cases hc2 : q.addr = h.addr
      · have HC0 := Lib.hid (HEQ.out hc2)
        cases hl : laidP l h i with
        | true =>
          have HC := Lib.hid (show outP l h (i + 1) = outP l h i ∧ laidP l h (i + 1) = true from ⟨by rw [HC0.out.1, hl]; rfl, HC0.out.2⟩)
          clear hl HC0
          have qL := HJ.out.2.2.2.1.cell 0 _ rfl
          have qh := Hb.addr HJ.out.2.2.2.2.1
          have qq := hd_addr (HRX.out wr HJ.out.2.2.2.2.2.2)
          have m1 : decide ((q.addr : Int) ≥ (h.addr : Int)) = true := decide_eq_true (by omega)
          have m2 : decide ((h.addr : Int) ≤ (q.addr : Int)) = true := decide_eq_true (by omega)
          have m3 : decide (h.addr ≤ q.addr) = true := decide_eq_true (by omega)
          go_upto_region 6 with fail
          go_quiet (fail)
          have HJ6 := Lib.hid (HJ.out.ext (Ext.drewN (Ext.refl _) nq))
          clear qL qh qq m1 m2 m3 HJ
          obtain ⟨wz, hwz⟩ : ∃ wz, wr.drewN nq = wz := ⟨_, rfl⟩
          rw [hwz] at HJ6 ⊢
          clear hwz nq
          have qL := HJ6.out.2.2.2.1.cell 0 _ rfl
          have qh := Hb.addr HJ6.out.2.2.2.2.1
          have qq := hd_addr (HRX.out wz HJ6.out.2.2.2.2.2.2)
          have n1 : ((q.addr : Int) != (h.addr : Int)) = false := by rw [bne_eq_false_iff_eq]; omega
          have n2 : (q.addr != h.addr) = false := by rw [bne_eq_false_iff_eq]; omega
          have n3 : ((q.addr : Int) == (h.addr : Int)) = true := by rw [beq_iff_eq]; omega
          have n4 : (q.addr == h.addr) = true := by rw [beq_iff_eq]; omega
          go_upto_region 9 with fail
          go_quiet (fail)
          have HJq := Lib.hid (HJ6.out.ext (Ext.drewN (Ext.refl _) nq))
          clear qL qh qq
          go_wp2_with fail
          exact ⟨⟨i + 1, by omega, by go_num, by rw [HC.out.2], Lib.hid (by rw [HC.out.1]; exact ⟨_, HJq.out⟩)⟩, by simp [intOf]; omega⟩
        | false =>
          have HC := Lib.hid (show outP l h (i + 1) = outP l h i ++ [h] ∧ laidP l h (i + 1) = true from ⟨by rw [HC0.out.1, hl]; rfl, HC0.out.2⟩)
          clear hl HC0
          have qL := HJ.out.2.2.2.1.cell 0 _ rfl
          have qh := Hb.addr HJ.out.2.2.2.2.1
          have qq := hd_addr (HRX.out wr HJ.out.2.2.2.2.2.2)
          have m1 : decide ((q.addr : Int) ≥ (h.addr : Int)) = true := decide_eq_true (by omega)
          have m2 : decide ((h.addr : Int) ≤ (q.addr : Int)) = true := decide_eq_true (by omega)
          have m3 : decide (h.addr ≤ q.addr) = true := decide_eq_true (by omega)
          go_upto_region 6 with fail
          go_quiet (fail)
          have HJ6 := Lib.hid (HJ.out.ext (Ext.drewN (Ext.refl _) nq))
          clear qL qh qq m1 m2 m3 HJ
          obtain ⟨wz, hwz⟩ : ∃ wz, wr.drewN nq = wz := ⟨_, rfl⟩
          rw [hwz] at HJ6 ⊢
          clear hwz nq
          obtain ⟨A7, c7, e7, _, _⟩ := HJ6.out.2.1.sl
          rw [e7] at HJ6
          clear e7
          have q7 := HJ6.out.2.2.1.cell 0 _ rfl
          go_upto_region 8 with (first
            | ((with_reducible refine wpList_load_hd ?_ (.tmp 3) ?_ g3 0 h ?_ ?_ ?_); (exact rfl); (exact rfl); (exact rfl); (exact Cs.rg HJ6.out.2.2.2.2.1))
            | ((with_reducible refine wpList_build_one ?_ (.tmp 41) 86 97 ?_ Try.underlying86 _ 11 88 hdinfo3 (by decide) (by decide) (hdc h) rfl ?_ ?_); (exact rfl); (exact rfl); (exact rfl))
            | (at_builtin; refine wpList_append_row ?_ (.tmp 40) (.tmp 42) 86 rfl lo 97 Try.underlying86 _ 11 88 hdinfo3 rfl (by decide) (.slice A7 (outP l h i).length c7) (outP l h i).length (hdf (outP l h i)) rfl (own_ext HJ6.out.2.1.1 ((Ext.refl _).alloc _)) (.slice (some ⟨wz.heap.size, 0, none⟩) 1 1) 1 (hdc h).toList rfl (rs_hd1 (Cs.new _ _ _ _ rfl)) (hdc_ones2 h) HLN.out (by decide) (Nat.le_trans HJ6.out.1.2.2.2.2.2 (by rw [World.size_alloc]; exact Nat.le_succ _)) ?_; (exact rfl); intro v7 w7 o7 g7 b7; have O7 := Lib.hid (OwnH.add HJ6.out.2.1.2 HHO.out o7); have J7 := Lib.hid ((HJ6.out.ext ((Ext.refl _).alloc (.cells (hdc h) 97))).app g7 O7.out); clear o7 g7 b7; obtain ⟨A8, c8, e8, _, _⟩ := O7.out.sl; subst e8; have q8 := J7.out.2.2.1.cell 0 _ rfl; have f8 : w7.frozen? ⟨g6, 0, none⟩ = false := J7.out.2.2.1.frozen 0))
          have HJ8 := Lib.hid J7.out.store
          clear q7 q8 f8 J7 O7 HJ6
          obtain ⟨LL, hLL⟩ : ∃ LL, (outP l h i) ++ [h] = LL := ⟨_, rfl⟩
          have hLn : (outP l h i).length + 1 = LL.length := by rw [← hLL, List.length_append, List.length_singleton]
          rw [hLn]
          rw [hLL] at HJ8 HC HLN2
          obtain ⟨wy, hwy⟩ : ∃ wy, w7.setCell ⟨g6, 0, none⟩ (.slice A8 LL.length c8) = wy := ⟨_, rfl⟩
          rw [hwy] at HJ8 ⊢
          clear hwy hLn hLL
          have qL := HJ8.out.2.2.2.1.cell 0 _ rfl
          have qh := Hb.addr HJ8.out.2.2.2.2.1
          have qq := hd_addr (HRX.out wy HJ8.out.2.2.2.2.2.2)
          have n1 : ((q.addr : Int) != (h.addr : Int)) = false := by rw [bne_eq_false_iff_eq]; omega
          have n2 : (q.addr != h.addr) = false := by rw [bne_eq_false_iff_eq]; omega
          have n3 : ((q.addr : Int) == (h.addr : Int)) = true := by rw [beq_iff_eq]; omega
          have n4 : (q.addr == h.addr) = true := by rw [beq_iff_eq]; omega
          go_upto_region 9 with fail
          go_quiet (fail)
          have HJq := Lib.hid (HJ8.out.ext (Ext.drewN (Ext.refl _) nq))
          clear qL qh qq
          go_wp2_with fail
          exact ⟨⟨i + 1, by omega, by go_num, by rw [HC.out.2], Lib.hid (by rw [HC.out.1]; exact ⟨_, HJq.out⟩)⟩, by simp [intOf]; omega⟩
      · have HC0 := Lib.hid (HGT.out (by omega))
        cases hl : laidP l h i with
        | true =>
          have HC := Lib.hid (show outP l h (i + 1) = outP l h i ++ [q] ∧ laidP l h (i + 1) = true from ⟨by rw [HC0.out.1, hl]; rfl, HC0.out.2⟩)
          clear hl HC0
          have qL := HJ.out.2.2.2.1.cell 0 _ rfl
          have qh := Hb.addr HJ.out.2.2.2.2.1
          have qq := hd_addr (HRX.out wr HJ.out.2.2.2.2.2.2)
          have m1 : decide ((q.addr : Int) ≥ (h.addr : Int)) = true := decide_eq_true (by omega)
          have m2 : decide ((h.addr : Int) ≤ (q.addr : Int)) = true := decide_eq_true (by omega)
          have m3 : decide (h.addr ≤ q.addr) = true := decide_eq_true (by omega)
          go_upto_region 6 with fail
          go_quiet (fail)
          have HJ6 := Lib.hid (HJ.out.ext (Ext.drewN (Ext.refl _) nq))
          clear qL qh qq m1 m2 m3 HJ
          obtain ⟨wz, hwz⟩ : ∃ wz, wr.drewN nq = wz := ⟨_, rfl⟩
          rw [hwz] at HJ6 ⊢
          clear hwz nq
          have qL := HJ6.out.2.2.2.1.cell 0 _ rfl
          have qh := Hb.addr HJ6.out.2.2.2.2.1
          have qq := hd_addr (HRX.out wz HJ6.out.2.2.2.2.2.2)
          have n1 : ((q.addr : Int) != (h.addr : Int)) = true := by rw [bne_iff_ne]; omega
          have n2 : (q.addr != h.addr) = true := by rw [bne_iff_ne]; omega
          have n3 : ((q.addr : Int) == (h.addr : Int)) = false := by rw [beq_eq_false_iff_ne]; omega
          have n4 : (q.addr == h.addr) = false := by rw [beq_eq_false_iff_ne]; omega
          go_upto_region 9 with fail
          go_quiet (fail)
          have HJq := Lib.hid (HJ6.out.ext (Ext.drewN (Ext.refl _) nq))
          clear qL qh qq
          go_upto_region 10 with fail
          clear n1 n2 n3 n4
          obtain ⟨A9, c9, e9, _, _⟩ := HJq.out.2.1.sl
          rw [e9] at HJq
          clear e9
          refine wp_named fun a0 ha0 => ?_
          obtain ⟨fr, hfr⟩ : ∃ fr : (Nat → Value) → Act, ∀ V, fr V = ((((((((((a0.put (some 54) (V 0)).put (some 55) (V 1)).put (some 56) (V 2)).put (some 57) (V 3)).put (some 58) (V 4)).put (some 59) (V 5)).put (some 60) (V 6)).put (some 61) (V 7)).put (some 62) (V 8)).put (some 63) (V 9)) := ⟨fun V => ((((((((((a0.put (some 54) (V 0)).put (some 55) (V 1)).put (some 56) (V 2)).put (some 57) (V 3)).put (some 58) (V 4)).put (some 59) (V 5)).put (some 60) (V 6)).put (some 61) (V 7)).put (some 62) (V 8)).put (some 63) (V 9)), fun _ => rfl⟩
          rw [ha0] at hfr
          simp only [Act.put, List.setIfInBounds_toArray, List.set_cons_zero, List.set_cons_succ] at hfr
          have HFR := Lib.hid hfr
          clear hfr
          refine wp_region_inv (by kernel_rfl) (by kernel_rfl) (fun L A W => ∃ V : Nat → Value, A = fr V ∧ Vals (fun j => ([some (.pointer (some ⟨g6, 0, none⟩)), some (.slice A9 (outP l h i).length c9), some (.pointer (some ⟨g2, 0, none⟩)), some (.slice (some ⟨bb, oo, none⟩) l.length c1), some (.int .i64 i), some (.pointer (some ⟨bb, oo + i * 11, none⟩)), some (.agg (hdc q)), none, none, some (.pointer (some ⟨g6, 0, none⟩)), none] : List (Option Value)).getD j none) L V ∧ (L 8 = false → PuM lo g2 g3 g4 g6 w (.slice (some ⟨bb, oo, none⟩) l.length c1) h (.slice A9 (outP l h i).length c9) (.slice A9 (outP l h i).length c9) (outP l h i) W) ∧ (L 8 = true → L 10 = false → PuM lo g2 g3 g4 g6 w (.slice (some ⟨bb, oo, none⟩) l.length c1) h (.slice A9 (outP l h i).length c9) (V 8) (outP l h i ++ [q]) W) ∧ (L 10 = true → PuE lo g2 g3 g4 g6 w (.slice (some ⟨bb, oo, none⟩) l.length c1) h (outP l h i ++ [q]) W) ∧ (L 8 = false → L 7 = true → PlH q W (V 7)) ∧ (L 10 = false → L 8 = true → SlG ((outP l h i).length + 1) W (V 8))) ?_ ⟨?_, ?_, ?_, ?_, ?_, ?_, ?_, ?_, ?_, ?_, ?_, trivial⟩ ?_
          · refine ⟨fun j => a0.tmps.getD (([54, 55, 56, 57, 58, 59, 60, 61, 62, 63, 0] : List Nat).getD j 0) undef, ?_, Vals.no _ _ _ (far_none _ _ rfl), fun _ => HJq.out.ext (Ext.refl _).drew, fun h0 h1 => absurd h0 (by decide), fun h0 => absurd h0 (by decide), fun h0 h1 => absurd h1 (by decide), fun h0 h1 => absurd h1 (by decide)⟩
            rw [HFR.out, ha0]
            rfl
          all_goals clear ha0
          · rintro L A W K hL hC hW ⟨V, rfl, HV, s0, s1, s2, f7, f8⟩ hK
            have H := Lib.hid (show ∀ W', Ext W W' → K (fr (upd V 0 (.pointer (some ⟨g6, 0, none⟩)))) W' from fun W' he => hK _ _ ⟨upd V 0 (.pointer (some ⟨g6, 0, none⟩)), rfl, HV.up 0 _ (fun x hx => Option.some.inj hx), fun h0 => PuM.ext (s0 (by unfold More at h0; rwa [if_neg (by decide)] at h0)) he, fun h0 h1 => PuM.ext (s1 (more_ne h0 rfl) (by unfold More at h1; rwa [if_neg (by decide)] at h1)) he, fun h0 => PuE.ext (s2 (more_ne h0 rfl)) he, fun h0 h1 => PlH.ext (f7 (by unfold More at h0; rwa [if_neg (by decide)] at h0) (more_ne h1 rfl)) he, fun h0 h1 => SlG.ext (f8 (by unfold More at h0; rwa [if_neg (by decide)] at h0) (more_ne h1 rfl)) he⟩)
            clear hK hC hW hL HV s0 s1 s2 f7 f8
            rw [HFR.out]
            go_wp2_with fail
            show K _ _
            have := H.out _ (Ext.refl _)
            rw [HFR.out] at this
            exact this
          · rintro L A W K hL hC hW ⟨V, rfl, HV, s0, s1, s2, f7, f8⟩ hK
            have e0 : V 0 = .pointer (some ⟨g6, 0, none⟩) := HV 0 _ rfl (hW 0 rfl)
            have hB := s0 (hC.no hL 8 _ rfl rfl)
            have H := Lib.hid (show ∀ W', Ext W W' → K (fr (upd V 1 (.slice A9 (outP l h i).length c9))) W' from fun W' he => hK _ _ ⟨upd V 1 (.slice A9 (outP l h i).length c9), rfl, HV.up 1 _ (fun x hx => Option.some.inj hx), fun h0 => PuM.ext (s0 (by unfold More at h0; rwa [if_neg (by decide)] at h0)) he, fun h0 h1 => PuM.ext (s1 (more_ne h0 rfl) (by unfold More at h1; rwa [if_neg (by decide)] at h1)) he, fun h0 => PuE.ext (s2 (more_ne h0 rfl)) he, fun h0 h1 => PlH.ext (f7 (by unfold More at h0; rwa [if_neg (by decide)] at h0) (more_ne h1 rfl)) he, fun h0 h1 => SlG.ext (f8 (by unfold More at h0; rwa [if_neg (by decide)] at h0) (more_ne h1 rfl)) he⟩)
            have HU := Lib.hid (show (upd V 1 (.slice A9 (outP l h i).length c9)) 0 = .pointer (some ⟨g6, 0, none⟩) from e0)
            clear hK hC hW hL HV s0 s1 s2 f7 f8
            rw [HFR.out]
            rw [e0]
            clear e0
            have hcl := hB.2.2.1.cell 0 _ rfl
            clear hB
            go_wp2_with fail
            show K _ _
            have := H.out _ (Ext.refl _)
            rw [HFR.out] at this
            obtain u0 := HU.out
            rw [u0] at this
            exact this
          · rintro L A W K hL hC hW ⟨V, rfl, HV, s0, s1, s2, f7, f8⟩ hK
            have H := Lib.hid (show ∀ W', Ext W W' → K (fr (upd V 2 (.pointer (some ⟨g2, 0, none⟩)))) W' from fun W' he => hK _ _ ⟨upd V 2 (.pointer (some ⟨g2, 0, none⟩)), rfl, HV.up 2 _ (fun x hx => Option.some.inj hx), fun h0 => PuM.ext (s0 (by unfold More at h0; rwa [if_neg (by decide)] at h0)) he, fun h0 h1 => PuM.ext (s1 (more_ne h0 rfl) (by unfold More at h1; rwa [if_neg (by decide)] at h1)) he, fun h0 => PuE.ext (s2 (more_ne h0 rfl)) he, fun h0 h1 => PlH.ext (f7 (by unfold More at h0; rwa [if_neg (by decide)] at h0) (more_ne h1 rfl)) he, fun h0 h1 => SlG.ext (f8 (by unfold More at h0; rwa [if_neg (by decide)] at h0) (more_ne h1 rfl)) he⟩)
            clear hK hC hW hL HV s0 s1 s2 f7 f8
            rw [HFR.out]
            go_wp2_with fail
            show K _ _
            have := H.out _ (Ext.refl _)
            rw [HFR.out] at this
            exact this
          · rintro L A W K hL hC hW ⟨V, rfl, HV, s0, s1, s2, f7, f8⟩ hK
            have e2 : V 2 = .pointer (some ⟨g2, 0, none⟩) := HV 2 _ rfl (hW 2 rfl)
            have hB := s0 (hC.no (hC.no (hC.no (hC.no hL 5 _ rfl rfl) 6 _ rfl rfl) 7 _ rfl rfl) 8 _ rfl rfl)
            have H := Lib.hid (show ∀ W', Ext W W' → K (fr (upd V 3 (.slice (some ⟨bb, oo, none⟩) l.length c1))) W' from fun W' he => hK _ _ ⟨upd V 3 (.slice (some ⟨bb, oo, none⟩) l.length c1), rfl, HV.up 3 _ (fun x hx => Option.some.inj hx), fun h0 => PuM.ext (s0 (by unfold More at h0; rwa [if_neg (by decide)] at h0)) he, fun h0 h1 => PuM.ext (s1 (more_ne h0 rfl) (by unfold More at h1; rwa [if_neg (by decide)] at h1)) he, fun h0 => PuE.ext (s2 (more_ne h0 rfl)) he, fun h0 h1 => PlH.ext (f7 (by unfold More at h0; rwa [if_neg (by decide)] at h0) (more_ne h1 rfl)) he, fun h0 h1 => SlG.ext (f8 (by unfold More at h0; rwa [if_neg (by decide)] at h0) (more_ne h1 rfl)) he⟩)
            have HU := Lib.hid (show (upd V 3 (.slice (some ⟨bb, oo, none⟩) l.length c1)) 2 = .pointer (some ⟨g2, 0, none⟩) from e2)
            clear hK hC hW hL HV s0 s1 s2 f7 f8
            rw [HFR.out]
            rw [e2]
            clear e2
            have hcl := hB.2.2.2.1.cell 0 _ rfl
            clear hB
            go_wp2_with fail
            show K _ _
            have := H.out _ (Ext.refl _)
            rw [HFR.out] at this
            obtain u2 := HU.out
            rw [u2] at this
            exact this
          · rintro L A W K hL hC hW ⟨V, rfl, HV, s0, s1, s2, f7, f8⟩ hK
            have H := Lib.hid (show ∀ W', Ext W W' → K (fr (upd V 4 (.int .i64 i))) W' from fun W' he => hK _ _ ⟨upd V 4 (.int .i64 i), rfl, HV.up 4 _ (fun x hx => Option.some.inj hx), fun h0 => PuM.ext (s0 (by unfold More at h0; rwa [if_neg (by decide)] at h0)) he, fun h0 h1 => PuM.ext (s1 (more_ne h0 rfl) (by unfold More at h1; rwa [if_neg (by decide)] at h1)) he, fun h0 => PuE.ext (s2 (more_ne h0 rfl)) he, fun h0 h1 => PlH.ext (f7 (by unfold More at h0; rwa [if_neg (by decide)] at h0) (more_ne h1 rfl)) he, fun h0 h1 => SlG.ext (f8 (by unfold More at h0; rwa [if_neg (by decide)] at h0) (more_ne h1 rfl)) he⟩)
            clear hK hC hW hL HV s0 s1 s2 f7 f8
            rw [HFR.out]
            go_wp2_with fail
            show K _ _
            have := H.out _ (Ext.refl _)
            rw [HFR.out] at this
            exact this
          · rintro L A W K hL hC hW ⟨V, rfl, HV, s0, s1, s2, f7, f8⟩ hK
            have e3 : V 3 = .slice (some ⟨bb, oo, none⟩) l.length c1 := HV 3 _ rfl (hW 3 rfl)
            have e4 : V 4 = .int .i64 i := HV 4 _ rfl (hW 4 rfl)
            have H := Lib.hid (show ∀ W', Ext W W' → K (fr (upd V 5 (.pointer (some ⟨bb, oo + i * 11, none⟩)))) W' from fun W' he => hK _ _ ⟨upd V 5 (.pointer (some ⟨bb, oo + i * 11, none⟩)), rfl, HV.up 5 _ (fun x hx => Option.some.inj hx), fun h0 => PuM.ext (s0 (by unfold More at h0; rwa [if_neg (by decide)] at h0)) he, fun h0 h1 => PuM.ext (s1 (more_ne h0 rfl) (by unfold More at h1; rwa [if_neg (by decide)] at h1)) he, fun h0 => PuE.ext (s2 (more_ne h0 rfl)) he, fun h0 h1 => PlH.ext (f7 (by unfold More at h0; rwa [if_neg (by decide)] at h0) (more_ne h1 rfl)) he, fun h0 h1 => SlG.ext (f8 (by unfold More at h0; rwa [if_neg (by decide)] at h0) (more_ne h1 rfl)) he⟩)
            have HU := Lib.hid (show (upd V 5 (.pointer (some ⟨bb, oo + i * 11, none⟩))) 3 = .slice (some ⟨bb, oo, none⟩) l.length c1 ∧ (upd V 5 (.pointer (some ⟨bb, oo + i * 11, none⟩))) 4 = .int .i64 i from ⟨e3, e4⟩)
            clear hK hC hW hL HV s0 s1 s2 f7 f8
            rw [HFR.out]
            rw [e3, e4]
            clear e3 e4
            go_wp2_with fail
            show K _ _
            have := H.out _ (Ext.refl _)
            rw [HFR.out] at this
            obtain ⟨u3, u4⟩ := HU.out
            rw [u3, u4] at this
            exact this
          · rintro L A W K hL hC hW ⟨V, rfl, HV, s0, s1, s2, f7, f8⟩ hK
            have e5 : V 5 = .pointer (some ⟨bb, oo + i * 11, none⟩) := HV 5 _ rfl (hW 5 rfl)
            have hB := s0 (hC.no (hC.no hL 7 _ rfl rfl) 8 _ rfl rfl)
            have H := Lib.hid (show ∀ W', Ext W W' → K (fr (upd V 6 (.agg (hdc q)))) W' from fun W' he => hK _ _ ⟨upd V 6 (.agg (hdc q)), rfl, HV.up 6 _ (fun x hx => Option.some.inj hx), fun h0 => PuM.ext (s0 (by unfold More at h0; rwa [if_neg (by decide)] at h0)) he, fun h0 h1 => PuM.ext (s1 (more_ne h0 rfl) (by unfold More at h1; rwa [if_neg (by decide)] at h1)) he, fun h0 => PuE.ext (s2 (more_ne h0 rfl)) he, fun h0 h1 => PlH.ext (f7 (by unfold More at h0; rwa [if_neg (by decide)] at h0) (more_ne h1 rfl)) he, fun h0 h1 => SlG.ext (f8 (by unfold More at h0; rwa [if_neg (by decide)] at h0) (more_ne h1 rfl)) he⟩)
            have HU := Lib.hid (show (upd V 6 (.agg (hdc q))) 5 = .pointer (some ⟨bb, oo + i * 11, none⟩) from e5)
            clear hK hC hW hL HV s0 s1 s2 f7 f8
            rw [HFR.out]
            rw [e5]
            clear e5
            have HWD := Lib.hid (HRX.out W hB.2.2.2.2.2.2)
            clear hB
            refine wpList_load_hd rfl (.tmp 59) rfl bb (oo + i * 11) q rfl HWD.out ?_
            show K _ _
            have := H.out _ (Ext.refl _)
            rw [HFR.out] at this
            obtain u5 := HU.out
            rw [u5] at this
            exact this
          · rintro L A W K hL hC hW ⟨V, rfl, HV, s0, s1, s2, f7, f8⟩ hK
            have e6 : V 6 = .agg (hdc q) := HV 6 _ rfl (hW 6 rfl)
            have H := Lib.hid (show ∀ v W', Ext W W' → (PlH q W' v) → K (fr (upd V 7 v)) W' from fun v W' he hp => hK _ _ ⟨upd V 7 v, rfl, HV.up 7 _ (fun x hx => absurd hx (by intro h; cases h)), fun h0 => PuM.ext (s0 (by unfold More at h0; rwa [if_neg (by decide)] at h0)) he, fun h0 h1 => PuM.ext (s1 (more_ne h0 rfl) (by unfold More at h1; rwa [if_neg (by decide)] at h1)) he, fun h0 => PuE.ext (s2 (more_ne h0 rfl)) he, fun h0 h1 => hp, fun h0 h1 => SlG.ext (f8 (by unfold More at h0; rwa [if_neg (by decide)] at h0) (more_ne h1 rfl)) he⟩)
            have HU := Lib.hid (show ∀ v, (upd V 7 v) 6 = .agg (hdc q) from fun v => e6)
            clear hK hC hW hL HV s0 s1 s2 f7 f8
            rw [HFR.out]
            rw [e6]
            clear e6
            refine wpList_build_one rfl (.tmp 60) 86 97 rfl Try.underlying86 _ 11 88 hdinfo3 (by decide) (by decide) (hdc q) rfl rfl ?_
            show K _ _
            have := H.out (.slice (some ⟨W.heap.size, 0, none⟩) 1 1) _ ((Ext.refl W).alloc (.cells (hdc q) 97)) (⟨_, rfl, Cs.new _ _ _ _ rfl⟩)
            rw [HFR.out] at this
            obtain u6 := HU.out _
            rw [u6] at this
            exact this
          · rintro L A W K hL hC hW ⟨V, rfl, HV, s0, s1, s2, f7, f8⟩ hK
            have e1 : V 1 = .slice A9 (outP l h i).length c9 := HV 1 _ rfl (hW 1 rfl)
            have hB := s0 hL
            have q7 := f7 hL (hW 7 rfl)
            obtain ⟨g7, e7, k7⟩ := q7
            have H := Lib.hid (show ∀ v W', (PuM lo g2 g3 g4 g6 w (.slice (some ⟨bb, oo, none⟩) l.length c1) h (.slice A9 (outP l h i).length c9) v (outP l h i ++ [q]) W') → (SlG ((outP l h i).length + 1) W' v) → K (fr (upd V 8 v)) W' from fun v W' hA hp => hK _ _ ⟨upd V 8 v, rfl, HV.up 8 _ (fun x hx => absurd hx (by intro h; cases h)), fun h0 => absurd h0 (by unfold More; rw [if_pos rfl]; simp), fun h0 h1 => hA, fun h0 => absurd (more_ne h0 rfl) (by rw [(hC.no hL 10 _ rfl rfl)]; simp), fun h0 h1 => absurd h0 (by unfold More; rw [if_pos rfl]; simp), fun h0 h1 => hp⟩)
            have HU := Lib.hid (show ∀ v, (upd V 8 v) 1 = .slice A9 (outP l h i).length c9 ∧ (upd V 8 v) 7 = .slice (some ⟨g7, 0, none⟩) 1 1 from fun v => ⟨e1, e7⟩)
            clear hK hC hW hL HV s0 s1 s2 f7 f8
            rw [HFR.out]
            rw [e1, e7]
            clear e1 e7
            have HB := Lib.hid hB
            have K3 := Lib.hid k7
            clear hB k7
            refine wpList_append_row rfl (.tmp 55) (.tmp 61) 86 rfl lo 97 Try.underlying86 _ 11 88 hdinfo3 rfl (by decide) (.slice A9 (outP l h i).length c9) (outP l h i).length (hdf (outP l h i)) rfl HB.out.2.1.1 (.slice (some ⟨g7, 0, none⟩) 1 1) 1 (hdc q).toList rfl (rs_hd1 K3.out) (hdc_ones2 q) HLN.out (by decide) HB.out.1.2.2.2.2.2 ?_
            intro v5 w5 o5 g5' b5
            have HO5 := Lib.hid (OwnH.add HB.out.2.1.2 HQO.out o5)
            have HA := Lib.hid (HB.out.app g5' HO5.out)
            have HP : Hid (SlG ((outP l h i).length + 1) w5 v5) := Lib.hid (by obtain ⟨A, c, e, _⟩ := HO5.out.sl; exact ⟨A, c, by rw [e, List.length_append, List.length_singleton]⟩)
            clear o5 g5' b5
            show K _ _
            have := H.out _ _ HA.out HP.out
            rw [HFR.out] at this
            obtain ⟨u1, u7⟩ := HU.out _
            rw [u1, u7] at this
            exact this
          · rintro L A W K hL hC hW ⟨V, rfl, HV, s0, s1, s2, f7, f8⟩ hK
            have H := Lib.hid (show ∀ W', Ext W W' → K (fr (upd V 9 (.pointer (some ⟨g6, 0, none⟩)))) W' from fun W' he => hK _ _ ⟨upd V 9 (.pointer (some ⟨g6, 0, none⟩)), rfl, HV.up 9 _ (fun x hx => Option.some.inj hx), fun h0 => PuM.ext (s0 (by unfold More at h0; rwa [if_neg (by decide)] at h0)) he, fun h0 h1 => PuM.ext (s1 (more_ne h0 rfl) (by unfold More at h1; rwa [if_neg (by decide)] at h1)) he, fun h0 => PuE.ext (s2 (more_ne h0 rfl)) he, fun h0 h1 => PlH.ext (f7 (by unfold More at h0; rwa [if_neg (by decide)] at h0) (more_ne h1 rfl)) he, fun h0 h1 => SlG.ext (f8 (by unfold More at h0; rwa [if_neg (by decide)] at h0) (more_ne h1 rfl)) he⟩)
            clear hK hC hW hL HV s0 s1 s2 f7 f8
            rw [HFR.out]
            go_wp2_with fail
            show K _ _
            have := H.out _ (Ext.refl _)
            rw [HFR.out] at this
            exact this
          · rintro L A W K hL hC hW ⟨V, rfl, HV, s0, s1, s2, f7, f8⟩ hK
            have e9 : V 9 = .pointer (some ⟨g6, 0, none⟩) := HV 9 _ rfl (hW 9 rfl)
            have hB := s1 (hW 8 rfl) hL
            have q8 := f8 hL (hW 8 rfl)
            obtain ⟨A8, c8, e8⟩ := q8
            have H := Lib.hid (show ∀ W', (PuE lo g2 g3 g4 g6 w (.slice (some ⟨bb, oo, none⟩) l.length c1) h (outP l h i ++ [q]) W') → K (fr (V)) W' from fun W' hA => hK _ _ ⟨V, rfl, HV.st 10 rfl, fun h0 => absurd (show L 8 = false by unfold More at h0; rwa [if_neg (by decide)] at h0) (by rw [(hW 8 rfl)]; simp), fun h0 h1 => absurd h1 (by unfold More; rw [if_pos rfl]; simp), fun h0 => hA, fun h0 h1 => absurd (show L 8 = false by unfold More at h0; rwa [if_neg (by decide)] at h0) (by rw [(hW 8 rfl)]; simp), fun h0 h1 => absurd h0 (by unfold More; rw [if_pos rfl]; simp)⟩)
            have HU := Lib.hid (show (V) 9 = .pointer (some ⟨g6, 0, none⟩) ∧ (V) 8 = .slice A8 ((outP l h i).length + 1) c8 from ⟨e9, e8⟩)
            clear hK hC hW hL HV s0 s1 s2 f7 f8
            rw [HFR.out]
            rw [e9, e8]
            clear e9 e8
            have HB := Lib.hid hB
            have hc := hB.2.2.1.cell 0 _ rfl
            have hf : W.frozen? ⟨g6, 0, none⟩ = false := hB.2.2.1.frozen 0
            clear hB
            go_wp2_with fail
            have HA : Hid (PuE lo g2 g3 g4 g6 w (.slice (some ⟨bb, oo, none⟩) l.length c1) h (outP l h i ++ [q]) (W.setCell ⟨g6, 0, none⟩ (.slice A8 ((outP l h i).length + 1) c8))) := Lib.hid ⟨_, by have h := HB.out; rw [HU.out.2] at h; exact h.store⟩
            show K _ _
            have := H.out _ HA.out
            rw [HFR.out] at this
            obtain ⟨u9, u8⟩ := HU.out
            rw [u9, u8] at this
            exact this
          · rintro L A W hL ⟨V, rfl, HV, s0, s1, s2, f7, f8⟩
            have e0 : V 0 = .pointer (some ⟨g6, 0, none⟩) := HV 0 _ rfl (hL 0 (by simp))
            have e1 : V 1 = .slice A9 (outP l h i).length c9 := HV 1 _ rfl (hL 1 (by simp))
            have e2 : V 2 = .pointer (some ⟨g2, 0, none⟩) := HV 2 _ rfl (hL 2 (by simp))
            have e3 : V 3 = .slice (some ⟨bb, oo, none⟩) l.length c1 := HV 3 _ rfl (hL 3 (by simp))
            have e4 : V 4 = .int .i64 i := HV 4 _ rfl (hL 4 (by simp))
            have e5 : V 5 = .pointer (some ⟨bb, oo + i * 11, none⟩) := HV 5 _ rfl (hL 5 (by simp))
            have e6 : V 6 = .agg (hdc q) := HV 6 _ rfl (hL 6 (by simp))
            have e9 : V 9 = .pointer (some ⟨g6, 0, none⟩) := HV 9 _ rfl (hL 9 (by simp))
            have hA := s2 (hL 10 (by simp))
            rw [HFR.out]
            rw [e0, e1, e2, e3, e4, e5, e6, e9]
            clear hL HV HFR e0 e1 e2 e3 e4 e5 e6 e9 s0 s1 s2 f7 f8
            have HA4 := Lib.hid hA
            clear hA
            go_wp2_with fail
            exact ⟨⟨i + 1, by omega, by go_num, by rw [HC.out.2], Lib.hid (by rw [HC.out.1]; exact HA4.out)⟩, by simp [intOf]; omega⟩
        | false =>
          have HC := Lib.hid (show outP l h (i + 1) = (outP l h i ++ [h]) ++ [q] ∧ laidP l h (i + 1) = true from ⟨by rw [HC0.out.1, hl]; rfl, HC0.out.2⟩)
          clear hl HC0
          have qL := HJ.out.2.2.2.1.cell 0 _ rfl
          have qh := Hb.addr HJ.out.2.2.2.2.1
          have qq := hd_addr (HRX.out wr HJ.out.2.2.2.2.2.2)
          have m1 : decide ((q.addr : Int) ≥ (h.addr : Int)) = true := decide_eq_true (by omega)
          have m2 : decide ((h.addr : Int) ≤ (q.addr : Int)) = true := decide_eq_true (by omega)
          have m3 : decide (h.addr ≤ q.addr) = true := decide_eq_true (by omega)
          go_upto_region 6 with fail
          go_quiet (fail)
          have HJ6 := Lib.hid (HJ.out.ext (Ext.drewN (Ext.refl _) nq))
          clear qL qh qq m1 m2 m3 HJ
          obtain ⟨wz, hwz⟩ : ∃ wz, wr.drewN nq = wz := ⟨_, rfl⟩
          rw [hwz] at HJ6 ⊢
          clear hwz nq
          obtain ⟨A7, c7, e7, _, _⟩ := HJ6.out.2.1.sl
          rw [e7] at HJ6
          clear e7
          have q7 := HJ6.out.2.2.1.cell 0 _ rfl
          go_upto_region 8 with (first
            | ((with_reducible refine wpList_load_hd ?_ (.tmp 3) ?_ g3 0 h ?_ ?_ ?_); (exact rfl); (exact rfl); (exact rfl); (exact Cs.rg HJ6.out.2.2.2.2.1))
            | ((with_reducible refine wpList_build_one ?_ (.tmp 41) 86 97 ?_ Try.underlying86 _ 11 88 hdinfo3 (by decide) (by decide) (hdc h) rfl ?_ ?_); (exact rfl); (exact rfl); (exact rfl))
            | (at_builtin; refine wpList_append_row ?_ (.tmp 40) (.tmp 42) 86 rfl lo 97 Try.underlying86 _ 11 88 hdinfo3 rfl (by decide) (.slice A7 (outP l h i).length c7) (outP l h i).length (hdf (outP l h i)) rfl (own_ext HJ6.out.2.1.1 ((Ext.refl _).alloc _)) (.slice (some ⟨wz.heap.size, 0, none⟩) 1 1) 1 (hdc h).toList rfl (rs_hd1 (Cs.new _ _ _ _ rfl)) (hdc_ones2 h) HLN.out (by decide) (Nat.le_trans HJ6.out.1.2.2.2.2.2 (by rw [World.size_alloc]; exact Nat.le_succ _)) ?_; (exact rfl); intro v7 w7 o7 g7 b7; have O7 := Lib.hid (OwnH.add HJ6.out.2.1.2 HHO.out o7); have J7 := Lib.hid ((HJ6.out.ext ((Ext.refl _).alloc (.cells (hdc h) 97))).app g7 O7.out); clear o7 g7 b7; obtain ⟨A8, c8, e8, _, _⟩ := O7.out.sl; subst e8; have q8 := J7.out.2.2.1.cell 0 _ rfl; have f8 : w7.frozen? ⟨g6, 0, none⟩ = false := J7.out.2.2.1.frozen 0))
          have HJ8 := Lib.hid J7.out.store
          clear q7 q8 f8 J7 O7 HJ6
          obtain ⟨LL, hLL⟩ : ∃ LL, (outP l h i) ++ [h] = LL := ⟨_, rfl⟩
          have hLn : (outP l h i).length + 1 = LL.length := by rw [← hLL, List.length_append, List.length_singleton]
          rw [hLn]
          rw [hLL] at HJ8 HC HLN2
          obtain ⟨wy, hwy⟩ : ∃ wy, w7.setCell ⟨g6, 0, none⟩ (.slice A8 LL.length c8) = wy := ⟨_, rfl⟩
          rw [hwy] at HJ8 ⊢
          clear hwy hLn hLL
          have qL := HJ8.out.2.2.2.1.cell 0 _ rfl
          have qh := Hb.addr HJ8.out.2.2.2.2.1
          have qq := hd_addr (HRX.out wy HJ8.out.2.2.2.2.2.2)
          have n1 : ((q.addr : Int) != (h.addr : Int)) = true := by rw [bne_iff_ne]; omega
          have n2 : (q.addr != h.addr) = true := by rw [bne_iff_ne]; omega
          have n3 : ((q.addr : Int) == (h.addr : Int)) = false := by rw [beq_eq_false_iff_ne]; omega
          have n4 : (q.addr == h.addr) = false := by rw [beq_eq_false_iff_ne]; omega
          go_upto_region 9 with fail
          go_quiet (fail)
          have HJq := Lib.hid (HJ8.out.ext (Ext.drewN (Ext.refl _) nq))
          clear qL qh qq
          go_upto_region 10 with fail
          clear n1 n2 n3 n4
          obtain ⟨A9, c9, e9, _, _⟩ := HJq.out.2.1.sl
          rw [e9] at HJq
          clear e9
          refine wp_named fun a0 ha0 => ?_
          obtain ⟨fr, hfr⟩ : ∃ fr : (Nat → Value) → Act, ∀ V, fr V = ((((((((((a0.put (some 54) (V 0)).put (some 55) (V 1)).put (some 56) (V 2)).put (some 57) (V 3)).put (some 58) (V 4)).put (some 59) (V 5)).put (some 60) (V 6)).put (some 61) (V 7)).put (some 62) (V 8)).put (some 63) (V 9)) := ⟨fun V => ((((((((((a0.put (some 54) (V 0)).put (some 55) (V 1)).put (some 56) (V 2)).put (some 57) (V 3)).put (some 58) (V 4)).put (some 59) (V 5)).put (some 60) (V 6)).put (some 61) (V 7)).put (some 62) (V 8)).put (some 63) (V 9)), fun _ => rfl⟩
          rw [ha0] at hfr
          simp only [Act.put, List.setIfInBounds_toArray, List.set_cons_zero, List.set_cons_succ] at hfr
          have HFR := Lib.hid hfr
          clear hfr
          refine wp_region_inv (by kernel_rfl) (by kernel_rfl) (fun L A W => ∃ V : Nat → Value, A = fr V ∧ Vals (fun j => ([some (.pointer (some ⟨g6, 0, none⟩)), some (.slice A9 (LL).length c9), some (.pointer (some ⟨g2, 0, none⟩)), some (.slice (some ⟨bb, oo, none⟩) l.length c1), some (.int .i64 i), some (.pointer (some ⟨bb, oo + i * 11, none⟩)), some (.agg (hdc q)), none, none, some (.pointer (some ⟨g6, 0, none⟩)), none] : List (Option Value)).getD j none) L V ∧ (L 8 = false → PuM lo g2 g3 g4 g6 w (.slice (some ⟨bb, oo, none⟩) l.length c1) h (.slice A9 (LL).length c9) (.slice A9 (LL).length c9) (LL) W) ∧ (L 8 = true → L 10 = false → PuM lo g2 g3 g4 g6 w (.slice (some ⟨bb, oo, none⟩) l.length c1) h (.slice A9 (LL).length c9) (V 8) (LL ++ [q]) W) ∧ (L 10 = true → PuE lo g2 g3 g4 g6 w (.slice (some ⟨bb, oo, none⟩) l.length c1) h (LL ++ [q]) W) ∧ (L 8 = false → L 7 = true → PlH q W (V 7)) ∧ (L 10 = false → L 8 = true → SlG ((LL).length + 1) W (V 8))) ?_ ⟨?_, ?_, ?_, ?_, ?_, ?_, ?_, ?_, ?_, ?_, ?_, trivial⟩ ?_
          · refine ⟨fun j => a0.tmps.getD (([54, 55, 56, 57, 58, 59, 60, 61, 62, 63, 0] : List Nat).getD j 0) undef, ?_, Vals.no _ _ _ (far_none _ _ rfl), fun _ => HJq.out.ext (Ext.refl _).drew, fun h0 h1 => absurd h0 (by decide), fun h0 => absurd h0 (by decide), fun h0 h1 => absurd h1 (by decide), fun h0 h1 => absurd h1 (by decide)⟩
            rw [HFR.out, ha0]
            rfl
          all_goals clear ha0
          · rintro L A W K hL hC hW ⟨V, rfl, HV, s0, s1, s2, f7, f8⟩ hK
            have H := Lib.hid (show ∀ W', Ext W W' → K (fr (upd V 0 (.pointer (some ⟨g6, 0, none⟩)))) W' from fun W' he => hK _ _ ⟨upd V 0 (.pointer (some ⟨g6, 0, none⟩)), rfl, HV.up 0 _ (fun x hx => Option.some.inj hx), fun h0 => PuM.ext (s0 (by unfold More at h0; rwa [if_neg (by decide)] at h0)) he, fun h0 h1 => PuM.ext (s1 (more_ne h0 rfl) (by unfold More at h1; rwa [if_neg (by decide)] at h1)) he, fun h0 => PuE.ext (s2 (more_ne h0 rfl)) he, fun h0 h1 => PlH.ext (f7 (by unfold More at h0; rwa [if_neg (by decide)] at h0) (more_ne h1 rfl)) he, fun h0 h1 => SlG.ext (f8 (by unfold More at h0; rwa [if_neg (by decide)] at h0) (more_ne h1 rfl)) he⟩)
            clear hK hC hW hL HV s0 s1 s2 f7 f8
            rw [HFR.out]
            go_wp2_with fail
            show K _ _
            have := H.out _ (Ext.refl _)
            rw [HFR.out] at this
            exact this
          · rintro L A W K hL hC hW ⟨V, rfl, HV, s0, s1, s2, f7, f8⟩ hK
            have e0 : V 0 = .pointer (some ⟨g6, 0, none⟩) := HV 0 _ rfl (hW 0 rfl)
            have hB := s0 (hC.no hL 8 _ rfl rfl)
            have H := Lib.hid (show ∀ W', Ext W W' → K (fr (upd V 1 (.slice A9 (LL).length c9))) W' from fun W' he => hK _ _ ⟨upd V 1 (.slice A9 (LL).length c9), rfl, HV.up 1 _ (fun x hx => Option.some.inj hx), fun h0 => PuM.ext (s0 (by unfold More at h0; rwa [if_neg (by decide)] at h0)) he, fun h0 h1 => PuM.ext (s1 (more_ne h0 rfl) (by unfold More at h1; rwa [if_neg (by decide)] at h1)) he, fun h0 => PuE.ext (s2 (more_ne h0 rfl)) he, fun h0 h1 => PlH.ext (f7 (by unfold More at h0; rwa [if_neg (by decide)] at h0) (more_ne h1 rfl)) he, fun h0 h1 => SlG.ext (f8 (by unfold More at h0; rwa [if_neg (by decide)] at h0) (more_ne h1 rfl)) he⟩)
            have HU := Lib.hid (show (upd V 1 (.slice A9 (LL).length c9)) 0 = .pointer (some ⟨g6, 0, none⟩) from e0)
            clear hK hC hW hL HV s0 s1 s2 f7 f8
            rw [HFR.out]
            rw [e0]
            clear e0
            have hcl := hB.2.2.1.cell 0 _ rfl
            clear hB
            go_wp2_with fail
            show K _ _
            have := H.out _ (Ext.refl _)
            rw [HFR.out] at this
            obtain u0 := HU.out
            rw [u0] at this
            exact this
          · rintro L A W K hL hC hW ⟨V, rfl, HV, s0, s1, s2, f7, f8⟩ hK
            have H := Lib.hid (show ∀ W', Ext W W' → K (fr (upd V 2 (.pointer (some ⟨g2, 0, none⟩)))) W' from fun W' he => hK _ _ ⟨upd V 2 (.pointer (some ⟨g2, 0, none⟩)), rfl, HV.up 2 _ (fun x hx => Option.some.inj hx), fun h0 => PuM.ext (s0 (by unfold More at h0; rwa [if_neg (by decide)] at h0)) he, fun h0 h1 => PuM.ext (s1 (more_ne h0 rfl) (by unfold More at h1; rwa [if_neg (by decide)] at h1)) he, fun h0 => PuE.ext (s2 (more_ne h0 rfl)) he, fun h0 h1 => PlH.ext (f7 (by unfold More at h0; rwa [if_neg (by decide)] at h0) (more_ne h1 rfl)) he, fun h0 h1 => SlG.ext (f8 (by unfold More at h0; rwa [if_neg (by decide)] at h0) (more_ne h1 rfl)) he⟩)
            clear hK hC hW hL HV s0 s1 s2 f7 f8
            rw [HFR.out]
            go_wp2_with fail
            show K _ _
            have := H.out _ (Ext.refl _)
            rw [HFR.out] at this
            exact this
          · rintro L A W K hL hC hW ⟨V, rfl, HV, s0, s1, s2, f7, f8⟩ hK
            have e2 : V 2 = .pointer (some ⟨g2, 0, none⟩) := HV 2 _ rfl (hW 2 rfl)
            have hB := s0 (hC.no (hC.no (hC.no (hC.no hL 5 _ rfl rfl) 6 _ rfl rfl) 7 _ rfl rfl) 8 _ rfl rfl)
            have H := Lib.hid (show ∀ W', Ext W W' → K (fr (upd V 3 (.slice (some ⟨bb, oo, none⟩) l.length c1))) W' from fun W' he => hK _ _ ⟨upd V 3 (.slice (some ⟨bb, oo, none⟩) l.length c1), rfl, HV.up 3 _ (fun x hx => Option.some.inj hx), fun h0 => PuM.ext (s0 (by unfold More at h0; rwa [if_neg (by decide)] at h0)) he, fun h0 h1 => PuM.ext (s1 (more_ne h0 rfl) (by unfold More at h1; rwa [if_neg (by decide)] at h1)) he, fun h0 => PuE.ext (s2 (more_ne h0 rfl)) he, fun h0 h1 => PlH.ext (f7 (by unfold More at h0; rwa [if_neg (by decide)] at h0) (more_ne h1 rfl)) he, fun h0 h1 => SlG.ext (f8 (by unfold More at h0; rwa [if_neg (by decide)] at h0) (more_ne h1 rfl)) he⟩)
            have HU := Lib.hid (show (upd V 3 (.slice (some ⟨bb, oo, none⟩) l.length c1)) 2 = .pointer (some ⟨g2, 0, none⟩) from e2)
            clear hK hC hW hL HV s0 s1 s2 f7 f8
            rw [HFR.out]
            rw [e2]
            clear e2
            have hcl := hB.2.2.2.1.cell 0 _ rfl
            clear hB
            go_wp2_with fail
            show K _ _
            have := H.out _ (Ext.refl _)
            rw [HFR.out] at this
            obtain u2 := HU.out
            rw [u2] at this
            exact this
          · rintro L A W K hL hC hW ⟨V, rfl, HV, s0, s1, s2, f7, f8⟩ hK
            have H := Lib.hid (show ∀ W', Ext W W' → K (fr (upd V 4 (.int .i64 i))) W' from fun W' he => hK _ _ ⟨upd V 4 (.int .i64 i), rfl, HV.up 4 _ (fun x hx => Option.some.inj hx), fun h0 => PuM.ext (s0 (by unfold More at h0; rwa [if_neg (by decide)] at h0)) he, fun h0 h1 => PuM.ext (s1 (more_ne h0 rfl) (by unfold More at h1; rwa [if_neg (by decide)] at h1)) he, fun h0 => PuE.ext (s2 (more_ne h0 rfl)) he, fun h0 h1 => PlH.ext (f7 (by unfold More at h0; rwa [if_neg (by decide)] at h0) (more_ne h1 rfl)) he, fun h0 h1 => SlG.ext (f8 (by unfold More at h0; rwa [if_neg (by decide)] at h0) (more_ne h1 rfl)) he⟩)
            clear hK hC hW hL HV s0 s1 s2 f7 f8
            rw [HFR.out]
            go_wp2_with fail
            show K _ _
            have := H.out _ (Ext.refl _)
            rw [HFR.out] at this
            exact this
          · rintro L A W K hL hC hW ⟨V, rfl, HV, s0, s1, s2, f7, f8⟩ hK
            have e3 : V 3 = .slice (some ⟨bb, oo, none⟩) l.length c1 := HV 3 _ rfl (hW 3 rfl)
            have e4 : V 4 = .int .i64 i := HV 4 _ rfl (hW 4 rfl)
            have H := Lib.hid (show ∀ W', Ext W W' → K (fr (upd V 5 (.pointer (some ⟨bb, oo + i * 11, none⟩)))) W' from fun W' he => hK _ _ ⟨upd V 5 (.pointer (some ⟨bb, oo + i * 11, none⟩)), rfl, HV.up 5 _ (fun x hx => Option.some.inj hx), fun h0 => PuM.ext (s0 (by unfold More at h0; rwa [if_neg (by decide)] at h0)) he, fun h0 h1 => PuM.ext (s1 (more_ne h0 rfl) (by unfold More at h1; rwa [if_neg (by decide)] at h1)) he, fun h0 => PuE.ext (s2 (more_ne h0 rfl)) he, fun h0 h1 => PlH.ext (f7 (by unfold More at h0; rwa [if_neg (by decide)] at h0) (more_ne h1 rfl)) he, fun h0 h1 => SlG.ext (f8 (by unfold More at h0; rwa [if_neg (by decide)] at h0) (more_ne h1 rfl)) he⟩)
            have HU := Lib.hid (show (upd V 5 (.pointer (some ⟨bb, oo + i * 11, none⟩))) 3 = .slice (some ⟨bb, oo, none⟩) l.length c1 ∧ (upd V 5 (.pointer (some ⟨bb, oo + i * 11, none⟩))) 4 = .int .i64 i from ⟨e3, e4⟩)
            clear hK hC hW hL HV s0 s1 s2 f7 f8
            rw [HFR.out]
            rw [e3, e4]
            clear e3 e4
            go_wp2_with fail
            show K _ _
            have := H.out _ (Ext.refl _)
            rw [HFR.out] at this
            obtain ⟨u3, u4⟩ := HU.out
            rw [u3, u4] at this
            exact this
          · rintro L A W K hL hC hW ⟨V, rfl, HV, s0, s1, s2, f7, f8⟩ hK
            have e5 : V 5 = .pointer (some ⟨bb, oo + i * 11, none⟩) := HV 5 _ rfl (hW 5 rfl)
            have hB := s0 (hC.no (hC.no hL 7 _ rfl rfl) 8 _ rfl rfl)
            have H := Lib.hid (show ∀ W', Ext W W' → K (fr (upd V 6 (.agg (hdc q)))) W' from fun W' he => hK _ _ ⟨upd V 6 (.agg (hdc q)), rfl, HV.up 6 _ (fun x hx => Option.some.inj hx), fun h0 => PuM.ext (s0 (by unfold More at h0; rwa [if_neg (by decide)] at h0)) he, fun h0 h1 => PuM.ext (s1 (more_ne h0 rfl) (by unfold More at h1; rwa [if_neg (by decide)] at h1)) he, fun h0 => PuE.ext (s2 (more_ne h0 rfl)) he, fun h0 h1 => PlH.ext (f7 (by unfold More at h0; rwa [if_neg (by decide)] at h0) (more_ne h1 rfl)) he, fun h0 h1 => SlG.ext (f8 (by unfold More at h0; rwa [if_neg (by decide)] at h0) (more_ne h1 rfl)) he⟩)
            have HU := Lib.hid (show (upd V 6 (.agg (hdc q))) 5 = .pointer (some ⟨bb, oo + i * 11, none⟩) from e5)
            clear hK hC hW hL HV s0 s1 s2 f7 f8
            rw [HFR.out]
            rw [e5]
            clear e5
            have HWD := Lib.hid (HRX.out W hB.2.2.2.2.2.2)
            clear hB
            refine wpList_load_hd rfl (.tmp 59) rfl bb (oo + i * 11) q rfl HWD.out ?_
            show K _ _
            have := H.out _ (Ext.refl _)
            rw [HFR.out] at this
            obtain u5 := HU.out
            rw [u5] at this
            exact this
          · rintro L A W K hL hC hW ⟨V, rfl, HV, s0, s1, s2, f7, f8⟩ hK
            have e6 : V 6 = .agg (hdc q) := HV 6 _ rfl (hW 6 rfl)
            have H := Lib.hid (show ∀ v W', Ext W W' → (PlH q W' v) → K (fr (upd V 7 v)) W' from fun v W' he hp => hK _ _ ⟨upd V 7 v, rfl, HV.up 7 _ (fun x hx => absurd hx (by intro h; cases h)), fun h0 => PuM.ext (s0 (by unfold More at h0; rwa [if_neg (by decide)] at h0)) he, fun h0 h1 => PuM.ext (s1 (more_ne h0 rfl) (by unfold More at h1; rwa [if_neg (by decide)] at h1)) he, fun h0 => PuE.ext (s2 (more_ne h0 rfl)) he, fun h0 h1 => hp, fun h0 h1 => SlG.ext (f8 (by unfold More at h0; rwa [if_neg (by decide)] at h0) (more_ne h1 rfl)) he⟩)
            have HU := Lib.hid (show ∀ v, (upd V 7 v) 6 = .agg (hdc q) from fun v => e6)
            clear hK hC hW hL HV s0 s1 s2 f7 f8
            rw [HFR.out]
            rw [e6]
            clear e6
            refine wpList_build_one rfl (.tmp 60) 86 97 rfl Try.underlying86 _ 11 88 hdinfo3 (by decide) (by decide) (hdc q) rfl rfl ?_
            show K _ _
            have := H.out (.slice (some ⟨W.heap.size, 0, none⟩) 1 1) _ ((Ext.refl W).alloc (.cells (hdc q) 97)) (⟨_, rfl, Cs.new _ _ _ _ rfl⟩)
            rw [HFR.out] at this
            obtain u6 := HU.out _
            rw [u6] at this
            exact this
          · rintro L A W K hL hC hW ⟨V, rfl, HV, s0, s1, s2, f7, f8⟩ hK
            have e1 : V 1 = .slice A9 (LL).length c9 := HV 1 _ rfl (hW 1 rfl)
            have hB := s0 hL
            have q7 := f7 hL (hW 7 rfl)
            obtain ⟨g7, e7, k7⟩ := q7
            have H := Lib.hid (show ∀ v W', (PuM lo g2 g3 g4 g6 w (.slice (some ⟨bb, oo, none⟩) l.length c1) h (.slice A9 (LL).length c9) v (LL ++ [q]) W') → (SlG ((LL).length + 1) W' v) → K (fr (upd V 8 v)) W' from fun v W' hA hp => hK _ _ ⟨upd V 8 v, rfl, HV.up 8 _ (fun x hx => absurd hx (by intro h; cases h)), fun h0 => absurd h0 (by unfold More; rw [if_pos rfl]; simp), fun h0 h1 => hA, fun h0 => absurd (more_ne h0 rfl) (by rw [(hC.no hL 10 _ rfl rfl)]; simp), fun h0 h1 => absurd h0 (by unfold More; rw [if_pos rfl]; simp), fun h0 h1 => hp⟩)
            have HU := Lib.hid (show ∀ v, (upd V 8 v) 1 = .slice A9 (LL).length c9 ∧ (upd V 8 v) 7 = .slice (some ⟨g7, 0, none⟩) 1 1 from fun v => ⟨e1, e7⟩)
            clear hK hC hW hL HV s0 s1 s2 f7 f8
            rw [HFR.out]
            rw [e1, e7]
            clear e1 e7
            have HB := Lib.hid hB
            have K3 := Lib.hid k7
            clear hB k7
            refine wpList_append_row rfl (.tmp 55) (.tmp 61) 86 rfl lo 97 Try.underlying86 _ 11 88 hdinfo3 rfl (by decide) (.slice A9 (LL).length c9) (LL).length (hdf (LL)) rfl HB.out.2.1.1 (.slice (some ⟨g7, 0, none⟩) 1 1) 1 (hdc q).toList rfl (rs_hd1 K3.out) (hdc_ones2 q) HLN2.out (by decide) HB.out.1.2.2.2.2.2 ?_
            intro v5 w5 o5 g5' b5
            have HO5 := Lib.hid (OwnH.add HB.out.2.1.2 HQO.out o5)
            have HA := Lib.hid (HB.out.app g5' HO5.out)
            have HP : Hid (SlG ((LL).length + 1) w5 v5) := Lib.hid (by obtain ⟨A, c, e, _⟩ := HO5.out.sl; exact ⟨A, c, by rw [e, List.length_append, List.length_singleton]⟩)
            clear o5 g5' b5
            show K _ _
            have := H.out _ _ HA.out HP.out
            rw [HFR.out] at this
            obtain ⟨u1, u7⟩ := HU.out _
            rw [u1, u7] at this
            exact this
          · rintro L A W K hL hC hW ⟨V, rfl, HV, s0, s1, s2, f7, f8⟩ hK
            have H := Lib.hid (show ∀ W', Ext W W' → K (fr (upd V 9 (.pointer (some ⟨g6, 0, none⟩)))) W' from fun W' he => hK _ _ ⟨upd V 9 (.pointer (some ⟨g6, 0, none⟩)), rfl, HV.up 9 _ (fun x hx => Option.some.inj hx), fun h0 => PuM.ext (s0 (by unfold More at h0; rwa [if_neg (by decide)] at h0)) he, fun h0 h1 => PuM.ext (s1 (more_ne h0 rfl) (by unfold More at h1; rwa [if_neg (by decide)] at h1)) he, fun h0 => PuE.ext (s2 (more_ne h0 rfl)) he, fun h0 h1 => PlH.ext (f7 (by unfold More at h0; rwa [if_neg (by decide)] at h0) (more_ne h1 rfl)) he, fun h0 h1 => SlG.ext (f8 (by unfold More at h0; rwa [if_neg (by decide)] at h0) (more_ne h1 rfl)) he⟩)
            clear hK hC hW hL HV s0 s1 s2 f7 f8
            rw [HFR.out]
            go_wp2_with fail
            show K _ _
            have := H.out _ (Ext.refl _)
            rw [HFR.out] at this
            exact this
          · rintro L A W K hL hC hW ⟨V, rfl, HV, s0, s1, s2, f7, f8⟩ hK
            have e9 : V 9 = .pointer (some ⟨g6, 0, none⟩) := HV 9 _ rfl (hW 9 rfl)
            have hB := s1 (hW 8 rfl) hL
            have q8 := f8 hL (hW 8 rfl)
            obtain ⟨A8, c8, e8⟩ := q8
            have H := Lib.hid (show ∀ W', (PuE lo g2 g3 g4 g6 w (.slice (some ⟨bb, oo, none⟩) l.length c1) h (LL ++ [q]) W') → K (fr (V)) W' from fun W' hA => hK _ _ ⟨V, rfl, HV.st 10 rfl, fun h0 => absurd (show L 8 = false by unfold More at h0; rwa [if_neg (by decide)] at h0) (by rw [(hW 8 rfl)]; simp), fun h0 h1 => absurd h1 (by unfold More; rw [if_pos rfl]; simp), fun h0 => hA, fun h0 h1 => absurd (show L 8 = false by unfold More at h0; rwa [if_neg (by decide)] at h0) (by rw [(hW 8 rfl)]; simp), fun h0 h1 => absurd h0 (by unfold More; rw [if_pos rfl]; simp)⟩)
            have HU := Lib.hid (show (V) 9 = .pointer (some ⟨g6, 0, none⟩) ∧ (V) 8 = .slice A8 ((LL).length + 1) c8 from ⟨e9, e8⟩)
            clear hK hC hW hL HV s0 s1 s2 f7 f8
            rw [HFR.out]
            rw [e9, e8]
            clear e9 e8
            have HB := Lib.hid hB
            have hc := hB.2.2.1.cell 0 _ rfl
            have hf : W.frozen? ⟨g6, 0, none⟩ = false := hB.2.2.1.frozen 0
            clear hB
            go_wp2_with fail
            have HA : Hid (PuE lo g2 g3 g4 g6 w (.slice (some ⟨bb, oo, none⟩) l.length c1) h (LL ++ [q]) (W.setCell ⟨g6, 0, none⟩ (.slice A8 ((LL).length + 1) c8))) := Lib.hid ⟨_, by have h := HB.out; rw [HU.out.2] at h; exact h.store⟩
            show K _ _
            have := H.out _ HA.out
            rw [HFR.out] at this
            obtain ⟨u9, u8⟩ := HU.out
            rw [u9, u8] at this
            exact this
          · rintro L A W hL ⟨V, rfl, HV, s0, s1, s2, f7, f8⟩
            have e0 : V 0 = .pointer (some ⟨g6, 0, none⟩) := HV 0 _ rfl (hL 0 (by simp))
            have e1 : V 1 = .slice A9 (LL).length c9 := HV 1 _ rfl (hL 1 (by simp))
            have e2 : V 2 = .pointer (some ⟨g2, 0, none⟩) := HV 2 _ rfl (hL 2 (by simp))
            have e3 : V 3 = .slice (some ⟨bb, oo, none⟩) l.length c1 := HV 3 _ rfl (hL 3 (by simp))
            have e4 : V 4 = .int .i64 i := HV 4 _ rfl (hL 4 (by simp))
            have e5 : V 5 = .pointer (some ⟨bb, oo + i * 11, none⟩) := HV 5 _ rfl (hL 5 (by simp))
            have e6 : V 6 = .agg (hdc q) := HV 6 _ rfl (hL 6 (by simp))
            have e9 : V 9 = .pointer (some ⟨g6, 0, none⟩) := HV 9 _ rfl (hL 9 (by simp))
            have hA := s2 (hL 10 (by simp))
            rw [HFR.out]
            rw [e0, e1, e2, e3, e4, e5, e6, e9]
            clear hL HV HFR e0 e1 e2 e3 e4 e5 e6 e9 s0 s1 s2 f7 f8
            have HA4 := Lib.hid hA
            clear hA
            go_wp2_with fail
            exact ⟨⟨i + 1, by omega, by go_num, by rw [HC.out.2], Lib.hid (by rw [HC.out.1]; exact HA4.out)⟩, by simp [intOf]; omega⟩
    · obtain rfl : i = l.length := by omega
      have hd : decide (l.length < l.length) = false := decide_eq_false (by omega)
      have hd2 : decide ((l.length : Int) < (l.length : Int)) = false := decide_eq_false (by omega)
      have HALL := Lib.hid (outP_all l h)
      have HLN := Lib.hid (show (outP l h l.length).length + 1 ≤ 1099511627776 by have := outP_len l h l.length; omega)
      have qL := HJ.out.2.2.2.1.cell 0 _ rfl
      cases hl : laidP l h l.length with
      | true =>
        rw [show outP l h l.length = plR l h by rw [← HALL.out, hl]; rfl] at HJ
        clear hl
        obtain ⟨A9, c9, e9, _, _⟩ := HJ.out.2.1.sl
        rw [e9] at HJ
        clear e9
        have q6 := HJ.out.2.2.1.cell 0 _ rfl
        go_wp2_with fail
        refine (refSumL_any _ (plR l h) _ HJ.out.2.1.hds).mono ?_
        rintro e wS ⟨n, rfl, he⟩
        have HJS := Lib.hid (HJ.out.ext he)
        clear he q6 HJ
        have HSB : Hid (putR l h = if (sumW (flatH (plR l h))).2 then ([], 171) else if 24 < (plR l h).length then ([], 6) else (plR l h, 0)) := Lib.hid rfl
        generalize (sumW (flatH (plR l h))).2 = sb at *
        go_upto_region 14 with ((with_reducible refine wpList_store_word rfl rfl 29 (.tmp 9) (.tmp 75) rfl winfo wS.heap.size (wc 0) n ?_ ?_ ?_ ?_ ?_); (exact rfl); (exact rfl); (exact Cs.new _ _ _ _ rfl); (exact rfl); intro w4 k4 g4'; have HJ13 := Lib.hid (HJS.out.ext (((Ext.refl wS).alloc (.cells (wc 0) 29)).grown g4' (Nat.le_refl _))); clear k4 g4')
        clear HJS
        cases sb with
        | true =>
          have HPE := Lib.hid (show putR l h = ([], 171) from HSB.out)
          go_wp2_with ((with_reducible refine wpList_store_agg ?_ ?_ 88 (.tmp 4) (.tmp 79) ?_ ldinfo g4 #[.slice none 0 0] #[.slice none 0 0] ?_ ?_ ?_ ?_ ?_ ?_ ?_); (exact rfl); (exact rfl); (exact rfl); (exact one_slice _ _ _); (exact rfl); (exact rfl); (exact HJ13.out.2.2.2.2.2.1); (exact rfl); (exact rfl); intro w9 k9 g9; have K9 := Lib.hid k9; have G9 := Lib.hid g9; clear k9 g9)
          refine bodyPost_ret (results_ld_tmp Try.results137 _ _ g4 _ rfl K9.out) rfl ?_
          exact ⟨_, by rw [HPE.out]; rfl, by rw [HPE.out]; exact OwnH.nil _ _, HJ13.out.2.2.2.2.2.2.grown G9.out (by have := HJ13.out.1; omega)⟩
        | false =>
          have q6 := HJ13.out.2.2.1.cell 0 _ rfl
          by_cases h24 : 24 < (plR l h).length
          · have d1 : decide (((plR l h).length : Int) > 24) = true := decide_eq_true (by omega)
            have d2 : decide ((24 : Int) < ((plR l h).length : Int)) = true := decide_eq_true (by omega)
            have d3 : decide (24 < (plR l h).length) = true := decide_eq_true h24
            replace HSB := Lib.hid (show putR l h = ([], 6) by rw [HSB.out, if_neg (by decide), if_pos h24])
            clear h24
            have HPE := Lib.hid (HSB.out)
            go_wp2_with ((with_reducible refine wpList_store_agg ?_ ?_ 88 (.tmp 4) (.tmp 84) ?_ ldinfo g4 #[.slice none 0 0] #[.slice none 0 0] ?_ ?_ ?_ ?_ ?_ ?_ ?_); (exact rfl); (exact rfl); (exact rfl); (exact one_slice _ _ _); (exact rfl); (exact rfl); (exact HJ13.out.2.2.2.2.2.1); (exact rfl); (exact rfl); intro w9 k9 g9; have K9 := Lib.hid k9; have G9 := Lib.hid g9; clear k9 g9)
            refine bodyPost_ret (results_ld_tmp Try.results137 _ _ g4 _ rfl K9.out) rfl ?_
            exact ⟨_, by rw [HPE.out]; rfl, by rw [HPE.out]; exact OwnH.nil _ _, HJ13.out.2.2.2.2.2.2.grown G9.out (by have := HJ13.out.1; omega)⟩
          · have d1 : decide (((plR l h).length : Int) > 24) = false := decide_eq_false (by omega)
            have d2 : decide ((24 : Int) < ((plR l h).length : Int)) = false := decide_eq_false (by omega)
            have d3 : decide (24 < (plR l h).length) = false := decide_eq_false h24
            have HPE := Lib.hid (show putR l h = (plR l h, 0) by rw [HSB.out, if_neg (by decide), if_neg h24])
            clear h24 HSB
            go_wp2_with ((with_reducible refine wpList_store_agg ?_ ?_ 88 (.tmp 4) (.tmp 85) ?_ ldinfo g4 #[.slice none 0 0] #[.slice A9 (plR l h).length c9] ?_ ?_ ?_ ?_ ?_ ?_ ?_); (exact rfl); (exact rfl); (exact rfl); (exact one_slice _ _ _); (exact rfl); (exact rfl); (exact HJ13.out.2.2.2.2.2.1); (exact rfl); (exact rfl); intro w9 k9 g9; have K9 := Lib.hid k9; have G9 := Lib.hid g9; clear k9 g9)
            refine bodyPost_ret (results_ld_tmp Try.results137 _ _ g4 _ rfl K9.out) rfl ?_
            exact ⟨_, by rw [HPE.out]; rfl, by rw [HPE.out]; exact (HJ13.out.2.1.keptT G9.out HJ13.out.2.2.2.2.2.1 (by decide)).mono (by have := HJ13.out.1; omega), HJ13.out.2.2.2.2.2.2.grown G9.out (by have := HJ13.out.1; omega)⟩
      | false =>
        have HPL := Lib.hid (show outP l h l.length ++ [h] = plR l h by rw [← HALL.out, hl]; rfl)
        clear hl
        obtain ⟨A7, c7, e7, _, _⟩ := HJ.out.2.1.sl
        rw [e7] at HJ
        clear e7
        have q7 := HJ.out.2.2.1.cell 0 _ rfl
        go_upto_region 13 with (first
          | ((with_reducible refine wpList_load_hd ?_ (.tmp 3) ?_ g3 0 h ?_ ?_ ?_); (exact rfl); (exact rfl); (exact rfl); (exact Cs.rg HJ.out.2.2.2.2.1))
          | ((with_reducible refine wpList_build_one ?_ (.tmp 68) 86 97 ?_ Try.underlying86 _ 11 88 hdinfo3 (by decide) (by decide) (hdc h) rfl ?_ ?_); (exact rfl); (exact rfl); (exact rfl))
          | (at_builtin; refine wpList_append_row ?_ (.tmp 67) (.tmp 69) 86 rfl lo 97 Try.underlying86 _ 11 88 hdinfo3 rfl (by decide) (.slice A7 (outP l h l.length).length c7) (outP l h l.length).length (hdf (outP l h l.length)) rfl (own_ext HJ.out.2.1.1 ((Ext.refl _).alloc _)) (.slice (some ⟨wr.heap.size, 0, none⟩) 1 1) 1 (hdc h).toList rfl (rs_hd1 (Cs.new _ _ _ _ rfl)) (hdc_ones2 h) HLN.out (by decide) (Nat.le_trans HJ.out.1.2.2.2.2.2 (by rw [World.size_alloc]; exact Nat.le_succ _)) ?_; (exact rfl); intro v7 w7 o7 g7 b7; have O7 := Lib.hid (OwnH.add HJ.out.2.1.2 HHO.out o7); have J7 := Lib.hid ((HJ.out.ext ((Ext.refl _).alloc (.cells (hdc h) 97))).app g7 O7.out); clear o7 g7 b7; obtain ⟨A8, c8, e8, _, _⟩ := O7.out.sl; subst e8; have q8 := J7.out.2.2.1.cell 0 _ rfl; have f8 : w7.frozen? ⟨g6, 0, none⟩ = false := J7.out.2.2.1.frozen 0))
        have HJ8 := Lib.hid J7.out.store
        clear q7 q8 f8 J7 O7 HJ
        obtain ⟨LL, hLL⟩ : ∃ LL, (outP l h l.length) ++ [h] = LL := ⟨_, rfl⟩
        have hLn : (outP l h l.length).length + 1 = LL.length := by rw [← hLL, List.length_append, List.length_singleton]
        rw [hLn]
        rw [hLL] at HJ8
        obtain ⟨wy, hwy⟩ : ∃ wy, w7.setCell ⟨g6, 0, none⟩ (.slice A8 LL.length c8) = wy := ⟨_, rfl⟩
        rw [hwy] at HJ8 ⊢
        rw [hLL.symm.trans HPL.out] at HJ8
        clear hwy hLn hLL
        obtain ⟨A9, c9, e9, _, _⟩ := HJ8.out.2.1.sl
        rw [e9] at HJ8
        clear e9
        have q6 := HJ8.out.2.2.1.cell 0 _ rfl
        go_wp2_with fail
        refine (refSumL_any _ (plR l h) _ HJ8.out.2.1.hds).mono ?_
        rintro e wS ⟨n, rfl, he⟩
        have HJS := Lib.hid (HJ8.out.ext he)
        clear he q6 HJ8
        have HSB : Hid (putR l h = if (sumW (flatH (plR l h))).2 then ([], 171) else if 24 < (plR l h).length then ([], 6) else (plR l h, 0)) := Lib.hid rfl
        generalize (sumW (flatH (plR l h))).2 = sb at *
        go_upto_region 14 with ((with_reducible refine wpList_store_word rfl rfl 29 (.tmp 9) (.tmp 75) rfl winfo wS.heap.size (wc 0) n ?_ ?_ ?_ ?_ ?_); (exact rfl); (exact rfl); (exact Cs.new _ _ _ _ rfl); (exact rfl); intro w4 k4 g4'; have HJ13 := Lib.hid (HJS.out.ext (((Ext.refl wS).alloc (.cells (wc 0) 29)).grown g4' (Nat.le_refl _))); clear k4 g4')
        clear HJS
        cases sb with
        | true =>
          have HPE := Lib.hid (show putR l h = ([], 171) from HSB.out)
          go_wp2_with ((with_reducible refine wpList_store_agg ?_ ?_ 88 (.tmp 4) (.tmp 79) ?_ ldinfo g4 #[.slice none 0 0] #[.slice none 0 0] ?_ ?_ ?_ ?_ ?_ ?_ ?_); (exact rfl); (exact rfl); (exact rfl); (exact one_slice _ _ _); (exact rfl); (exact rfl); (exact HJ13.out.2.2.2.2.2.1); (exact rfl); (exact rfl); intro w9 k9 g9; have K9 := Lib.hid k9; have G9 := Lib.hid g9; clear k9 g9)
          refine bodyPost_ret (results_ld_tmp Try.results137 _ _ g4 _ rfl K9.out) rfl ?_
          exact ⟨_, by rw [HPE.out]; rfl, by rw [HPE.out]; exact OwnH.nil _ _, HJ13.out.2.2.2.2.2.2.grown G9.out (by have := HJ13.out.1; omega)⟩
        | false =>
          have q6 := HJ13.out.2.2.1.cell 0 _ rfl
          by_cases h24 : 24 < (plR l h).length
          · have d1 : decide (((plR l h).length : Int) > 24) = true := decide_eq_true (by omega)
            have d2 : decide ((24 : Int) < ((plR l h).length : Int)) = true := decide_eq_true (by omega)
            have d3 : decide (24 < (plR l h).length) = true := decide_eq_true h24
            replace HSB := Lib.hid (show putR l h = ([], 6) by rw [HSB.out, if_neg (by decide), if_pos h24])
            clear h24
            have HPE := Lib.hid (HSB.out)
            go_wp2_with ((with_reducible refine wpList_store_agg ?_ ?_ 88 (.tmp 4) (.tmp 84) ?_ ldinfo g4 #[.slice none 0 0] #[.slice none 0 0] ?_ ?_ ?_ ?_ ?_ ?_ ?_); (exact rfl); (exact rfl); (exact rfl); (exact one_slice _ _ _); (exact rfl); (exact rfl); (exact HJ13.out.2.2.2.2.2.1); (exact rfl); (exact rfl); intro w9 k9 g9; have K9 := Lib.hid k9; have G9 := Lib.hid g9; clear k9 g9)
            refine bodyPost_ret (results_ld_tmp Try.results137 _ _ g4 _ rfl K9.out) rfl ?_
            exact ⟨_, by rw [HPE.out]; rfl, by rw [HPE.out]; exact OwnH.nil _ _, HJ13.out.2.2.2.2.2.2.grown G9.out (by have := HJ13.out.1; omega)⟩
          · have d1 : decide (((plR l h).length : Int) > 24) = false := decide_eq_false (by omega)
            have d2 : decide ((24 : Int) < ((plR l h).length : Int)) = false := decide_eq_false (by omega)
            have d3 : decide (24 < (plR l h).length) = false := decide_eq_false h24
            have HPE := Lib.hid (show putR l h = (plR l h, 0) by rw [HSB.out, if_neg (by decide), if_neg h24])
            clear h24 HSB
            go_wp2_with ((with_reducible refine wpList_store_agg ?_ ?_ 88 (.tmp 4) (.tmp 85) ?_ ldinfo g4 #[.slice none 0 0] #[.slice A9 (plR l h).length c9] ?_ ?_ ?_ ?_ ?_ ?_ ?_); (exact rfl); (exact rfl); (exact rfl); (exact one_slice _ _ _); (exact rfl); (exact rfl); (exact HJ13.out.2.2.2.2.2.1); (exact rfl); (exact rfl); intro w9 k9 g9; have K9 := Lib.hid k9; have G9 := Lib.hid g9; clear k9 g9)
            refine bodyPost_ret (results_ld_tmp Try.results137 _ _ g4 _ rfl K9.out) rfl ?_
            exact ⟨_, by rw [HPE.out]; rfl, by rw [HPE.out]; exact (HJ13.out.2.1.keptT G9.out HJ13.out.2.2.2.2.2.1 (by decide)).mono (by have := HJ13.out.1; omega), HJ13.out.2.2.2.2.2.2.grown G9.out (by have := HJ13.out.1; omega)⟩
end Go.Proofs.Ytepggbhibpjkpaa
