/- The document's Unlock, Release of layer 7. -/
import Derived.Test.YtepggbhibpjkpaaLrf
namespace Go.Proofs.Ytepggbhibpjkpaa
open Go.ChangeShapes Go.WideShapes Go.ChangeAt Go.RowKit Go.Shelf

def rulkS (l : List Hd) (h : Hd) (n : Nat) : List Hd × Int := if 1099511627776 < n then ([], 2) else if h.stk = 0 ∨ 0 < h.fre then ([], 172) else putR l { h with fre := n + h.dly }
def rrelS (l : List Hd) (h : Hd) (a n : Nat) : List Hd × Nat × Int := if 1099511627776 < n then ([], 0, 2) else if h.stk = 0 then ([], 0, 172) else if h.fre = 0 ∨ n < h.fre then ([], 0, 173) else ((putR l ⟨a, h.dep, 0, 0, 0⟩).1, h.stk, (putR l ⟨a, h.dep, 0, 0, 0⟩).2)
set_option maxRecDepth 100000 in
theorem hdc_dep (a n : Nat) : (#[.int .u64 (a : Nat), lv (lb n 0), lv (lb n 1), lv (lb n 2), lv (lb n 3), .int .u64 0, .int .u64 0, .int .u64 0, .int .u64 0, .int .u64 0, .int .u64 0] : Array Value) = hdc ⟨a, n, 0, 0, 0⟩ := by simp [hdc, lv, lb]
def RlS (gR gZ g8 g11 : Nat) (w : World) (lo : Nat) (h : Hd) (vv : Value) (lst : List Hd) (rv : Value) (zv : Nat) (W : World) : Prop :=
  Cs W gR 88 #[rv] ∧ Cs W gZ 29 (wc zv) ∧ Hb W g8 h ∧ Cs W g11 88 #[vv] ∧ OwnH W lo vv lst ∧ Ext w W
set_option maxRecDepth 100000 in
theorem RlS.ext {gR gZ g8 g11 : Nat} {w : World} {lo : Nat} {h : Hd} {vv : Value} {lst : List Hd} {rv : Value} {zv : Nat} {W W' : World} (k : RlS gR gZ g8 g11 w lo h vv lst rv zv W) (he : Ext W W') : RlS gR gZ g8 g11 w lo h vv lst rv zv W' :=
  ⟨Cs.ext k.1 he, Cs.ext k.2.1 he, k.2.2.1.ext he, Cs.ext k.2.2.2.1 he, k.2.2.2.2.1.ext he, k.2.2.2.2.2.trans he⟩
set_option maxRecDepth 100000 in
set_option maxHeartbeats 4000000 in
theorem refUnlock_any (v : Value) (l : List Hd) (a : Nat) (n : Nat) (w : World) (hs : Hds w v l) (hr : RiseG l) (hln : l.length ≤ 1000) (ha : a < 18446744073709551616) (hn : n < 18446744073709551616) (hdl : (rowG l a).dly ≤ 1073741824) :
    Calls Try.prog 88 #[.agg #[v], .int .u64 (a : Nat), .int .u64 (n : Nat)] w (RetG w (rulkS l (rowG l a) n)) := by
  have HS := Lib.hid hs
  have HRI := Lib.hid hr
  have HLN := Lib.hid hln
  have HROK := Lib.hid (rowG_ok hs.oks ha (a := a))
  have hv1 : v.oneCell' = true := by obtain ⟨A, c, rfl, _⟩ := hs.len; rfl
  have HV := Lib.hid hv1
  have HN := Lib.hid hn
  have HDL := Lib.hid hdl
  clear hn hdl
  obtain ⟨w0, hw0⟩ : ∃ w0, (w.alloc (.cells #[v] 88)).alloc (.cells #[.slice none 0 0] 88) = w0 := ⟨_, rfl⟩
  have HW0 := Lib.hid hw0
  have HL : Hid (Cs w0 w.heap.size 88 #[v]) := Lib.hid (by rw [← hw0]; exact Cs.alloc (Cs.new _ _ _ _ rfl) _)
  have HR : Hid (Cs w0 (w.heap.size + 1) 88 #[.slice none 0 0]) := Lib.hid (by rw [← hw0]; exact Cs.new _ _ _ _ (by rw [World.size_alloc]))
  have HE : Hid (Ext w w0) := Lib.hid (by rw [← hw0]; exact (((Ext.refl w).alloc _).alloc _))
  clear hs hw0 hv1 ha hr hln
  go_enter Try.func88, Try.ntmps88
  go_upto_region 1 with fail
  rw [HW0.out]
  clear HW0
  obtain ⟨gL, hgL⟩ : ∃ g, w.heap.size = g := ⟨_, rfl⟩
  obtain ⟨gR, hgR⟩ : ∃ g, w.heap.size + 1 = g := ⟨_, rfl⟩
  have HGL := Lib.hid (show w.heap.size ≤ gL by omega)
  have HGR := Lib.hid (show w.heap.size ≤ gR by omega)
  rw [hgR] at HR ⊢
  rw [hgL] at HL ⊢
  clear hgL hgR
  have q2 := HL.out.cell 0 _ rfl
  go_wp2_with fail
  refine (refFind_any v l a _ (HS.out.ext HE.out) HRI.out).mono ?_
  rintro e w1 ⟨rfl, he⟩
  have HX := Lib.hid he
  clear he q2
  generalize rowG l a = h at *
  have HPO := Lib.hid (hdc_one h)
  obtain ⟨pc, hpc⟩ : ∃ pc, hdc h = pc := ⟨_, rfl⟩
  have HPC := Lib.hid hpc
  have HPS := Lib.hid (show pc.size = 11 by rw [← hpc]; rfl)
  rw [hpc] at HPO ⊢
  clear hpc
  go_upto_region 2 with ((with_reducible refine wpList_store_agg ?_ ?_ 97 (.tmp 8) (.tmp 11) ?_ hdinfo w1.heap.size (hdc hz0) pc ?_ ?_ ?_ ?_ ?_ ?_ ?_); (exact rfl); (exact rfl); (exact rfl); (exact HPO.out); (exact rfl); (exact rfl); (exact Cs.new _ _ _ _ rfl); (exact rfl); (exact HPS.out); intro w5 k5 g5; have K5 := Lib.hid k5; have G5 := Lib.hid g5; clear k5 g5)
  rw [← HPC.out] at K5
  clear HPC HPO HPS
  have HX5 := Lib.hid (HX.out.trans (((Ext.refl w1).alloc _).grown G5.out (Nat.le_refl _)))
  have HG8 := Lib.hid (show w0.heap.size ≤ w1.heap.size from HX.out.size)
  obtain ⟨g8, hg8⟩ : ∃ g8, w1.heap.size = g8 := ⟨_, rfl⟩
  rw [hg8] at K5 HG8 ⊢
  clear hg8 HX G5
  have HSP0 : Hid (rulkS l h n = if 1099511627776 < n then ([], 2) else if h.stk = 0 ∨ 0 < h.fre then ([], 172) else putR l { h with fre := n + h.dly }) := Lib.hid rfl
  have HP2 := Lib.hid (show h.stk < M256 from HROK.out.2.2.1)
  have HOK1 := Lib.hid (show h.addr < 18446744073709551616 ∧ h.dep < M256 ∧ h.dly < 18446744073709551616 from ⟨HROK.out.1, HROK.out.2.1, HROK.out.2.2.2.1⟩)
  clear HROK
  by_cases hn0 : 1099511627776 < n
  · have HSP := Lib.hid (show rulkS l h n = ([], 2) by rw [HSP0.out, if_pos hn0])
    have ea : decide ((n : Int) > 1099511627776) = true := decide_eq_true (by omega)
    have eb : decide ((1099511627776 : Int) < (n : Int)) = true := decide_eq_true (by omega)
    have ec : decide (1099511627776 < n) = true := decide_eq_true (by omega)
    clear hn0 HSP0
    have HRX := Lib.hid (Cs.ext HR.out HX5.out)
    go_wp2_with ((with_reducible refine wpList_store_agg ?_ ?_ 88 (.tmp 6) (.tmp 14) ?_ ldinfo gR #[.slice none 0 0] #[.slice none 0 0] ?_ ?_ ?_ ?_ ?_ ?_ ?_); (exact rfl); (exact rfl); (exact rfl); (exact one_slice _ _ _); (exact rfl); (exact rfl); (exact HRX.out); (exact rfl); (exact rfl); intro w9 k9 g9; have K9 := Lib.hid k9; have G9 := Lib.hid g9; clear k9 g9)
    refine bodyPost_ret (results_ld_tmp Try.results88 _ _ gR _ rfl K9.out) rfl ?_
    exact ⟨_, by rw [HSP.out]; rfl, by rw [HSP.out]; exact OwnH.nil _ _, (HE.out.trans HX5.out).grown G9.out HGR.out⟩
  replace HSP0 := Lib.hid (show rulkS l h n = if h.stk = 0 ∨ 0 < h.fre then ([], 172) else putR l { h with fre := n + h.dly } by rw [HSP0.out, if_neg hn0])
  have HNS := Lib.hid (show n + h.dly < 18446744073709551616 by have := HDL.out; omega)
  have HWR := Lib.hid (show IntKind.u64.wrap ((n : Int) + (h.dly : Int)) = ((n + h.dly : Nat) : Int) by rw [IntKind.wrap_u64]; have := HNS.out; omega)
  have ea : decide ((n : Int) > 1099511627776) = false := decide_eq_false (by omega)
  have eb : decide ((1099511627776 : Int) < (n : Int)) = false := decide_eq_false (by omega)
  have ec : decide (1099511627776 < n) = false := decide_eq_false (by omega)
  clear hn0
  have HKS := Lib.hid (Hb.stk K5.out)
  go_wp2_with ((with_reducible refine wpList_load_wordIn ?_ (.tmp 15) ?_ g8 5 (h.stk) ?_ ?_ ?_); (exact rfl); (exact rfl); (exact rfl); (exact HKS.out))
  clear HKS ea eb ec
  by_cases hz : h.stk = 0
  · have HSP := Lib.hid (show rulkS l h n = ([], 172) by rw [HSP0.out, if_pos (.inl hz)])
    have HZ := Lib.hid hz
    clear hz HSP0
    refine (refNone_any h.stk _ HP2.out).mono ?_
    rintro e w11 ⟨rfl, he⟩
    rw [show decide (h.stk = 0) = true from decide_eq_true HZ.out]
    replace HX5 := Lib.hid (HX5.out.trans he)
    replace K5 := Lib.hid (Cs.ext K5.out he)
    clear he
    have HRX := Lib.hid (Cs.ext HR.out HX5.out)
    go_wp2_with ((with_reducible refine wpList_store_agg ?_ ?_ 88 (.tmp 6) (.tmp 23) ?_ ldinfo gR #[.slice none 0 0] #[.slice none 0 0] ?_ ?_ ?_ ?_ ?_ ?_ ?_); (exact rfl); (exact rfl); (exact rfl); (exact one_slice _ _ _); (exact rfl); (exact rfl); (exact HRX.out); (exact rfl); (exact rfl); intro w9 k9 g9; have K9 := Lib.hid k9; have G9 := Lib.hid g9; clear k9 g9)
    refine bodyPost_ret (results_ld_tmp Try.results88 _ _ gR _ rfl K9.out) rfl ?_
    exact ⟨_, by rw [HSP.out]; rfl, by rw [HSP.out]; exact OwnH.nil _ _, (HE.out.trans HX5.out).grown G9.out HGR.out⟩
  · have HZ := Lib.hid hz
    clear hz
    refine (refNone_any h.stk _ HP2.out).mono ?_
    rintro e w11 ⟨rfl, he⟩
    rw [show decide (h.stk = 0) = false from decide_eq_false HZ.out]
    replace HX5 := Lib.hid (HX5.out.trans he)
    replace K5 := Lib.hid (Cs.ext K5.out he)
    clear he
    have q10 := Hb.fre K5.out
    by_cases hf : 0 < h.fre
    · have HSP := Lib.hid (show rulkS l h n = ([], 172) by rw [HSP0.out, if_pos (.inr hf)])
      have fa : decide ((h.fre : Int) > 0) = true := decide_eq_true (by omega)
      have fb : decide ((0 : Int) < (h.fre : Int)) = true := decide_eq_true (by omega)
      have fc : decide (0 < h.fre) = true := decide_eq_true (by omega)
      clear hf HSP0
      have HRX := Lib.hid (Cs.ext HR.out HX5.out)
      go_wp2_with ((with_reducible refine wpList_store_agg ?_ ?_ 88 (.tmp 6) (.tmp 23) ?_ ldinfo gR #[.slice none 0 0] #[.slice none 0 0] ?_ ?_ ?_ ?_ ?_ ?_ ?_); (exact rfl); (exact rfl); (exact rfl); (exact one_slice _ _ _); (exact rfl); (exact rfl); (exact HRX.out); (exact rfl); (exact rfl); intro w9 k9 g9; have K9 := Lib.hid k9; have G9 := Lib.hid g9; clear k9 g9)
      refine bodyPost_ret (results_ld_tmp Try.results88 _ _ gR _ rfl K9.out) rfl ?_
      exact ⟨_, by rw [HSP.out]; rfl, by rw [HSP.out]; exact OwnH.nil _ _, (HE.out.trans HX5.out).grown G9.out HGR.out⟩
    · have HSP := Lib.hid (show rulkS l h n = putR l { h with fre := n + h.dly } by rw [HSP0.out, if_neg (fun e => e.elim HZ.out hf)])
      have fa : decide ((h.fre : Int) > 0) = false := decide_eq_false (by omega)
      have fb : decide ((0 : Int) < (h.fre : Int)) = false := decide_eq_false (by omega)
      have fc : decide (0 < h.fre) = false := decide_eq_false (by omega)
      clear hf HSP0
      have q9 := Hb.dly K5.out
      go_upto_region 7 with ((with_reducible refine wpList_store_in1 ?_ ?_ 26 (.tmp 28) (.tmp 27) ?_ g8 10 97 (hdc h) (.int .u64 ((n + h.dly : Nat) : Int)) rfl ?_ ?_ ?_ u64info ?_ rfl ?_); (exact rfl); (exact rfl); (exact rfl); (exact rfl); (first | exact rfl | (rw [← HWR.out]; exact rfl)); (exact K5.out); (exact of_decide_eq_true rfl); intro w14 k14 g14; have K14 := Lib.hid k14; have G14 := Lib.hid g14; clear k14 g14)
      have K15 := Lib.hid (show Cs w14 g8 97 (hdc { h with fre := n + h.dly }) from K14.out)
      have HX14 := Lib.hid (HX5.out.grown G14.out HG8.out)
      clear K14 G14 HX5 K5 q9 q10 fa fb fc
      have qL := (Cs.ext HL.out HX14.out).cell 0 _ rfl
      have HKR := Lib.hid (Cs.rg K15.out)
      go_wp2_with ((with_reducible refine wpList_load_hd ?_ (.tmp 8) ?_ g8 0 ({ h with fre := n + h.dly }) ?_ ?_ ?_); (exact rfl); (exact rfl); (exact rfl); (exact HKR.out))
      refine (refPut_any v l ({ h with fre := n + h.dly }) _ (HS.out.ext (HE.out.trans HX14.out)) HRI.out HLN.out (⟨HOK1.out.1, HOK1.out.2.1, HP2.out, HOK1.out.2.2, HNS.out⟩)).mono ?_
      rintro e wp ⟨vp, rfl, ho, he⟩
      have HXP := Lib.hid (HX14.out.trans he)
      have HOP := Lib.hid ho
      have HSZ := Lib.hid (show w.heap.size ≤ _ from (HE.out.trans HX14.out).size)
      have HRX := Lib.hid (Cs.ext HR.out HXP.out)
      obtain ⟨Ap, cp, ep, _, _⟩ := ho.sl
      clear he ho qL HKR
      rw [← HSP.out] at HOP ep ⊢
      obtain ⟨mp, hmp⟩ : ∃ mp, (rulkS l h n).1.length = mp := ⟨_, rfl⟩
      rw [hmp] at ep
      clear hmp
      subst ep
      go_wp2_with ((with_reducible refine wpList_store_agg ?_ ?_ 88 (.tmp 6) (.tmp 32) ?_ ldinfo gR #[.slice none 0 0] #[.slice Ap mp cp] ?_ ?_ ?_ ?_ ?_ ?_ ?_); (exact rfl); (exact rfl); (exact rfl); (exact one_slice _ _ _); (exact rfl); (exact rfl); (exact HRX.out); (exact rfl); (exact rfl); intro w9 k9 g9; have K9 := Lib.hid k9; have G9 := Lib.hid g9; clear k9 g9)
      refine bodyPost_ret (results_ld_tmp Try.results88 _ _ gR _ rfl K9.out) rfl ?_
      exact ⟨_, rfl, (HOP.out.keptT G9.out HRX.out (by decide)).mono HSZ.out, (HE.out.trans HXP.out).grown G9.out HGR.out⟩
set_option maxRecDepth 100000 in
set_option maxHeartbeats 4000000 in
theorem refRelease_any (v : Value) (l : List Hd) (a : Nat) (n : Nat) (w : World) (hs : Hds w v l) (hr : RiseG l) (hln : l.length ≤ 1000) (ha : a < 18446744073709551616) (hn : n < 18446744073709551616) :
    Calls Try.prog 89 #[.agg #[v], .int .u64 (a : Nat), .int .u64 (n : Nat)] w (RetR w (rrelS l (rowG l a) a n)) := by
  have HS := Lib.hid hs
  have HRI := Lib.hid hr
  have HLN := Lib.hid hln
  have HROK := Lib.hid (rowG_ok hs.oks ha (a := a))
  have hv1 : v.oneCell' = true := by obtain ⟨A, c, rfl, _⟩ := hs.len; rfl
  have HV := Lib.hid hv1
  have HN := Lib.hid hn
  have HA := Lib.hid ha
  clear hn
  obtain ⟨w0, hw0⟩ : ∃ w0, ((w.alloc (.cells #[v] 88)).alloc (.cells #[.slice none 0 0] 88)).alloc (.cells (wc 0) 29) = w0 := ⟨_, rfl⟩
  have HW0 := Lib.hid hw0
  have HL : Hid (Cs w0 w.heap.size 88 #[v]) := Lib.hid (by rw [← hw0]; exact Cs.alloc (Cs.alloc (Cs.new _ _ _ _ rfl) _) _)
  have HR : Hid (Cs w0 (w.heap.size + 1) 88 #[.slice none 0 0]) := Lib.hid (by rw [← hw0]; exact Cs.alloc (Cs.new _ _ _ _ (by rw [World.size_alloc])) _)
  have HZ : Hid (Cs w0 (w.heap.size + 2) 29 (wc 0)) := Lib.hid (by rw [← hw0]; exact Cs.new _ _ _ _ (by rw [World.size_alloc, World.size_alloc]))
  have HE : Hid (Ext w w0) := Lib.hid (by rw [← hw0]; exact ((((Ext.refl w).alloc _).alloc _).alloc _))
  clear hs hw0 hv1 ha hr hln
  go_enter Try.func89, Try.ntmps89
  go_upto_region 1 with fail
  rw [← wc_zero, HW0.out]
  clear HW0
  obtain ⟨gL, hgL⟩ : ∃ g, w.heap.size = g := ⟨_, rfl⟩
  obtain ⟨gR, hgR⟩ : ∃ g, w.heap.size + 1 = g := ⟨_, rfl⟩
  obtain ⟨gZ, hgZ⟩ : ∃ g, w.heap.size + 2 = g := ⟨_, rfl⟩
  have HGL := Lib.hid (show w.heap.size ≤ gL by omega)
  have HGR := Lib.hid (show w.heap.size ≤ gR by omega)
  have HGZ := Lib.hid (show w.heap.size ≤ gZ by omega)
  rw [hgZ] at HZ ⊢
  rw [hgR] at HR ⊢
  rw [hgL] at HL ⊢
  have HRZ := Lib.hid (show gZ ≠ gR by omega)
  have HRL := Lib.hid (show gR < w0.heap.size ∧ gZ < w0.heap.size from ⟨Cs.lt HR.out, Cs.lt HZ.out⟩)
  clear hgL hgR hgZ
  have q2 := HL.out.cell 0 _ rfl
  go_wp2_with fail
  refine (refFind_any v l a _ (HS.out.ext HE.out) HRI.out).mono ?_
  rintro e w1 ⟨rfl, he⟩
  have HX := Lib.hid he
  clear he q2
  generalize rowG l a = h at *
  have HPO := Lib.hid (hdc_one h)
  obtain ⟨pc, hpc⟩ : ∃ pc, hdc h = pc := ⟨_, rfl⟩
  have HPC := Lib.hid hpc
  have HPS := Lib.hid (show pc.size = 11 by rw [← hpc]; rfl)
  rw [hpc] at HPO ⊢
  clear hpc
  go_upto_region 2 with ((with_reducible refine wpList_store_agg ?_ ?_ 97 (.tmp 9) (.tmp 14) ?_ hdinfo w1.heap.size (hdc hz0) pc ?_ ?_ ?_ ?_ ?_ ?_ ?_); (exact rfl); (exact rfl); (exact rfl); (exact HPO.out); (exact rfl); (exact rfl); (exact Cs.new _ _ _ _ rfl); (exact rfl); (exact HPS.out); intro w5 k5 g5; have K5 := Lib.hid k5; have G5 := Lib.hid g5; clear k5 g5)
  rw [← HPC.out] at K5
  clear HPC HPO HPS
  have HX5 := Lib.hid (HX.out.trans (((Ext.refl w1).alloc _).grown G5.out (Nat.le_refl _)))
  have HG8 := Lib.hid (show w0.heap.size ≤ w1.heap.size from HX.out.size)
  obtain ⟨g8, hg8⟩ : ∃ g8, w1.heap.size = g8 := ⟨_, rfl⟩
  rw [hg8] at K5 HG8 ⊢
  clear hg8 HX G5
  have HSP0 : Hid (rrelS l h a n = if 1099511627776 < n then ([], 0, 2) else if h.stk = 0 then ([], 0, 172) else if h.fre = 0 ∨ n < h.fre then ([], 0, 173) else ((putR l ⟨a, h.dep, 0, 0, 0⟩).1, h.stk, (putR l ⟨a, h.dep, 0, 0, 0⟩).2)) := Lib.hid rfl
  have HP2 := Lib.hid (show h.stk < M256 from HROK.out.2.2.1)
  have HDP := Lib.hid (show h.dep < M256 from HROK.out.2.1)
  clear HROK
  by_cases hn0 : 1099511627776 < n
  · have HSP := Lib.hid (show rrelS l h a n = ([], 0, 2) by rw [HSP0.out, if_pos hn0])
    have ea : decide ((n : Int) > 1099511627776) = true := decide_eq_true (by omega)
    have eb : decide ((1099511627776 : Int) < (n : Int)) = true := decide_eq_true (by omega)
    have ec : decide (1099511627776 < n) = true := decide_eq_true (by omega)
    clear hn0 HSP0
    have HRX := Lib.hid (Cs.ext HR.out HX5.out)
    have HZX := Lib.hid (Cs.ext HZ.out HX5.out)
    go_wp2_with (first
      | ((with_reducible refine wpList_store_agg ?_ ?_ 88 (.tmp 6) (.tmp 17) ?_ ldinfo gR #[.slice none 0 0] #[.slice none 0 0] ?_ ?_ ?_ ?_ ?_ ?_ ?_); (exact rfl); (exact rfl); (exact rfl); (exact one_slice _ _ _); (exact rfl); (exact rfl); (exact HRX.out); (exact rfl); (exact rfl); intro w9 k9 g9; have K9 := Lib.hid k9; have G9 := Lib.hid g9; clear k9 g9)
      | ((with_reducible refine wpList_store_word rfl rfl 29 (.tmp 7) (.tmp 18) rfl winfo gZ (wc 0) 0 ?_ ?_ ?_ ?_ ?_); (exact rfl); (exact rfl); (exact Cs.kept HZX.out G9.out (some_ne HRZ.out)); (exact rfl); intro wb kb gb; have Kb := Lib.hid kb; have Gb := Lib.hid gb; clear kb gb))
    refine bodyPost_ret (results_ldw_tmp Try.results89 _ _ gR gZ _ 0 rfl (Cs.kept K9.out Gb.out (some_ne (fun e => HRZ.out e.symm))) rfl Kb.out) rfl ?_
    exact ⟨_, by rw [HSP.out]; rfl, by rw [HSP.out]; exact OwnH.nil _ _, ((HE.out.trans HX5.out).grown G9.out HGR.out).grown Gb.out HGZ.out⟩
  replace HSP0 := Lib.hid (show rrelS l h a n = if h.stk = 0 then ([], 0, 172) else if h.fre = 0 ∨ n < h.fre then ([], 0, 173) else ((putR l ⟨a, h.dep, 0, 0, 0⟩).1, h.stk, (putR l ⟨a, h.dep, 0, 0, 0⟩).2) by rw [HSP0.out, if_neg hn0])
  have ea : decide ((n : Int) > 1099511627776) = false := decide_eq_false (by omega)
  have eb : decide ((1099511627776 : Int) < (n : Int)) = false := decide_eq_false (by omega)
  have ec : decide (1099511627776 < n) = false := decide_eq_false (by omega)
  clear hn0
  have HKS := Lib.hid (Hb.stk K5.out)
  go_wp2_with ((with_reducible refine wpList_load_wordIn ?_ (.tmp 19) ?_ g8 5 (h.stk) ?_ ?_ ?_); (exact rfl); (exact rfl); (exact rfl); (exact HKS.out))
  clear HKS ea eb ec
  by_cases hz : h.stk = 0
  · have HSP := Lib.hid (show rrelS l h a n = ([], 0, 172) by rw [HSP0.out, if_pos hz])
    have HZZ := Lib.hid hz
    clear hz HSP0
    refine (refNone_any h.stk _ HP2.out).mono ?_
    rintro e w11 ⟨rfl, he⟩
    rw [show decide (h.stk = 0) = true from decide_eq_true HZZ.out]
    replace HX5 := Lib.hid (HX5.out.trans he)
    replace K5 := Lib.hid (Cs.ext K5.out he)
    clear he
    have HRX := Lib.hid (Cs.ext HR.out HX5.out)
    have HZX := Lib.hid (Cs.ext HZ.out HX5.out)
    go_wp2_with (first
      | ((with_reducible refine wpList_store_agg ?_ ?_ 88 (.tmp 6) (.tmp 22) ?_ ldinfo gR #[.slice none 0 0] #[.slice none 0 0] ?_ ?_ ?_ ?_ ?_ ?_ ?_); (exact rfl); (exact rfl); (exact rfl); (exact one_slice _ _ _); (exact rfl); (exact rfl); (exact HRX.out); (exact rfl); (exact rfl); intro w9 k9 g9; have K9 := Lib.hid k9; have G9 := Lib.hid g9; clear k9 g9)
      | ((with_reducible refine wpList_store_word rfl rfl 29 (.tmp 7) (.tmp 23) rfl winfo gZ (wc 0) 0 ?_ ?_ ?_ ?_ ?_); (exact rfl); (exact rfl); (exact Cs.kept HZX.out G9.out (some_ne HRZ.out)); (exact rfl); intro wb kb gb; have Kb := Lib.hid kb; have Gb := Lib.hid gb; clear kb gb))
    refine bodyPost_ret (results_ldw_tmp Try.results89 _ _ gR gZ _ 0 rfl (Cs.kept K9.out Gb.out (some_ne (fun e => HRZ.out e.symm))) rfl Kb.out) rfl ?_
    exact ⟨_, by rw [HSP.out]; rfl, by rw [HSP.out]; exact OwnH.nil _ _, ((HE.out.trans HX5.out).grown G9.out HGR.out).grown Gb.out HGZ.out⟩
  · have HZZ := Lib.hid hz
    replace HSP0 := Lib.hid (show rrelS l h a n = if h.fre = 0 ∨ n < h.fre then ([], 0, 173) else ((putR l ⟨a, h.dep, 0, 0, 0⟩).1, h.stk, (putR l ⟨a, h.dep, 0, 0, 0⟩).2) by rw [HSP0.out, if_neg hz])
    clear hz
    refine (refNone_any h.stk _ HP2.out).mono ?_
    rintro e w11 ⟨rfl, he⟩
    rw [show decide (h.stk = 0) = false from decide_eq_false HZZ.out]
    replace HX5 := Lib.hid (HX5.out.trans he)
    replace K5 := Lib.hid (Cs.ext K5.out he)
    clear he
    have q10 := Hb.fre K5.out
    by_cases hf : h.fre = 0
    · have HSP := Lib.hid (show rrelS l h a n = ([], 0, 173) by rw [HSP0.out, if_pos (.inl hf)])
      have fa : ((h.fre : Int) == 0) = true := by rw [beq_iff_eq]; omega
      have fb : (h.fre == 0) = true := by rw [beq_iff_eq]; omega
      clear hf HSP0
      have HRX := Lib.hid (Cs.ext HR.out HX5.out)
      have HZX := Lib.hid (Cs.ext HZ.out HX5.out)
      go_wp2_with (first
        | ((with_reducible refine wpList_store_agg ?_ ?_ 88 (.tmp 6) (.tmp 33) ?_ ldinfo gR #[.slice none 0 0] #[.slice none 0 0] ?_ ?_ ?_ ?_ ?_ ?_ ?_); (exact rfl); (exact rfl); (exact rfl); (exact one_slice _ _ _); (exact rfl); (exact rfl); (exact HRX.out); (exact rfl); (exact rfl); intro w9 k9 g9; have K9 := Lib.hid k9; have G9 := Lib.hid g9; clear k9 g9)
        | ((with_reducible refine wpList_store_word rfl rfl 29 (.tmp 7) (.tmp 34) rfl winfo gZ (wc 0) 0 ?_ ?_ ?_ ?_ ?_); (exact rfl); (exact rfl); (exact Cs.kept HZX.out G9.out (some_ne HRZ.out)); (exact rfl); intro wb kb gb; have Kb := Lib.hid kb; have Gb := Lib.hid gb; clear kb gb))
      refine bodyPost_ret (results_ldw_tmp Try.results89 _ _ gR gZ _ 0 rfl (Cs.kept K9.out Gb.out (some_ne (fun e => HRZ.out e.symm))) rfl Kb.out) rfl ?_
      exact ⟨_, by rw [HSP.out]; rfl, by rw [HSP.out]; exact OwnH.nil _ _, ((HE.out.trans HX5.out).grown G9.out HGR.out).grown Gb.out HGZ.out⟩
    by_cases hl : n < h.fre
    · have HSP := Lib.hid (show rrelS l h a n = ([], 0, 173) by rw [HSP0.out, if_pos (.inr hl)])
      have fa : ((h.fre : Int) == 0) = false := by rw [beq_eq_false_iff_ne]; omega
      have fb : (h.fre == 0) = false := by rw [beq_eq_false_iff_ne]; omega
      have pa : decide ((n : Int) < (h.fre : Int)) = true := decide_eq_true (by omega)
      have pb : decide (n < h.fre) = true := decide_eq_true (by omega)
      clear hf hl HSP0
      have HRX := Lib.hid (Cs.ext HR.out HX5.out)
      have HZX := Lib.hid (Cs.ext HZ.out HX5.out)
      go_wp2_with (first
        | ((with_reducible refine wpList_store_agg ?_ ?_ 88 (.tmp 6) (.tmp 33) ?_ ldinfo gR #[.slice none 0 0] #[.slice none 0 0] ?_ ?_ ?_ ?_ ?_ ?_ ?_); (exact rfl); (exact rfl); (exact rfl); (exact one_slice _ _ _); (exact rfl); (exact rfl); (exact HRX.out); (exact rfl); (exact rfl); intro w9 k9 g9; have K9 := Lib.hid k9; have G9 := Lib.hid g9; clear k9 g9)
        | ((with_reducible refine wpList_store_word rfl rfl 29 (.tmp 7) (.tmp 34) rfl winfo gZ (wc 0) 0 ?_ ?_ ?_ ?_ ?_); (exact rfl); (exact rfl); (exact Cs.kept HZX.out G9.out (some_ne HRZ.out)); (exact rfl); intro wb kb gb; have Kb := Lib.hid kb; have Gb := Lib.hid gb; clear kb gb))
      refine bodyPost_ret (results_ldw_tmp Try.results89 _ _ gR gZ _ 0 rfl (Cs.kept K9.out Gb.out (some_ne (fun e => HRZ.out e.symm))) rfl Kb.out) rfl ?_
      exact ⟨_, by rw [HSP.out]; rfl, by rw [HSP.out]; exact OwnH.nil _ _, ((HE.out.trans HX5.out).grown G9.out HGR.out).grown Gb.out HGZ.out⟩
    have HSP := Lib.hid (show rrelS l h a n = ((putR l ⟨a, h.dep, 0, 0, 0⟩).1, h.stk, (putR l ⟨a, h.dep, 0, 0, 0⟩).2) by rw [HSP0.out, if_neg (fun e => e.elim hf hl)])
    have fa : ((h.fre : Int) == 0) = false := by rw [beq_eq_false_iff_ne]; omega
    have fb : (h.fre == 0) = false := by rw [beq_eq_false_iff_ne]; omega
    have pa : decide ((n : Int) < (h.fre : Int)) = false := decide_eq_false (by omega)
    have pb : decide (n < h.fre) = false := decide_eq_false (by omega)
    clear hf hl HSP0
    have qL := (Cs.ext HL.out HX5.out).cell 0 _ rfl
    have HKD := Lib.hid (Hb.dep K5.out)
    go_wp2_with ((with_reducible refine wpList_load_wordIn ?_ (.tmp 38) ?_ g8 1 (h.dep) ?_ ?_ ?_); (exact rfl); (exact rfl); (exact rfl); (exact HKD.out); (unfold wv wc))
    clear q10 qL HKD fa fb pa pb
    rw [hdc_dep]
    refine (refPut_any v l ⟨a, h.dep, 0, 0, 0⟩ _ (HS.out.ext (HE.out.trans HX5.out)) HRI.out HLN.out ⟨HA.out, HDP.out, M256_pos, Nat.zero_lt_succ _, Nat.zero_lt_succ _⟩).mono ?_
    rintro e wp ⟨vp, rfl, ho, he⟩
    have HXP := Lib.hid (HX5.out.trans he)
    have HOP := Lib.hid ho
    have K6 := Lib.hid (Cs.ext K5.out he)
    obtain ⟨lo, hlo⟩ : ∃ lo, w11.heap.size = lo := ⟨_, rfl⟩
    have HLO := Lib.hid (show w.heap.size ≤ lo by rw [← hlo]; exact (HE.out.trans HX5.out).size)
    rw [hlo] at HOP
    obtain ⟨Ap, cp, ep, _, _⟩ := ho.sl
    clear he ho hlo K5 HX5
    obtain ⟨mp, hmp⟩ : ∃ mp, (putR l ⟨a, h.dep, 0, 0, 0⟩).1.length = mp := ⟨_, rfl⟩
    rw [hmp] at ep
    clear hmp
    subst ep
    obtain ⟨pe, hpe⟩ : ∃ pe, (putR l ⟨a, h.dep, 0, 0, 0⟩).2 = pe := ⟨_, rfl⟩
    rw [hpe] at HSP ⊢
    clear hpe
    go_upto_region 9 with ((with_reducible refine wpList_store_agg ?_ ?_ 88 (.tmp 10) (.tmp 42) ?_ ldinfo wp.heap.size #[.slice none 0 0] #[.slice Ap mp cp] ?_ ?_ ?_ ?_ ?_ ?_ ?_); (exact rfl); (exact rfl); (exact rfl); (exact one_slice _ _ _); (exact rfl); (exact rfl); (exact Cs.new _ _ _ _ rfl); (exact rfl); (exact rfl); intro wq kq gq; have KQ := Lib.hid kq; have GQ := Lib.hid gq; clear kq gq)
    have HY := Lib.hid (((Ext.refl wp).alloc (.cells #[.slice none 0 0] 88)).grown GQ.out (Nat.le_refl _))
    have HG11 := Lib.hid (show w0.heap.size ≤ wp.heap.size from HXP.out.size)
    have HXQ := Lib.hid (HXP.out.trans HY.out)
    obtain ⟨g11, hg11⟩ : ∃ g, wp.heap.size = g := ⟨_, rfl⟩
    rw [hg11] at KQ HG11 ⊢
    clear hg11 GQ
    have HST := Lib.hid (show RlS gR gZ g8 g11 w lo h (.slice Ap mp cp) (putR l ⟨a, h.dep, 0, 0, 0⟩).1 (.slice none 0 0) 0 wq from ⟨Cs.ext HR.out HXQ.out, Cs.ext HZ.out HXQ.out, Cs.ext K6.out HY.out, KQ.out, HOP.out.ext HY.out, HE.out.trans HXQ.out⟩)
    clear HXP HXQ HY KQ K6 HOP
    refine wp_named fun a0 ha0 => ?_
    obtain ⟨fr, hfr⟩ : ∃ fr : (Nat → Value) → Act, ∀ V, fr V = (((((a0.put (some 44) (V 0)).put (some 45) (V 1)).put (some 46) (V 2)).put (some 47) (V 3)).put (some 8) (V 6)) := ⟨fun V => (((((a0.put (some 44) (V 0)).put (some 45) (V 1)).put (some 46) (V 2)).put (some 47) (V 3)).put (some 8) (V 6)), fun _ => rfl⟩
    rw [ha0] at hfr
    simp only [Act.put, List.setIfInBounds_toArray, List.set_cons_zero, List.set_cons_succ] at hfr
    have HFR := Lib.hid hfr
    clear hfr
    refine wp_region_inv (by kernel_rfl) (by kernel_rfl) (fun L A W => ∃ V : Nat → Value, A = fr V ∧ Vals (fun j => ([some (.agg #[.slice Ap mp cp]), some (.pointer (some ⟨g8, 5, none⟩)), some (wv h.stk), some (.int .i64 pe), none, none, some (.int .i64 pe)] : List (Option Value)).getD j none) L V ∧ (L 4 = false → RlS gR gZ g8 g11 w lo h (.slice Ap mp cp) (putR l ⟨a, h.dep, 0, 0, 0⟩).1 (.slice none 0 0) 0 W) ∧ (L 4 = true → L 5 = false → RlS gR gZ g8 g11 w lo h (.slice Ap mp cp) (putR l ⟨a, h.dep, 0, 0, 0⟩).1 (.slice Ap mp cp) 0 W) ∧ (L 5 = true → RlS gR gZ g8 g11 w lo h (.slice Ap mp cp) (putR l ⟨a, h.dep, 0, 0, 0⟩).1 (.slice Ap mp cp) h.stk W)) ?_ ⟨?_, ?_, ?_, ?_, ?_, ?_, ?_, trivial⟩ ?_
    · refine ⟨fun j => a0.tmps.getD (([44, 45, 46, 47, 0, 0, 8] : List Nat).getD j 0) undef, ?_, Vals.no _ _ _ (far_none _ _ rfl), fun _ => HST.out.ext (Ext.refl _).drew, fun h0 h1 => absurd h0 (by decide), fun h0 => absurd h0 (by decide)⟩
      rw [HFR.out, ha0]
      rfl
    all_goals clear ha0
    · rintro L A W K hL hC hW ⟨V, rfl, HV, s0, s1, s2⟩ hK
      have hB := s0 (hC.no hL 4 _ rfl rfl)
      have H := Lib.hid (show ∀ W', Ext W W' → K (fr (upd V 0 (.agg #[.slice Ap mp cp]))) W' from fun W' he => hK _ _ ⟨upd V 0 (.agg #[.slice Ap mp cp]), rfl, HV.up 0 _ (fun x hx => Option.some.inj hx), fun h0 => RlS.ext (s0 (by unfold More at h0; rwa [if_neg (by decide)] at h0)) he, fun h0 h1 => RlS.ext (s1 (more_ne h0 rfl) (by unfold More at h1; rwa [if_neg (by decide)] at h1)) he, fun h0 => RlS.ext (s2 (more_ne h0 rfl)) he⟩)
      clear hK hC hW hL HV s0 s1 s2
      rw [HFR.out]
      have hcl := hB.2.2.2.1.cell 0 _ rfl
      clear hB
      go_wp2_with fail
      show K _ _
      have := H.out _ (Ext.refl _)
      rw [HFR.out] at this
      exact this
    · rintro L A W K hL hC hW ⟨V, rfl, HV, s0, s1, s2⟩ hK
      have H := Lib.hid (show ∀ W', Ext W W' → K (fr (upd V 1 (.pointer (some ⟨g8, 5, none⟩)))) W' from fun W' he => hK _ _ ⟨upd V 1 (.pointer (some ⟨g8, 5, none⟩)), rfl, HV.up 1 _ (fun x hx => Option.some.inj hx), fun h0 => RlS.ext (s0 (by unfold More at h0; rwa [if_neg (by decide)] at h0)) he, fun h0 h1 => RlS.ext (s1 (more_ne h0 rfl) (by unfold More at h1; rwa [if_neg (by decide)] at h1)) he, fun h0 => RlS.ext (s2 (more_ne h0 rfl)) he⟩)
      clear hK hC hW hL HV s0 s1 s2
      rw [HFR.out]
      go_wp2_with fail
      show K _ _
      have := H.out _ (Ext.refl _)
      rw [HFR.out] at this
      exact this
    · rintro L A W K hL hC hW ⟨V, rfl, HV, s0, s1, s2⟩ hK
      have e1 : V 1 = .pointer (some ⟨g8, 5, none⟩) := HV 1 _ rfl (hW 1 rfl)
      have hB : Hb W g8 h := by
        cases h4 : L 4 with
        | false => exact (s0 h4).2.2.1
        | true => exact (s1 h4 (hC.no hL 5 _ rfl rfl)).2.2.1
      have H := Lib.hid (show ∀ W', Ext W W' → K (fr (upd V 2 (wv h.stk))) W' from fun W' he => hK _ _ ⟨upd V 2 (wv h.stk), rfl, HV.up 2 _ (fun x hx => Option.some.inj hx), fun h0 => RlS.ext (s0 (by unfold More at h0; rwa [if_neg (by decide)] at h0)) he, fun h0 h1 => RlS.ext (s1 (more_ne h0 rfl) (by unfold More at h1; rwa [if_neg (by decide)] at h1)) he, fun h0 => RlS.ext (s2 (more_ne h0 rfl)) he⟩)
      have HU := Lib.hid (show (upd V 2 (wv h.stk)) 1 = .pointer (some ⟨g8, 5, none⟩) from e1)
      clear hK hC hW hL HV s0 s1 s2
      rw [HFR.out]
      rw [e1]
      clear e1
      have HWW := Lib.hid (Hb.stk hB)
      clear hB
      refine wpList_load_wordIn rfl (.tmp 45) rfl g8 5 h.stk rfl HWW.out ?_
      show K _ _
      have := H.out _ (Ext.refl _)
      rw [HFR.out] at this
      obtain u1 := HU.out
      rw [u1] at this
      exact this
    · rintro L A W K hL hC hW ⟨V, rfl, HV, s0, s1, s2⟩ hK
      have H := Lib.hid (show ∀ W', Ext W W' → K (fr (upd V 3 (.int .i64 pe))) W' from fun W' he => hK _ _ ⟨upd V 3 (.int .i64 pe), rfl, HV.up 3 _ (fun x hx => Option.some.inj hx), fun h0 => RlS.ext (s0 (by unfold More at h0; rwa [if_neg (by decide)] at h0)) he, fun h0 h1 => RlS.ext (s1 (more_ne h0 rfl) (by unfold More at h1; rwa [if_neg (by decide)] at h1)) he, fun h0 => RlS.ext (s2 (more_ne h0 rfl)) he⟩)
      clear hK hC hW hL HV s0 s1 s2
      rw [HFR.out]
      go_wp2_with fail
      show K _ _
      have := H.out _ (Ext.refl _)
      rw [HFR.out] at this
      exact this
    · rintro L A W K hL hC hW ⟨V, rfl, HV, s0, s1, s2⟩ hK
      have e0 : V 0 = .agg #[.slice Ap mp cp] := HV 0 _ rfl (hW 0 rfl)
      have hB := s0 hL
      have H := Lib.hid (show ∀ W', (RlS gR gZ g8 g11 w lo h (.slice Ap mp cp) (putR l ⟨a, h.dep, 0, 0, 0⟩).1 (.slice Ap mp cp) 0 W') → K (fr (V)) W' from fun W' hA => hK _ _ ⟨V, rfl, HV.st 4 rfl, fun h0 => absurd h0 (by unfold More; rw [if_pos rfl]; simp), fun h0 h1 => hA, fun h0 => absurd (more_ne h0 rfl) (by rw [(hC.no hL 5 _ rfl rfl)]; simp)⟩)
      have HU := Lib.hid (show (V) 0 = .agg #[.slice Ap mp cp] from e0)
      clear hK hC hW hL HV s0 s1 s2
      rw [HFR.out]
      rw [e0]
      clear e0
      have HB := Lib.hid hB
      clear hB
      refine wpList_store_agg rfl rfl 88 (.tmp 6) (.tmp 44) rfl ldinfo gR #[.slice none 0 0] #[.slice Ap mp cp] (one_slice _ _ _) rfl rfl HB.out.1 rfl rfl ?_
      intro w' kk gg
      have HA := Lib.hid (show RlS gR gZ g8 g11 w lo h (.slice Ap mp cp) (putR l ⟨a, h.dep, 0, 0, 0⟩).1 (.slice Ap mp cp) 0 w' from ⟨kk, Cs.kept HB.out.2.1 gg (some_ne HRZ.out), Cs.kept HB.out.2.2.1 gg (some_ne (by have := HRL.out.1; have := HG8.out; omega)), Cs.kept HB.out.2.2.2.1 gg (some_ne (by have := HRL.out.1; have := HG11.out; omega)), HB.out.2.2.2.2.1.keptT gg HB.out.1 (by decide), HB.out.2.2.2.2.2.grown gg HGR.out⟩)
      clear kk gg
      show K _ _
      have := H.out _ HA.out
      rw [HFR.out] at this
      obtain u0 := HU.out
      rw [u0] at this
      exact this
    · rintro L A W K hL hC hW ⟨V, rfl, HV, s0, s1, s2⟩ hK
      have e2 : V 2 = wv h.stk := HV 2 _ rfl (hW 2 rfl)
      have hB := s1 (hW 4 rfl) hL
      have H := Lib.hid (show ∀ W', (RlS gR gZ g8 g11 w lo h (.slice Ap mp cp) (putR l ⟨a, h.dep, 0, 0, 0⟩).1 (.slice Ap mp cp) h.stk W') → K (fr (V)) W' from fun W' hA => hK _ _ ⟨V, rfl, HV.st 5 rfl, fun h0 => absurd (show L 4 = false by unfold More at h0; rwa [if_neg (by decide)] at h0) (by rw [(hW 4 rfl)]; simp), fun h0 h1 => absurd h1 (by unfold More; rw [if_pos rfl]; simp), fun h0 => hA⟩)
      have HU := Lib.hid (show (V) 2 = wv h.stk from e2)
      clear hK hC hW hL HV s0 s1 s2
      rw [HFR.out]
      rw [e2]
      clear e2
      have HB := Lib.hid hB
      clear hB
      refine wpList_store_word rfl rfl 29 (.tmp 7) (.tmp 46) rfl winfo gZ (wc 0) h.stk rfl rfl HB.out.2.1 rfl ?_
      intro w' kk gg
      have HA := Lib.hid (show RlS gR gZ g8 g11 w lo h (.slice Ap mp cp) (putR l ⟨a, h.dep, 0, 0, 0⟩).1 (.slice Ap mp cp) h.stk w' from ⟨Cs.kept HB.out.1 gg (some_ne (fun e => HRZ.out e.symm)), kk, Cs.kept HB.out.2.2.1 gg (some_ne (by have := HRL.out.2; have := HG8.out; omega)), Cs.kept HB.out.2.2.2.1 gg (some_ne (by have := HRL.out.2; have := HG11.out; omega)), HB.out.2.2.2.2.1.keptT gg HB.out.2.1 (by decide), HB.out.2.2.2.2.2.grown gg HGZ.out⟩)
      clear kk gg
      show K _ _
      have := H.out _ HA.out
      rw [HFR.out] at this
      obtain u2 := HU.out
      rw [u2] at this
      exact this
    · rintro L A W K hL hC hW ⟨V, rfl, HV, s0, s1, s2⟩ hK
      have e3 : V 3 = .int .i64 pe := HV 3 _ rfl (hW 3 rfl)
      have H := Lib.hid (show ∀ W', Ext W W' → K (fr (upd V 6 (.int .i64 pe))) W' from fun W' he => hK _ _ ⟨upd V 6 (.int .i64 pe), rfl, HV.up 6 _ (fun x hx => Option.some.inj hx), fun h0 => RlS.ext (s0 (by unfold More at h0; rwa [if_neg (by decide)] at h0)) he, fun h0 h1 => RlS.ext (s1 (more_ne h0 rfl) (by unfold More at h1; rwa [if_neg (by decide)] at h1)) he, fun h0 => RlS.ext (s2 (more_ne h0 rfl)) he⟩)
      have HU := Lib.hid (show (upd V 6 (.int .i64 pe)) 3 = .int .i64 pe from e3)
      clear hK hC hW hL HV s0 s1 s2
      rw [HFR.out]
      rw [e3]
      clear e3
      go_wp2_with fail
      show K _ _
      have := H.out _ (Ext.refl _)
      rw [HFR.out] at this
      obtain u3 := HU.out
      rw [u3] at this
      exact this
    · rintro L A W hL ⟨V, rfl, HV, s0, s1, s2⟩
      have e0 : V 0 = .agg #[.slice Ap mp cp] := HV 0 _ rfl (hL 0 (by simp))
      have e1 : V 1 = .pointer (some ⟨g8, 5, none⟩) := HV 1 _ rfl (hL 1 (by simp))
      have e2 : V 2 = wv h.stk := HV 2 _ rfl (hL 2 (by simp))
      have e3 : V 3 = .int .i64 pe := HV 3 _ rfl (hL 3 (by simp))
      have e6 : V 6 = .int .i64 pe := HV 6 _ rfl (hL 6 (by simp))
      have hA := s2 (hL 5 (by simp))
      rw [HFR.out]
      rw [e0, e1, e2, e3, e6]
      clear hL HV HFR e0 e1 e2 e3 e6 s0 s1 s2
      have HX := Lib.hid hA
      clear hA
      go_wp2_with fail
      refine bodyPost_ret (results_ldw_tmp Try.results89 _ _ gR gZ (.slice Ap mp cp) h.stk rfl HX.out.1 rfl HX.out.2.1) rfl ?_
      exact ⟨_, by rw [HSP.out]; rfl, by rw [HSP.out]; exact HX.out.2.2.2.2.1.mono HLO.out, HX.out.2.2.2.2.2⟩
end Go.Proofs.Ytepggbhibpjkpaa
