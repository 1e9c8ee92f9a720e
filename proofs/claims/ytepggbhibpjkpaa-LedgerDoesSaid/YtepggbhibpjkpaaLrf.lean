/- The document's Deposit, Withdraw of layer 7. -/
import Derived.Test.YtepggbhibpjkpaaLrm
import Derived.Test.YtepggbhibpjkpaaLrn
namespace Go.Proofs.Ytepggbhibpjkpaa
open Go.ChangeShapes Go.WideShapes Go.ChangeAt Go.RowKit Go.Shelf

set_option maxRecDepth 100000 in
theorem refPut_any (v : Value) (l : List Hd) (h : Hd) (w : World) (hs : Hds w v l) (hr : RiseG l) (hln : l.length ≤ 1000) (hok : h.ok) : Calls Try.prog 137 #[.agg #[v], .agg (hdc h)] w (RetG w (putR l h)) := by
  by_cases hz : h.dep = 0
  · exact refPut_zero v l h w hs hr hln hok hz
  · exact refPut_some v l h w hs hr hln hok hz
def rdepS (l : List Hd) (h : Hd) (n : Nat) : List Hd × Int := if ovr h.dep n then ([], 171) else putR l { h with dep := addN h.dep n }
def rwdrS (l : List Hd) (h : Hd) (n : Nat) : List Hd × Int := if h.dep < n then ([], 162) else putR l { h with dep := subN h.dep n }
def rbndS (l : List Hd) (h : Hd) (n d : Nat) : List Hd × Int := if d < 1 ∨ 1073741824 < d ∨ d < h.dly then ([], 2) else if h.stk = 0 ∧ n = 0 then ([], 172) else if ovr h.stk n then ([], 171) else putR l { h with stk := addN h.stk n, dly := d, fre := 0 }
set_option maxRecDepth 100000 in
set_option maxHeartbeats 4000000 in
theorem refDeposit_any (v : Value) (l : List Hd) (a : Nat) (n : Nat) (w : World) (hs : Hds w v l) (hr : RiseG l) (hln : l.length ≤ 1000) (ha : a < 18446744073709551616) (hn : n < M256) :
    Calls Try.prog 85 #[.agg #[v], .int .u64 (a : Nat), wv n] w (RetG w (rdepS l (rowG l a) n)) := by
  have HS := Lib.hid hs
  have HRI := Lib.hid hr
  have HLN := Lib.hid hln
  have HROK := Lib.hid (rowG_ok hs.oks ha (a := a))
  have hv1 : v.oneCell' = true := by obtain ⟨A, c, rfl, _⟩ := hs.len; rfl
  have HV := Lib.hid hv1
  have HN := Lib.hid hn
  obtain ⟨w0, hw0⟩ : ∃ w0, ((w.alloc (.cells #[v] 88)).alloc (.cells (wc n) 29)).alloc (.cells #[.slice none 0 0] 88) = w0 := ⟨_, rfl⟩
  have HW0 := Lib.hid hw0
  have HL : Hid (Cs w0 w.heap.size 88 #[v]) := Lib.hid (by rw [← hw0]; exact Cs.alloc (Cs.alloc (Cs.new _ _ _ _ rfl) _) _)
  have HW : Hid (Cs w0 (w.heap.size + 1) 29 (wc n)) := Lib.hid (by rw [← hw0]; exact Cs.alloc (Cs.new _ _ _ _ (by rw [World.size_alloc])) _)
  have HR : Hid (Cs w0 (w.heap.size + 2) 88 #[.slice none 0 0]) := Lib.hid (by rw [← hw0]; exact Cs.new _ _ _ _ (by rw [World.size_alloc, World.size_alloc]))
  have HE : Hid (Ext w w0) := Lib.hid (by rw [← hw0]; exact ((((Ext.refl w).alloc _).alloc _).alloc _))
  clear hs hw0 hv1 ha hr hln
  unfold wv
  go_enter Try.func85, Try.ntmps85
  go_upto_region 1 with fail
  rw [HW0.out]
  clear HW0
  obtain ⟨gL, hgL⟩ : ∃ g, w.heap.size = g := ⟨_, rfl⟩
  obtain ⟨gW, hgW⟩ : ∃ g, w.heap.size + 1 = g := ⟨_, rfl⟩
  obtain ⟨gR, hgR⟩ : ∃ g, w.heap.size + 2 = g := ⟨_, rfl⟩
  have HGL := Lib.hid (show w.heap.size ≤ gL by omega)
  have HGW := Lib.hid (show w.heap.size ≤ gW by omega)
  have HGR := Lib.hid (show w.heap.size ≤ gR by omega)
  rw [hgR] at HR ⊢
  rw [hgW] at HW ⊢
  rw [hgL] at HL ⊢
  clear hgL hgW hgR
  have q2 := HL.out.cell 0 _ rfl
  go_wp2_with fail
  refine (refFind_any v l a _ (HS.out.ext HE.out) HRI.out).mono ?_
  rintro e w1 ⟨rfl, he⟩
  have HX := Lib.hid he
  clear he q2
  generalize rowG l a = h at *
  have HPO := Lib.hid (hdc_one h)
  obtain ⟨pc, hpc⟩ : ∃ pc, hdc h = pc := ⟨_, rfl⟩
  have HPC := Lib.hid hpc
  have HPS := Lib.hid (show pc.size = 11 by rw [← hpc]; rfl)
  rw [hpc] at HPO ⊢
  clear hpc
  go_upto_region 2 with ((with_reducible refine wpList_store_agg ?_ ?_ 97 (.tmp 8) (.tmp 13) ?_ hdinfo w1.heap.size (hdc hz0) pc ?_ ?_ ?_ ?_ ?_ ?_ ?_); (exact rfl); (exact rfl); (exact rfl); (exact HPO.out); (exact rfl); (exact rfl); (exact Cs.new _ _ _ _ rfl); (exact rfl); (exact HPS.out); intro w5 k5 g5; have K5 := Lib.hid k5; have G5 := Lib.hid g5; clear k5 g5)
  rw [← HPC.out] at K5
  clear HPC HPO HPS
  have HX5 := Lib.hid (HX.out.trans (((Ext.refl w1).alloc _).grown G5.out (Nat.le_refl _)))
  have HG8 := Lib.hid (show w0.heap.size ≤ w1.heap.size from HX.out.size)
  obtain ⟨g8, hg8⟩ : ∃ g8, w1.heap.size = g8 := ⟨_, rfl⟩
  rw [hg8] at K5 HG8 ⊢
  clear hg8 HX G5
  have HWX := Lib.hid (Cs.rg (Cs.ext HW.out HX5.out))
  have HDR := Lib.hid (Hb.dep K5.out)
  have hvok := HROK.out.2.1
  have HDL := Lib.hid hvok
  clear hvok
  go_wp2_with (first
    | ((with_reducible refine wpList_load_wordIn ?_ (.tmp 15) ?_ g8 1 (h.dep) ?_ ?_ ?_); (exact rfl); (exact rfl); (exact rfl); (exact HDR.out))
    | ((with_reducible refine wpList_load_wordIn ?_ (.tmp 5) ?_ gW 0 (n) ?_ ?_ ?_); (exact rfl); (exact rfl); (exact rfl); (exact HWX.out)))
  refine (refAdd_any h.dep n _ HDL.out HN.out).mono ?_
  rintro e w7 ⟨rfl, hdm, he⟩
  have HX7 := Lib.hid (HX5.out.trans he)
  have K7 := Lib.hid (Cs.ext K5.out he)
  have HSP0 : Hid (rdepS l h n = if ovr h.dep n then ([], 171) else putR l { h with dep := addN h.dep n }) := Lib.hid rfl
  have HDM := Lib.hid hdm
  clear he hdm K5 HX5 HDR
  generalize addN h.dep n = d at *
  generalize ovr h.dep n = ob at *
  go_upto_region 3 with ((with_reducible refine wpList_store_word rfl rfl 29 (.tmp 9) (.tmp 19) rfl winfo w7.heap.size (wc 0) d ?_ ?_ ?_ ?_ ?_); (exact rfl); (exact rfl); (exact Cs.new _ _ _ _ rfl); (exact rfl); intro w6 k6 g6; have K6 := Lib.hid k6; have G6 := Lib.hid g6; clear k6 g6)
  have HX6 := Lib.hid (HX7.out.trans (((Ext.refl w7).alloc _).grown G6.out (Nat.le_refl _)))
  have K5 := Lib.hid (Cs.ext K7.out (((Ext.refl w7).alloc (.cells (wc 0) 29)).grown G6.out (Nat.le_refl _)))
  obtain ⟨g10, hg10⟩ : ∃ g, w7.heap.size = g := ⟨_, rfl⟩
  rw [hg10] at K6 ⊢
  clear hg10 G6 K7 HX7
  cases ob with
  | true =>
    have HSP := Lib.hid (show rdepS l h n = ([], 171) from HSP0.out)
    clear HSP0
    have HRX := Lib.hid (Cs.ext HR.out HX6.out)
    go_wp2_with ((with_reducible refine wpList_store_agg ?_ ?_ 88 (.tmp 6) (.tmp 22) ?_ ldinfo gR #[.slice none 0 0] #[.slice none 0 0] ?_ ?_ ?_ ?_ ?_ ?_ ?_); (exact rfl); (exact rfl); (exact rfl); (exact one_slice _ _ _); (exact rfl); (exact rfl); (exact HRX.out); (exact rfl); (exact rfl); intro w9 k9 g9; have K9 := Lib.hid k9; have G9 := Lib.hid g9; clear k9 g9)
    refine bodyPost_ret (results_ld_tmp Try.results85 _ _ gR _ rfl K9.out) rfl ?_
    exact ⟨_, by rw [HSP.out]; rfl, by rw [HSP.out]; exact OwnH.nil _ _, (HE.out.trans HX6.out).grown G9.out HGR.out⟩
  | false =>
    have HSP := Lib.hid (show rdepS l h n = putR l { h with dep := d } from HSP0.out)
    have HWD := Lib.hid (Cs.rg K6.out)
    clear HSP0
    go_upto_region 6 with (first
      | ((with_reducible refine wpList_load_wordIn ?_ (.tmp 9) ?_ g10 0 (d) ?_ ?_ ?_); (exact rfl); (exact rfl); (exact rfl); (exact HWD.out))
      | ((with_reducible refine wpList_store_in ?_ ?_ 29 (.tmp 24) (.tmp 23) ?_ g8 1 97 (hdc h) (wc d) ?_ ?_ ?_ ?_ ?_ ?_ ?_); (exact rfl); (exact rfl); (exact rfl); (exact rfl); (exact rfl); (exact K5.out); (exact winfo); (exact of_decide_eq_true rfl); (exact wc_one d); intro w8 k8 g8; have K8 := Lib.hid k8; have G8 := Lib.hid g8; clear k8 g8))
    have K9' := Lib.hid (show Cs w8 g8 97 (hdc { h with dep := d }) from K8.out)
    have HX8 := Lib.hid (HX6.out.grown G8.out HG8.out)
    clear K8 G8 HX6 K6 HWD K5
    have qL := (Cs.ext HL.out HX8.out).cell 0 _ rfl
    have HKR := Lib.hid (Cs.rg K9'.out)
    go_wp2_with ((with_reducible refine wpList_load_hd ?_ (.tmp 8) ?_ g8 0 ({ h with dep := d }) ?_ ?_ ?_); (exact rfl); (exact rfl); (exact rfl); (exact HKR.out))
    refine (refPut_any v l ({ h with dep := d }) _ (HS.out.ext (HE.out.trans HX8.out)) HRI.out HLN.out (⟨HROK.out.1, HDM.out, HROK.out.2.2⟩)).mono ?_
    rintro e wp ⟨vp, rfl, ho, he⟩
    have HXP := Lib.hid (HX8.out.trans he)
    have HOP := Lib.hid ho
    have HSZ := Lib.hid (show w.heap.size ≤ _ from (HE.out.trans HX8.out).size)
    have HRX := Lib.hid (Cs.ext HR.out HXP.out)
    obtain ⟨Ap, cp, ep, _, _⟩ := ho.sl
    clear he ho qL HKR
    rw [← HSP.out] at HOP ep ⊢
    obtain ⟨mp, hmp⟩ : ∃ mp, (rdepS l h n).1.length = mp := ⟨_, rfl⟩
    rw [hmp] at ep
    clear hmp
    subst ep
    go_wp2_with ((with_reducible refine wpList_store_agg ?_ ?_ 88 (.tmp 6) (.tmp 28) ?_ ldinfo gR #[.slice none 0 0] #[.slice Ap mp cp] ?_ ?_ ?_ ?_ ?_ ?_ ?_); (exact rfl); (exact rfl); (exact rfl); (exact one_slice _ _ _); (exact rfl); (exact rfl); (exact HRX.out); (exact rfl); (exact rfl); intro w9 k9 g9; have K9 := Lib.hid k9; have G9 := Lib.hid g9; clear k9 g9)
    refine bodyPost_ret (results_ld_tmp Try.results85 _ _ gR _ rfl K9.out) rfl ?_
    exact ⟨_, rfl, (HOP.out.keptT G9.out HRX.out (by decide)).mono HSZ.out, (HE.out.trans HXP.out).grown G9.out HGR.out⟩
set_option maxRecDepth 100000 in
set_option maxHeartbeats 4000000 in
theorem refWithdraw_any (v : Value) (l : List Hd) (a : Nat) (n : Nat) (w : World) (hs : Hds w v l) (hr : RiseG l) (hln : l.length ≤ 1000) (ha : a < 18446744073709551616) (hn : n < M256) :
    Calls Try.prog 86 #[.agg #[v], .int .u64 (a : Nat), wv n] w (RetG w (rwdrS l (rowG l a) n)) := by
  have HS := Lib.hid hs
  have HRI := Lib.hid hr
  have HLN := Lib.hid hln
  have HROK := Lib.hid (rowG_ok hs.oks ha (a := a))
  have hv1 : v.oneCell' = true := by obtain ⟨A, c, rfl, _⟩ := hs.len; rfl
  have HV := Lib.hid hv1
  have HN := Lib.hid hn
  obtain ⟨w0, hw0⟩ : ∃ w0, ((w.alloc (.cells #[v] 88)).alloc (.cells (wc n) 29)).alloc (.cells #[.slice none 0 0] 88) = w0 := ⟨_, rfl⟩
  have HW0 := Lib.hid hw0
  have HL : Hid (Cs w0 w.heap.size 88 #[v]) := Lib.hid (by rw [← hw0]; exact Cs.alloc (Cs.alloc (Cs.new _ _ _ _ rfl) _) _)
  have HW : Hid (Cs w0 (w.heap.size + 1) 29 (wc n)) := Lib.hid (by rw [← hw0]; exact Cs.alloc (Cs.new _ _ _ _ (by rw [World.size_alloc])) _)
  have HR : Hid (Cs w0 (w.heap.size + 2) 88 #[.slice none 0 0]) := Lib.hid (by rw [← hw0]; exact Cs.new _ _ _ _ (by rw [World.size_alloc, World.size_alloc]))
  have HE : Hid (Ext w w0) := Lib.hid (by rw [← hw0]; exact ((((Ext.refl w).alloc _).alloc _).alloc _))
  clear hs hw0 hv1 ha hr hln
  unfold wv
  go_enter Try.func86, Try.ntmps86
  go_upto_region 1 with fail
  rw [HW0.out]
  clear HW0
  obtain ⟨gL, hgL⟩ : ∃ g, w.heap.size = g := ⟨_, rfl⟩
  obtain ⟨gW, hgW⟩ : ∃ g, w.heap.size + 1 = g := ⟨_, rfl⟩
  obtain ⟨gR, hgR⟩ : ∃ g, w.heap.size + 2 = g := ⟨_, rfl⟩
  have HGL := Lib.hid (show w.heap.size ≤ gL by omega)
  have HGW := Lib.hid (show w.heap.size ≤ gW by omega)
  have HGR := Lib.hid (show w.heap.size ≤ gR by omega)
  rw [hgR] at HR ⊢
  rw [hgW] at HW ⊢
  rw [hgL] at HL ⊢
  clear hgL hgW hgR
  have q2 := HL.out.cell 0 _ rfl
  go_wp2_with fail
  refine (refFind_any v l a _ (HS.out.ext HE.out) HRI.out).mono ?_
  rintro e w1 ⟨rfl, he⟩
  have HX := Lib.hid he
  clear he q2
  generalize rowG l a = h at *
  have HPO := Lib.hid (hdc_one h)
  obtain ⟨pc, hpc⟩ : ∃ pc, hdc h = pc := ⟨_, rfl⟩
  have HPC := Lib.hid hpc
  have HPS := Lib.hid (show pc.size = 11 by rw [← hpc]; rfl)
  rw [hpc] at HPO ⊢
  clear hpc
  go_upto_region 2 with ((with_reducible refine wpList_store_agg ?_ ?_ 97 (.tmp 8) (.tmp 11) ?_ hdinfo w1.heap.size (hdc hz0) pc ?_ ?_ ?_ ?_ ?_ ?_ ?_); (exact rfl); (exact rfl); (exact rfl); (exact HPO.out); (exact rfl); (exact rfl); (exact Cs.new _ _ _ _ rfl); (exact rfl); (exact HPS.out); intro w5 k5 g5; have K5 := Lib.hid k5; have G5 := Lib.hid g5; clear k5 g5)
  rw [← HPC.out] at K5
  clear HPC HPO HPS
  have HX5 := Lib.hid (HX.out.trans (((Ext.refl w1).alloc _).grown G5.out (Nat.le_refl _)))
  have HG8 := Lib.hid (show w0.heap.size ≤ w1.heap.size from HX.out.size)
  obtain ⟨g8, hg8⟩ : ∃ g8, w1.heap.size = g8 := ⟨_, rfl⟩
  rw [hg8] at K5 HG8 ⊢
  clear hg8 HX G5
  have HWX := Lib.hid (Cs.rg (Cs.ext HW.out HX5.out))
  have HDR := Lib.hid (Hb.dep K5.out)
  have hvok := HROK.out.2.1
  have HDL := Lib.hid hvok
  clear hvok
  have HSP0 : Hid (rwdrS l h n = if h.dep < n then ([], 162) else putR l { h with dep := subN h.dep n }) := Lib.hid rfl
  go_wp2_with (first
    | ((with_reducible refine wpList_load_wordIn ?_ (.tmp 12) ?_ g8 1 (h.dep) ?_ ?_ ?_); (exact rfl); (exact rfl); (exact rfl); (exact HDR.out))
    | ((with_reducible refine wpList_load_wordIn ?_ (.tmp 5) ?_ gW 0 (n) ?_ ?_ ?_); (exact rfl); (exact rfl); (exact rfl); (exact HWX.out)))
  refine (refCmp_any h.dep n _ HDL.out HN.out).mono ?_
  rintro e w6 ⟨rfl, he⟩
  have HX6 := Lib.hid (HX5.out.trans he)
  have K6 := Lib.hid (Cs.ext K5.out he)
  clear he K5 HX5 HDR HWX
  by_cases hlt : h.dep < n
  · have HSP := Lib.hid (show rwdrS l h n = ([], 162) by rw [HSP0.out, if_pos hlt])
    rw [show cmpN h.dep n = -1 from if_pos hlt]
    clear hlt HSP0
    have HRX := Lib.hid (Cs.ext HR.out HX6.out)
    go_wp2_with ((with_reducible refine wpList_store_agg ?_ ?_ 88 (.tmp 6) (.tmp 17) ?_ ldinfo gR #[.slice none 0 0] #[.slice none 0 0] ?_ ?_ ?_ ?_ ?_ ?_ ?_); (exact rfl); (exact rfl); (exact rfl); (exact one_slice _ _ _); (exact rfl); (exact rfl); (exact HRX.out); (exact rfl); (exact rfl); intro w9 k9 g9; have K9 := Lib.hid k9; have G9 := Lib.hid g9; clear k9 g9)
    refine bodyPost_ret (results_ld_tmp Try.results86 _ _ gR _ rfl K9.out) rfl ?_
    exact ⟨_, by rw [HSP.out]; rfl, by rw [HSP.out]; exact OwnH.nil _ _, (HE.out.trans HX6.out).grown G9.out HGR.out⟩
  · have HSP1 := Lib.hid (show rwdrS l h n = putR l { h with dep := subN h.dep n } by rw [HSP0.out, if_neg hlt])
    have hc0 : ¬ cmpN h.dep n < 0 := by unfold cmpN; rw [if_neg hlt]; split <;> omega
    generalize cmpN h.dep n = c at *
    have d1 : decide (c < 0) = false := decide_eq_false hc0
    have HWX := Lib.hid (Cs.rg (Cs.ext HW.out HX6.out))
    have HDR := Lib.hid (Hb.dep K6.out)
    clear hlt hc0 HSP0
    go_wp2_with (first
      | ((with_reducible refine wpList_load_wordIn ?_ (.tmp 19) ?_ g8 1 (h.dep) ?_ ?_ ?_); (exact rfl); (exact rfl); (exact rfl); (exact HDR.out))
      | ((with_reducible refine wpList_load_wordIn ?_ (.tmp 5) ?_ gW 0 (n) ?_ ?_ ?_); (exact rfl); (exact rfl); (exact rfl); (exact HWX.out)))
    refine (refSub_any h.dep n _ HDL.out HN.out).mono ?_
    rintro e w7 ⟨rfl, hdm, he⟩
    have HX7 := Lib.hid (HX6.out.trans he)
    have K5 := Lib.hid (Cs.ext K6.out he)
    have HDM := Lib.hid hdm
    clear he hdm K6 HX6 HDR HWX d1
    generalize subN h.dep n = d at *
    generalize und h.dep n = ob at *
    have HSP := HSP1
    clear HSP1
    go_upto_region 5 with ((with_reducible refine wpList_store_in ?_ ?_ 29 (.tmp 25) (.tmp 23) ?_ g8 1 97 (hdc h) (wc d) ?_ ?_ ?_ ?_ ?_ ?_ ?_); (exact rfl); (exact rfl); (exact rfl); (exact rfl); (exact rfl); (exact K5.out); (exact winfo); (exact of_decide_eq_true rfl); (exact wc_one d); intro w8 k8 g8; have K8 := Lib.hid k8; have G8 := Lib.hid g8; clear k8 g8)
    have K9' := Lib.hid (show Cs w8 g8 97 (hdc { h with dep := d }) from K8.out)
    have HX8 := Lib.hid (HX7.out.grown G8.out HG8.out)
    clear K8 G8 HX7 K5
    have qL := (Cs.ext HL.out HX8.out).cell 0 _ rfl
    have HKR := Lib.hid (Cs.rg K9'.out)
    go_wp2_with ((with_reducible refine wpList_load_hd ?_ (.tmp 8) ?_ g8 0 ({ h with dep := d }) ?_ ?_ ?_); (exact rfl); (exact rfl); (exact rfl); (exact HKR.out))
    refine (refPut_any v l ({ h with dep := d }) _ (HS.out.ext (HE.out.trans HX8.out)) HRI.out HLN.out (⟨HROK.out.1, HDM.out, HROK.out.2.2⟩)).mono ?_
    rintro e wp ⟨vp, rfl, ho, he⟩
    have HXP := Lib.hid (HX8.out.trans he)
    have HOP := Lib.hid ho
    have HSZ := Lib.hid (show w.heap.size ≤ _ from (HE.out.trans HX8.out).size)
    have HRX := Lib.hid (Cs.ext HR.out HXP.out)
    obtain ⟨Ap, cp, ep, _, _⟩ := ho.sl
    clear he ho qL HKR
    rw [← HSP.out] at HOP ep ⊢
    obtain ⟨mp, hmp⟩ : ∃ mp, (rwdrS l h n).1.length = mp := ⟨_, rfl⟩
    rw [hmp] at ep
    clear hmp
    subst ep
    go_wp2_with ((with_reducible refine wpList_store_agg ?_ ?_ 88 (.tmp 6) (.tmp 29) ?_ ldinfo gR #[.slice none 0 0] #[.slice Ap mp cp] ?_ ?_ ?_ ?_ ?_ ?_ ?_); (exact rfl); (exact rfl); (exact rfl); (exact one_slice _ _ _); (exact rfl); (exact rfl); (exact HRX.out); (exact rfl); (exact rfl); intro w9 k9 g9; have K9 := Lib.hid k9; have G9 := Lib.hid g9; clear k9 g9)
    refine bodyPost_ret (results_ld_tmp Try.results86 _ _ gR _ rfl K9.out) rfl ?_
    exact ⟨_, rfl, (HOP.out.keptT G9.out HRX.out (by decide)).mono HSZ.out, (HE.out.trans HXP.out).grown G9.out HGR.out⟩
set_option maxRecDepth 100000 in
set_option maxHeartbeats 4000000 in
theorem refBond_any (v : Value) (l : List Hd) (a : Nat) (n d : Nat) (w : World) (hs : Hds w v l) (hr : RiseG l) (hln : l.length ≤ 1000) (ha : a < 18446744073709551616) (hn : n < M256) (hd : d < 18446744073709551616) :
    Calls Try.prog 87 #[.agg #[v], .int .u64 (a : Nat), wv n, .int .u64 (d : Nat)] w (RetG w (rbndS l (rowG l a) n d)) := by
  have HS := Lib.hid hs
  have HRI := Lib.hid hr
  have HLN := Lib.hid hln
  have HROK := Lib.hid (rowG_ok hs.oks ha (a := a))
  have hv1 : v.oneCell' = true := by obtain ⟨A, c, rfl, _⟩ := hs.len; rfl
  have HV := Lib.hid hv1
  have HN := Lib.hid hn
  have HDB := Lib.hid hd
  clear hd
  obtain ⟨w0, hw0⟩ : ∃ w0, ((w.alloc (.cells #[v] 88)).alloc (.cells (wc n) 29)).alloc (.cells #[.slice none 0 0] 88) = w0 := ⟨_, rfl⟩
  have HW0 := Lib.hid hw0
  have HL : Hid (Cs w0 w.heap.size 88 #[v]) := Lib.hid (by rw [← hw0]; exact Cs.alloc (Cs.alloc (Cs.new _ _ _ _ rfl) _) _)
  have HW : Hid (Cs w0 (w.heap.size + 1) 29 (wc n)) := Lib.hid (by rw [← hw0]; exact Cs.alloc (Cs.new _ _ _ _ (by rw [World.size_alloc])) _)
  have HR : Hid (Cs w0 (w.heap.size + 2) 88 #[.slice none 0 0]) := Lib.hid (by rw [← hw0]; exact Cs.new _ _ _ _ (by rw [World.size_alloc, World.size_alloc]))
  have HE : Hid (Ext w w0) := Lib.hid (by rw [← hw0]; exact ((((Ext.refl w).alloc _).alloc _).alloc _))
  clear hs hw0 hv1 ha hr hln
  unfold wv
  go_enter Try.func87, Try.ntmps87
  go_upto_region 1 with fail
  rw [HW0.out]
  clear HW0
  obtain ⟨gL, hgL⟩ : ∃ g, w.heap.size = g := ⟨_, rfl⟩
  obtain ⟨gW, hgW⟩ : ∃ g, w.heap.size + 1 = g := ⟨_, rfl⟩
  obtain ⟨gR, hgR⟩ : ∃ g, w.heap.size + 2 = g := ⟨_, rfl⟩
  have HGL := Lib.hid (show w.heap.size ≤ gL by omega)
  have HGW := Lib.hid (show w.heap.size ≤ gW by omega)
  have HGR := Lib.hid (show w.heap.size ≤ gR by omega)
  rw [hgR] at HR ⊢
  rw [hgW] at HW ⊢
  rw [hgL] at HL ⊢
  clear hgL hgW hgR
  have q2 := HL.out.cell 0 _ rfl
  go_wp2_with fail
  refine (refFind_any v l a _ (HS.out.ext HE.out) HRI.out).mono ?_
  rintro e w1 ⟨rfl, he⟩
  have HX := Lib.hid he
  clear he q2
  generalize rowG l a = h at *
  have HPO := Lib.hid (hdc_one h)
  obtain ⟨pc, hpc⟩ : ∃ pc, hdc h = pc := ⟨_, rfl⟩
  have HPC := Lib.hid hpc
  have HPS := Lib.hid (show pc.size = 11 by rw [← hpc]; rfl)
  rw [hpc] at HPO ⊢
  clear hpc
  go_upto_region 2 with ((with_reducible refine wpList_store_agg ?_ ?_ 97 (.tmp 10) (.tmp 15) ?_ hdinfo w1.heap.size (hdc hz0) pc ?_ ?_ ?_ ?_ ?_ ?_ ?_); (exact rfl); (exact rfl); (exact rfl); (exact HPO.out); (exact rfl); (exact rfl); (exact Cs.new _ _ _ _ rfl); (exact rfl); (exact HPS.out); intro w5 k5 g5; have K5 := Lib.hid k5; have G5 := Lib.hid g5; clear k5 g5)
  rw [← HPC.out] at K5
  clear HPC HPO HPS
  have HX5 := Lib.hid (HX.out.trans (((Ext.refl w1).alloc _).grown G5.out (Nat.le_refl _)))
  have HG8 := Lib.hid (show w0.heap.size ≤ w1.heap.size from HX.out.size)
  obtain ⟨g8, hg8⟩ : ∃ g8, w1.heap.size = g8 := ⟨_, rfl⟩
  rw [hg8] at K5 HG8 ⊢
  clear hg8 HX G5
  have HSP0 : Hid (rbndS l h n d = if d < 1 ∨ 1073741824 < d ∨ d < h.dly then ([], 2) else if h.stk = 0 ∧ n = 0 then ([], 172) else if ovr h.stk n then ([], 171) else putR l { h with stk := addN h.stk n, dly := d, fre := 0 }) := Lib.hid rfl
  have HP2 := Lib.hid (show h.stk < M256 from HROK.out.2.2.1)
  have HOK1 := Lib.hid (show h.addr < 18446744073709551616 ∧ h.dep < M256 from ⟨HROK.out.1, HROK.out.2.1⟩)
  clear HROK
  have q9 := Hb.dly K5.out
  by_cases hd0 : d < 1
  · have HSP := Lib.hid (show rbndS l h n d = ([], 2) by rw [HSP0.out, if_pos (.inl hd0)])
    have ea : decide ((d : Int) < 1) = true := decide_eq_true (by omega)
    have eb : decide (d < 1) = true := decide_eq_true (by omega)
    clear hd0 HSP0 q9
    have HRX := Lib.hid (Cs.ext HR.out HX5.out)
    go_wp2_with ((with_reducible refine wpList_store_agg ?_ ?_ 88 (.tmp 8) (.tmp 28) ?_ ldinfo gR #[.slice none 0 0] #[.slice none 0 0] ?_ ?_ ?_ ?_ ?_ ?_ ?_); (exact rfl); (exact rfl); (exact rfl); (exact one_slice _ _ _); (exact rfl); (exact rfl); (exact HRX.out); (exact rfl); (exact rfl); intro w9 k9 g9; have K9 := Lib.hid k9; have G9 := Lib.hid g9; clear k9 g9)
    refine bodyPost_ret (results_ld_tmp Try.results87 _ _ gR _ rfl K9.out) rfl ?_
    exact ⟨_, by rw [HSP.out]; rfl, by rw [HSP.out]; exact OwnH.nil _ _, (HE.out.trans HX5.out).grown G9.out HGR.out⟩
  by_cases hd1 : 1073741824 < d
  · have HSP := Lib.hid (show rbndS l h n d = ([], 2) by rw [HSP0.out, if_pos (.inr (.inl hd1))])
    have ea : decide ((d : Int) < 1) = false := decide_eq_false (by omega)
    have eb : decide (d < 1) = false := decide_eq_false (by omega)
    have fa : decide ((d : Int) > 1073741824) = true := decide_eq_true (by omega)
    have fb : decide ((1073741824 : Int) < (d : Int)) = true := decide_eq_true (by omega)
    have fc : decide (1073741824 < d) = true := decide_eq_true (by omega)
    clear hd0 hd1 HSP0 q9
    have HRX := Lib.hid (Cs.ext HR.out HX5.out)
    go_wp2_with ((with_reducible refine wpList_store_agg ?_ ?_ 88 (.tmp 8) (.tmp 28) ?_ ldinfo gR #[.slice none 0 0] #[.slice none 0 0] ?_ ?_ ?_ ?_ ?_ ?_ ?_); (exact rfl); (exact rfl); (exact rfl); (exact one_slice _ _ _); (exact rfl); (exact rfl); (exact HRX.out); (exact rfl); (exact rfl); intro w9 k9 g9; have K9 := Lib.hid k9; have G9 := Lib.hid g9; clear k9 g9)
    refine bodyPost_ret (results_ld_tmp Try.results87 _ _ gR _ rfl K9.out) rfl ?_
    exact ⟨_, by rw [HSP.out]; rfl, by rw [HSP.out]; exact OwnH.nil _ _, (HE.out.trans HX5.out).grown G9.out HGR.out⟩
  by_cases hd2 : d < h.dly
  · have HSP := Lib.hid (show rbndS l h n d = ([], 2) by rw [HSP0.out, if_pos (.inr (.inr hd2))])
    have ea : decide ((d : Int) < 1) = false := decide_eq_false (by omega)
    have eb : decide (d < 1) = false := decide_eq_false (by omega)
    have fa : decide ((d : Int) > 1073741824) = false := decide_eq_false (by omega)
    have fb : decide ((1073741824 : Int) < (d : Int)) = false := decide_eq_false (by omega)
    have fc : decide (1073741824 < d) = false := decide_eq_false (by omega)
    have pa : decide ((d : Int) < (h.dly : Int)) = true := decide_eq_true (by omega)
    have pb : decide (d < h.dly) = true := decide_eq_true (by omega)
    clear hd0 hd1 hd2 HSP0
    have HRX := Lib.hid (Cs.ext HR.out HX5.out)
    go_wp2_with ((with_reducible refine wpList_store_agg ?_ ?_ 88 (.tmp 8) (.tmp 28) ?_ ldinfo gR #[.slice none 0 0] #[.slice none 0 0] ?_ ?_ ?_ ?_ ?_ ?_ ?_); (exact rfl); (exact rfl); (exact rfl); (exact one_slice _ _ _); (exact rfl); (exact rfl); (exact HRX.out); (exact rfl); (exact rfl); intro w9 k9 g9; have K9 := Lib.hid k9; have G9 := Lib.hid g9; clear k9 g9)
    refine bodyPost_ret (results_ld_tmp Try.results87 _ _ gR _ rfl K9.out) rfl ?_
    exact ⟨_, by rw [HSP.out]; rfl, by rw [HSP.out]; exact OwnH.nil _ _, (HE.out.trans HX5.out).grown G9.out HGR.out⟩
  replace HSP0 := Lib.hid (show rbndS l h n d = if h.stk = 0 ∧ n = 0 then ([], 172) else if ovr h.stk n then ([], 171) else putR l { h with stk := addN h.stk n, dly := d, fre := 0 } by rw [HSP0.out, if_neg (by omega)])
  have ea : decide ((d : Int) < 1) = false := decide_eq_false (by omega)
  have eb : decide (d < 1) = false := decide_eq_false (by omega)
  have fa : decide ((d : Int) > 1073741824) = false := decide_eq_false (by omega)
  have fb : decide ((1073741824 : Int) < (d : Int)) = false := decide_eq_false (by omega)
  have fc : decide (1073741824 < d) = false := decide_eq_false (by omega)
  have pa : decide ((d : Int) < (h.dly : Int)) = false := decide_eq_false (by omega)
  have pb : decide (d < h.dly) = false := decide_eq_false (by omega)
  have HKS := Lib.hid (Hb.stk K5.out)
  clear hd0 hd1 hd2
  go_wp2_with ((with_reducible refine wpList_load_wordIn ?_ (.tmp 29) ?_ g8 5 (h.stk) ?_ ?_ ?_); (exact rfl); (exact rfl); (exact rfl); (exact HKS.out))
  clear q9 ea eb fa fb fc pa pb HKS
  by_cases hz : h.stk = 0
  · have HZ := Lib.hid hz
    clear hz
    refine (refNone_any h.stk _ HP2.out).mono ?_
    rintro e w11 ⟨rfl, he⟩
    rw [show decide (h.stk = 0) = true from decide_eq_true HZ.out]
    replace HX5 := Lib.hid (HX5.out.trans he)
    replace K5 := Lib.hid (Cs.ext K5.out he)
    clear he
    have HWX := Lib.hid (Cs.rg (Cs.ext HW.out HX5.out))
    go_wp2_with ((with_reducible refine wpList_load_wordIn ?_ (.tmp 6) ?_ gW 0 (n) ?_ ?_ ?_); (exact rfl); (exact rfl); (exact rfl); (exact HWX.out))
    clear HWX
    by_cases hn0 : n = 0
    · have HSP := Lib.hid (show rbndS l h n d = ([], 172) by rw [HSP0.out, if_pos ⟨HZ.out, hn0⟩])
      have HN0 := Lib.hid hn0
      clear hn0 HSP0
      refine (refNone_any n _ HN.out).mono ?_
      rintro e w13 ⟨rfl, he⟩
      rw [show decide (n = 0) = true from decide_eq_true HN0.out]
      replace HX5 := Lib.hid (HX5.out.trans he)
      replace K5 := Lib.hid (Cs.ext K5.out he)
      clear he
      have HRX := Lib.hid (Cs.ext HR.out HX5.out)
      go_wp2_with ((with_reducible refine wpList_store_agg ?_ ?_ 88 (.tmp 8) (.tmp 36) ?_ ldinfo gR #[.slice none 0 0] #[.slice none 0 0] ?_ ?_ ?_ ?_ ?_ ?_ ?_); (exact rfl); (exact rfl); (exact rfl); (exact one_slice _ _ _); (exact rfl); (exact rfl); (exact HRX.out); (exact rfl); (exact rfl); intro w9 k9 g9; have K9 := Lib.hid k9; have G9 := Lib.hid g9; clear k9 g9)
      refine bodyPost_ret (results_ld_tmp Try.results87 _ _ gR _ rfl K9.out) rfl ?_
      exact ⟨_, by rw [HSP.out]; rfl, by rw [HSP.out]; exact OwnH.nil _ _, (HE.out.trans HX5.out).grown G9.out HGR.out⟩
    · replace HSP0 := Lib.hid (show rbndS l h n d = if ovr h.stk n then ([], 171) else putR l { h with stk := addN h.stk n, dly := d, fre := 0 } by rw [HSP0.out, if_neg (fun e => hn0 e.2)])
      have HN0 := Lib.hid hn0
      clear hn0
      refine (refNone_any n _ HN.out).mono ?_
      rintro e w13 ⟨rfl, he⟩
      rw [show decide (n = 0) = false from decide_eq_false HN0.out]
      replace HX5 := Lib.hid (HX5.out.trans he)
      replace K5 := Lib.hid (Cs.ext K5.out he)
      clear he
      have HWX := Lib.hid (Cs.rg (Cs.ext HW.out HX5.out))
      have HKS := Lib.hid (Hb.stk K5.out)
      go_wp2_with (first
        | ((with_reducible refine wpList_load_wordIn ?_ (.tmp 38) ?_ g8 5 (h.stk) ?_ ?_ ?_); (exact rfl); (exact rfl); (exact rfl); (exact HKS.out))
        | ((with_reducible refine wpList_load_wordIn ?_ (.tmp 6) ?_ gW 0 (n) ?_ ?_ ?_); (exact rfl); (exact rfl); (exact rfl); (exact HWX.out)))
      refine (refAdd_any h.stk n _ HP2.out HN.out).mono ?_
      rintro e w7 ⟨rfl, hdm, he⟩
      have HX7 := Lib.hid (HX5.out.trans he)
      have K7 := Lib.hid (Cs.ext K5.out he)
      have HDM := Lib.hid hdm
      clear he hdm K5 HX5 HKS HWX
      generalize addN h.stk n = s at *
      generalize ovr h.stk n = ob at *
      go_upto_region 7 with ((with_reducible refine wpList_store_word rfl rfl 29 (.tmp 11) (.tmp 42) rfl winfo w7.heap.size (wc 0) s ?_ ?_ ?_ ?_ ?_); (exact rfl); (exact rfl); (exact Cs.new _ _ _ _ rfl); (exact rfl); intro w6 k6 g6; have K6 := Lib.hid k6; have G6 := Lib.hid g6; clear k6 g6)
      have HX6 := Lib.hid (HX7.out.trans (((Ext.refl w7).alloc _).grown G6.out (Nat.le_refl _)))
      have K5 := Lib.hid (Cs.ext K7.out (((Ext.refl w7).alloc (.cells (wc 0) 29)).grown G6.out (Nat.le_refl _)))
      obtain ⟨g10, hg10⟩ : ∃ g, w7.heap.size = g := ⟨_, rfl⟩
      rw [hg10] at K6 ⊢
      clear hg10 G6 K7 HX7
      cases ob with
      | true =>
        have HSP := Lib.hid (show rbndS l h n d = ([], 171) from HSP0.out)
        clear HSP0
        have HRX := Lib.hid (Cs.ext HR.out HX6.out)
        go_wp2_with ((with_reducible refine wpList_store_agg ?_ ?_ 88 (.tmp 8) (.tmp 45) ?_ ldinfo gR #[.slice none 0 0] #[.slice none 0 0] ?_ ?_ ?_ ?_ ?_ ?_ ?_); (exact rfl); (exact rfl); (exact rfl); (exact one_slice _ _ _); (exact rfl); (exact rfl); (exact HRX.out); (exact rfl); (exact rfl); intro w9 k9 g9; have K9 := Lib.hid k9; have G9 := Lib.hid g9; clear k9 g9)
        refine bodyPost_ret (results_ld_tmp Try.results87 _ _ gR _ rfl K9.out) rfl ?_
        exact ⟨_, by rw [HSP.out]; rfl, by rw [HSP.out]; exact OwnH.nil _ _, (HE.out.trans HX6.out).grown G9.out HGR.out⟩
      | false =>
        have HSP := Lib.hid (show rbndS l h n d = putR l { h with stk := s, dly := d, fre := 0 } from HSP0.out)
        have HWD := Lib.hid (Cs.rg K6.out)
        clear HSP0
        go_upto_region 10 with (first
          | ((with_reducible refine wpList_load_wordIn ?_ (.tmp 11) ?_ g10 0 (s) ?_ ?_ ?_); (exact rfl); (exact rfl); (exact rfl); (exact HWD.out))
          | ((with_reducible refine wpList_store_in ?_ ?_ 29 (.tmp 47) (.tmp 46) ?_ g8 5 97 (hdc h) (wc s) ?_ ?_ ?_ ?_ ?_ ?_ ?_); (exact rfl); (exact rfl); (exact rfl); (exact rfl); (exact rfl); (exact K5.out); (exact winfo); (exact of_decide_eq_true rfl); (exact wc_one s); intro w8 k8 g8; have K8 := Lib.hid k8; have G8 := Lib.hid g8; clear k8 g8))
        have K11 := Lib.hid (show Cs w8 g8 97 (hdc { h with stk := s }) from K8.out)
        have HX8 := Lib.hid (HX6.out.grown G8.out HG8.out)
        clear K8 G8 HX6 K6 HWD K5
        go_upto_region 11 with ((with_reducible refine wpList_store_in1 ?_ ?_ 26 (.tmp 49) (.tmp 48) ?_ g8 9 97 (hdc { h with stk := s }) (.int .u64 (d : Nat)) rfl ?_ ?_ ?_ u64info ?_ rfl ?_); (exact rfl); (exact rfl); (exact rfl); (exact rfl); (exact rfl); (exact K11.out); (exact of_decide_eq_true rfl); intro w12 k12 g12; have K12 := Lib.hid k12; have G12 := Lib.hid g12; clear k12 g12)
        have K13 := Lib.hid (show Cs w12 g8 97 (hdc { h with stk := s, dly := d }) from K12.out)
        have HX12 := Lib.hid (HX8.out.grown G12.out HG8.out)
        clear K11 K12 G12 HX8
        go_upto_region 12 with ((with_reducible refine wpList_store_in1 ?_ ?_ 26 (.tmp 50) (.const (.int .u64 0)) ?_ g8 10 97 (hdc { h with stk := s, dly := d }) (.int .u64 ((0 : Nat) : Int)) rfl ?_ ?_ ?_ u64info ?_ rfl ?_); (exact rfl); (exact rfl); (exact rfl); (exact rfl); (exact rfl); (exact K13.out); (exact of_decide_eq_true rfl); intro w14 k14 g14; have K14 := Lib.hid k14; have G14 := Lib.hid g14; clear k14 g14)
        have K15 := Lib.hid (show Cs w14 g8 97 (hdc { h with stk := s, dly := d, fre := 0 }) from K14.out)
        have HX14 := Lib.hid (HX12.out.grown G14.out HG8.out)
        clear K13 K14 G14 HX12
        have qL := (Cs.ext HL.out HX14.out).cell 0 _ rfl
        have HKR := Lib.hid (Cs.rg K15.out)
        go_wp2_with ((with_reducible refine wpList_load_hd ?_ (.tmp 10) ?_ g8 0 ({ h with stk := s, dly := d, fre := 0 }) ?_ ?_ ?_); (exact rfl); (exact rfl); (exact rfl); (exact HKR.out))
        refine (refPut_any v l ({ h with stk := s, dly := d, fre := 0 }) _ (HS.out.ext (HE.out.trans HX14.out)) HRI.out HLN.out (⟨HOK1.out.1, HOK1.out.2, HDM.out, HDB.out, show (0 : Nat) < 18446744073709551616 by decide⟩)).mono ?_
        rintro e wp ⟨vp, rfl, ho, he⟩
        have HXP := Lib.hid (HX14.out.trans he)
        have HOP := Lib.hid ho
        have HSZ := Lib.hid (show w.heap.size ≤ _ from (HE.out.trans HX14.out).size)
        have HRX := Lib.hid (Cs.ext HR.out HXP.out)
        obtain ⟨Ap, cp, ep, _, _⟩ := ho.sl
        clear he ho qL HKR
        rw [← HSP.out] at HOP ep ⊢
        obtain ⟨mp, hmp⟩ : ∃ mp, (rbndS l h n d).1.length = mp := ⟨_, rfl⟩
        rw [hmp] at ep
        clear hmp
        subst ep
        go_wp2_with ((with_reducible refine wpList_store_agg ?_ ?_ 88 (.tmp 8) (.tmp 54) ?_ ldinfo gR #[.slice none 0 0] #[.slice Ap mp cp] ?_ ?_ ?_ ?_ ?_ ?_ ?_); (exact rfl); (exact rfl); (exact rfl); (exact one_slice _ _ _); (exact rfl); (exact rfl); (exact HRX.out); (exact rfl); (exact rfl); intro w9 k9 g9; have K9 := Lib.hid k9; have G9 := Lib.hid g9; clear k9 g9)
        refine bodyPost_ret (results_ld_tmp Try.results87 _ _ gR _ rfl K9.out) rfl ?_
        exact ⟨_, rfl, (HOP.out.keptT G9.out HRX.out (by decide)).mono HSZ.out, (HE.out.trans HXP.out).grown G9.out HGR.out⟩
  · replace HSP0 := Lib.hid (show rbndS l h n d = if ovr h.stk n then ([], 171) else putR l { h with stk := addN h.stk n, dly := d, fre := 0 } by rw [HSP0.out, if_neg (fun e => hz e.1)])
    have HZ := Lib.hid hz
    clear hz
    refine (refNone_any h.stk _ HP2.out).mono ?_
    rintro e w11 ⟨rfl, he⟩
    rw [show decide (h.stk = 0) = false from decide_eq_false HZ.out]
    replace HX5 := Lib.hid (HX5.out.trans he)
    replace K5 := Lib.hid (Cs.ext K5.out he)
    clear he
    have HWX := Lib.hid (Cs.rg (Cs.ext HW.out HX5.out))
    have HKS := Lib.hid (Hb.stk K5.out)
    go_wp2_with (first
      | ((with_reducible refine wpList_load_wordIn ?_ (.tmp 38) ?_ g8 5 (h.stk) ?_ ?_ ?_); (exact rfl); (exact rfl); (exact rfl); (exact HKS.out))
      | ((with_reducible refine wpList_load_wordIn ?_ (.tmp 6) ?_ gW 0 (n) ?_ ?_ ?_); (exact rfl); (exact rfl); (exact rfl); (exact HWX.out)))
    refine (refAdd_any h.stk n _ HP2.out HN.out).mono ?_
    rintro e w7 ⟨rfl, hdm, he⟩
    have HX7 := Lib.hid (HX5.out.trans he)
    have K7 := Lib.hid (Cs.ext K5.out he)
    have HDM := Lib.hid hdm
    clear he hdm K5 HX5 HKS HWX
    generalize addN h.stk n = s at *
    generalize ovr h.stk n = ob at *
    go_upto_region 7 with ((with_reducible refine wpList_store_word rfl rfl 29 (.tmp 11) (.tmp 42) rfl winfo w7.heap.size (wc 0) s ?_ ?_ ?_ ?_ ?_); (exact rfl); (exact rfl); (exact Cs.new _ _ _ _ rfl); (exact rfl); intro w6 k6 g6; have K6 := Lib.hid k6; have G6 := Lib.hid g6; clear k6 g6)
    have HX6 := Lib.hid (HX7.out.trans (((Ext.refl w7).alloc _).grown G6.out (Nat.le_refl _)))
    have K5 := Lib.hid (Cs.ext K7.out (((Ext.refl w7).alloc (.cells (wc 0) 29)).grown G6.out (Nat.le_refl _)))
    obtain ⟨g10, hg10⟩ : ∃ g, w7.heap.size = g := ⟨_, rfl⟩
    rw [hg10] at K6 ⊢
    clear hg10 G6 K7 HX7
    cases ob with
    | true =>
      have HSP := Lib.hid (show rbndS l h n d = ([], 171) from HSP0.out)
      clear HSP0
      have HRX := Lib.hid (Cs.ext HR.out HX6.out)
      go_wp2_with ((with_reducible refine wpList_store_agg ?_ ?_ 88 (.tmp 8) (.tmp 45) ?_ ldinfo gR #[.slice none 0 0] #[.slice none 0 0] ?_ ?_ ?_ ?_ ?_ ?_ ?_); (exact rfl); (exact rfl); (exact rfl); (exact one_slice _ _ _); (exact rfl); (exact rfl); (exact HRX.out); (exact rfl); (exact rfl); intro w9 k9 g9; have K9 := Lib.hid k9; have G9 := Lib.hid g9; clear k9 g9)
      refine bodyPost_ret (results_ld_tmp Try.results87 _ _ gR _ rfl K9.out) rfl ?_
      exact ⟨_, by rw [HSP.out]; rfl, by rw [HSP.out]; exact OwnH.nil _ _, (HE.out.trans HX6.out).grown G9.out HGR.out⟩
    | false =>
      have HSP := Lib.hid (show rbndS l h n d = putR l { h with stk := s, dly := d, fre := 0 } from HSP0.out)
      have HWD := Lib.hid (Cs.rg K6.out)
      clear HSP0
      go_upto_region 10 with (first
        | ((with_reducible refine wpList_load_wordIn ?_ (.tmp 11) ?_ g10 0 (s) ?_ ?_ ?_); (exact rfl); (exact rfl); (exact rfl); (exact HWD.out))
        | ((with_reducible refine wpList_store_in ?_ ?_ 29 (.tmp 47) (.tmp 46) ?_ g8 5 97 (hdc h) (wc s) ?_ ?_ ?_ ?_ ?_ ?_ ?_); (exact rfl); (exact rfl); (exact rfl); (exact rfl); (exact rfl); (exact K5.out); (exact winfo); (exact of_decide_eq_true rfl); (exact wc_one s); intro w8 k8 g8; have K8 := Lib.hid k8; have G8 := Lib.hid g8; clear k8 g8))
      have K11 := Lib.hid (show Cs w8 g8 97 (hdc { h with stk := s }) from K8.out)
      have HX8 := Lib.hid (HX6.out.grown G8.out HG8.out)
      clear K8 G8 HX6 K6 HWD K5
      go_upto_region 11 with ((with_reducible refine wpList_store_in1 ?_ ?_ 26 (.tmp 49) (.tmp 48) ?_ g8 9 97 (hdc { h with stk := s }) (.int .u64 (d : Nat)) rfl ?_ ?_ ?_ u64info ?_ rfl ?_); (exact rfl); (exact rfl); (exact rfl); (exact rfl); (exact rfl); (exact K11.out); (exact of_decide_eq_true rfl); intro w12 k12 g12; have K12 := Lib.hid k12; have G12 := Lib.hid g12; clear k12 g12)
      have K13 := Lib.hid (show Cs w12 g8 97 (hdc { h with stk := s, dly := d }) from K12.out)
      have HX12 := Lib.hid (HX8.out.grown G12.out HG8.out)
      clear K11 K12 G12 HX8
      go_upto_region 12 with ((with_reducible refine wpList_store_in1 ?_ ?_ 26 (.tmp 50) (.const (.int .u64 0)) ?_ g8 10 97 (hdc { h with stk := s, dly := d }) (.int .u64 ((0 : Nat) : Int)) rfl ?_ ?_ ?_ u64info ?_ rfl ?_); (exact rfl); (exact rfl); (exact rfl); (exact rfl); (exact rfl); (exact K13.out); (exact of_decide_eq_true rfl); intro w14 k14 g14; have K14 := Lib.hid k14; have G14 := Lib.hid g14; clear k14 g14)
      have K15 := Lib.hid (show Cs w14 g8 97 (hdc { h with stk := s, dly := d, fre := 0 }) from K14.out)
      have HX14 := Lib.hid (HX12.out.grown G14.out HG8.out)
      clear K13 K14 G14 HX12
      have qL := (Cs.ext HL.out HX14.out).cell 0 _ rfl
      have HKR := Lib.hid (Cs.rg K15.out)
      go_wp2_with ((with_reducible refine wpList_load_hd ?_ (.tmp 10) ?_ g8 0 ({ h with stk := s, dly := d, fre := 0 }) ?_ ?_ ?_); (exact rfl); (exact rfl); (exact rfl); (exact HKR.out))
      refine (refPut_any v l ({ h with stk := s, dly := d, fre := 0 }) _ (HS.out.ext (HE.out.trans HX14.out)) HRI.out HLN.out (⟨HOK1.out.1, HOK1.out.2, HDM.out, HDB.out, show (0 : Nat) < 18446744073709551616 by decide⟩)).mono ?_
      rintro e wp ⟨vp, rfl, ho, he⟩
      have HXP := Lib.hid (HX14.out.trans he)
      have HOP := Lib.hid ho
      have HSZ := Lib.hid (show w.heap.size ≤ _ from (HE.out.trans HX14.out).size)
      have HRX := Lib.hid (Cs.ext HR.out HXP.out)
      obtain ⟨Ap, cp, ep, _, _⟩ := ho.sl
      clear he ho qL HKR
      rw [← HSP.out] at HOP ep ⊢
      obtain ⟨mp, hmp⟩ : ∃ mp, (rbndS l h n d).1.length = mp := ⟨_, rfl⟩
      rw [hmp] at ep
      clear hmp
      subst ep
      go_wp2_with ((with_reducible refine wpList_store_agg ?_ ?_ 88 (.tmp 8) (.tmp 54) ?_ ldinfo gR #[.slice none 0 0] #[.slice Ap mp cp] ?_ ?_ ?_ ?_ ?_ ?_ ?_); (exact rfl); (exact rfl); (exact rfl); (exact one_slice _ _ _); (exact rfl); (exact rfl); (exact HRX.out); (exact rfl); (exact rfl); intro w9 k9 g9; have K9 := Lib.hid k9; have G9 := Lib.hid g9; clear k9 g9)
      refine bodyPost_ret (results_ld_tmp Try.results87 _ _ gR _ rfl K9.out) rfl ?_
      exact ⟨_, rfl, (HOP.out.keptT G9.out HRX.out (by decide)).mono HSZ.out, (HE.out.trans HXP.out).grown G9.out HGR.out⟩
end Go.Proofs.Ytepggbhibpjkpaa
