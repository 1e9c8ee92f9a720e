/- Package ledger: what is unlocked, released. -/
import Derived.Test.YtepggbhibpjkpaaLhi
namespace Go.Proofs.Ytepggbhibpjkpaa
open Go.ChangeShapes Go.WideShapes Go.ChangeAt Go.RowKit Go.Shelf

set_option maxRecDepth 100000 in
set_option maxHeartbeats 4000000 in
theorem unlock_any (v : Value) (l : List Hd) (a : Nat) (n : Nat) (w : World) (hs : Hds w v l) (ha : a < 18446744073709551616) (hn : n < 18446744073709551616) :
    Calls Try.prog 82 #[.agg #[v], .int .u64 (a : Nat), .int .u64 (n : Nat)] w (RetG w (ulkS l a n)) := by
  have HS := Lib.hid hs
  have HA := Lib.hid ha
  have hv1 : v.oneCell' = true := by obtain ⟨A, c, rfl, _⟩ := hs.len; rfl
  have HV := Lib.hid hv1
  have HN := Lib.hid hn
  clear hn
  obtain ⟨w0, hw0⟩ : ∃ w0, (w.alloc (.cells #[v] 88)).alloc (.cells #[.slice none 0 0] 88) = w0 := ⟨_, rfl⟩
  have HW0 := Lib.hid hw0
  have HL : Hid (Cs w0 w.heap.size 88 #[v]) := Lib.hid (by rw [← hw0]; exact Cs.alloc (Cs.new _ _ _ _ rfl) _)
  have HR : Hid (Cs w0 (w.heap.size + 1) 88 #[.slice none 0 0]) := Lib.hid (by rw [← hw0]; exact Cs.new _ _ _ _ (by rw [World.size_alloc]))
  have HE : Hid (Ext w w0) := Lib.hid (by rw [← hw0]; exact (((Ext.refl w).alloc _).alloc _))
  clear hs hw0 hv1 ha
  go_enter Try.func82, Try.ntmps82
  go_upto_region 1 with fail
  rw [HW0.out]
  clear HW0
  obtain ⟨gL, hgL⟩ : ∃ g, w.heap.size = g := ⟨_, rfl⟩
  obtain ⟨gR, hgR⟩ : ∃ g, w.heap.size + 1 = g := ⟨_, rfl⟩
  have HGL := Lib.hid (show w.heap.size ≤ gL by omega)
  have HGR := Lib.hid (show w.heap.size ≤ gR by omega)
  rw [hgR] at HR ⊢
  rw [hgL] at HL ⊢
  clear hgL hgR
  have q2 := HL.out.cell 0 _ rfl
  go_wp2_with fail
  refine (tellerAt_any v l a n _ (HS.out.ext HE.out) HA.out HN.out).mono ?_
  rintro e w1 ⟨rfl, he⟩
  have HX := Lib.hid he
  have HTO := Lib.hid (taV_one (l := l) (a := a) (n := n) HV.out)
  have HTS := Lib.hid (taV_size l a n v)
  clear he q2
  obtain ⟨tv, htv⟩ : ∃ tv, taV l a n v = tv := ⟨_, rfl⟩
  obtain ⟨te, hte⟩ : ∃ te, taE l a n = te := ⟨_, rfl⟩
  have HTV := Lib.hid htv
  have HTE := Lib.hid hte
  rw [htv] at HTO HTS ⊢
  rw [hte] at ⊢
  clear htv hte
  go_upto_region 2 with ((with_reducible refine wpList_store_agg ?_ ?_ 165 (.tmp 8) (.tmp 15) ?_ tlinfo w1.heap.size (tlc hz0 (.slice none 0 0)) tv ?_ ?_ ?_ ?_ ?_ ?_ ?_); (exact rfl); (exact rfl); (exact rfl); (exact HTO.out); (exact rfl); (exact rfl); (rw [← lit_tl0]; exact Cs.new _ _ _ _ rfl); (exact rfl); (exact HTS.out); intro w5 k5 g5; have K5 := Lib.hid k5; have G5 := Lib.hid g5; clear k5 g5)
  have HX5 := Lib.hid (HX.out.trans (((Ext.refl w1).alloc _).grown G5.out (Nat.le_refl _)))
  have HG8 := Lib.hid (show w.heap.size ≤ w1.heap.size from (HE.out.trans HX.out).size)
  have HG08 := Lib.hid (show w0.heap.size ≤ w1.heap.size from HX.out.size)
  obtain ⟨g8, hg8⟩ : ∃ g8, w1.heap.size = g8 := ⟨_, rfl⟩
  rw [hg8] at K5 HG8 HG08 ⊢
  clear hg8 HX G5
  have HSP : Hid (ulkS l a n = if te ≠ 0 then ([], te) else if (rowG l a).lckB = false then ([], 172) else (plG l { rowG l a with fre := n + (rowG l a).dly }, 0)) := Lib.hid (by rw [← HTE.out]; rfl)
  by_cases ht0 : te = 0
  · subst ht0
    have HNB := Lib.hid (taE_zero HTE.out).2
    obtain ⟨hr, ha0⟩ := teE_zero (taE_zero HTE.out).1
    have HRI := Lib.hid (rightG_rise hr)
    have HLN := Lib.hid (rightG_parts hr).1
    have HROK := Lib.hid (rowG_ok HS.out.oks HA.out (a := a))
    have HRF := Lib.hid (rowG_fits hr a)
    have htv : tv = tlc (rowG l a) v := by rw [← HTV.out, taV_zero HTE.out]
    subst htv
    obtain ⟨h, hh⟩ : ∃ h, rowG l a = h := ⟨_, rfl⟩
    rw [hh] at HROK HSP K5 HRF HTV HTO HTS
    clear hr ha0 hh
    go_wp2_with ((with_reducible refine wpList_load_tl ?_ (.tmp 8) ?_ (g8) (h) (v) ?_ ?_ ?_); (exact rfl); (exact rfl); (exact rfl); (exact K5.out))
    refine (locked_any h v _ HROK.out HV.out).mono ?_
    rintro e w6 ⟨rfl, he⟩
    have HX6 := Lib.hid (HX5.out.trans he)
    have K6 := Lib.hid (Cs.ext K5.out he)
    clear he K5 HX5
    cases hlk : h.lckB with
    | false =>
      have HFIN := Lib.hid (show ulkS l a n = ([], 172) by rw [HSP.out, if_neg (by simp), if_pos hlk])
      clear hlk
      have HRX := Lib.hid (Cs.ext HR.out HX6.out)
      go_wp2_with ((with_reducible refine wpList_store_agg ?_ ?_ 88 (.tmp 6) (.tmp 26) ?_ ldinfo gR #[.slice none 0 0] #[.slice none 0 0] ?_ ?_ ?_ ?_ ?_ ?_ ?_); (exact rfl); (exact rfl); (exact rfl); (exact one_slice _ _ _); (exact rfl); (exact rfl); (exact HRX.out); (exact rfl); (exact rfl); intro w9 k9 g9; have K9 := Lib.hid k9; have G9 := Lib.hid g9; clear k9 g9)
      refine bodyPost_ret (results_ld_tmp Try.results82 _ _ gR _ rfl K9.out) rfl ?_
      exact ⟨_, by rw [HFIN.out]; rfl, by rw [HFIN.out]; exact OwnH.nil _ _, (HE.out.trans HX6.out).grown G9.out HGR.out⟩
    | true =>
      have HFIN := Lib.hid (show ulkS l a n = (plG l { h with fre := n + h.dly }, 0) by rw [HSP.out, if_neg (by simp), if_neg (by rw [hlk]; simp)])
      clear hlk
      have q9 := Tl.dly K6.out
      have hb1 : (n : Int) ≤ 1099511627776 := by have := HNB.out; omega
      have hb2 : (h.dly : Int) ≤ 1073741824 := by have := HRF.out.1; omega
      have hint : ((n : Int) + (h.dly : Int)) = (((n + h.dly : Nat)) : Int) := by omega
      obtain ⟨f, hf⟩ : ∃ f, n + h.dly = f := ⟨_, rfl⟩
      have HFB := Lib.hid (show f < 18446744073709551616 by omega)
      rw [hf] at HFIN hint
      have HINT := Lib.hid hint
      clear hf hint
      go_upto_region 7 with ((with_reducible refine wpList_store_in1 ?_ ?_ 26 (.tmp 33) (.tmp 31) ?_ g8 10 165 ((tlc h v)) (.int .u64 (f : Nat)) rfl ?_ ?_ ?_ u64info ?_ rfl ?_); (exact rfl); (exact rfl); (exact rfl); (exact rfl); (exact congrArg (Value.int .u64) HINT.out); (exact K6.out); (exact of_decide_eq_true rfl); intro w16 k16 g16; have K16 := Lib.hid k16; have G16 := Lib.hid g16; clear k16 g16)
      have HXb := Lib.hid (HX6.out.grown G16.out HG08.out)
      have Kb := Lib.hid (show Tl w16 g8 { h with fre := f } v from K16.out)
      clear K16 G16 HX6 K6 q9 hb1 hb2
      have HL8 := Lib.hid (show w.heap.size ≤ _ from (HE.out.trans HXb.out).size)
      go_wp2_with ((with_reducible refine wpList_load_tl ?_ (.tmp 8) ?_ (g8) ({ h with fre := f }) (v) ?_ ?_ ?_); (exact rfl); (exact rfl); (exact rfl); (exact Kb.out))
      refine (ledger_any { h with fre := f } v l _ ⟨HROK.out.1, HROK.out.2.1, HROK.out.2.2.1, HROK.out.2.2.2.1, HFB.out⟩ (HS.out.ext (HE.out.trans HXb.out)) HRI.out (by have := HLN.out; omega)).mono ?_
      rintro e w9 ⟨v', rfl, ho, he⟩
      have HO := Lib.hid (ho.mono HL8.out)
      have HX9 := Lib.hid (HXb.out.trans he)
      have HRX := Lib.hid (Cs.ext HR.out HX9.out)
      clear ho he
      have HV1 := Lib.hid (show v'.oneCell' = true by obtain ⟨A, c, e, _⟩ := HO.out.hds.len; rw [e]; rfl)
      go_wp2_with ((with_reducible refine wpList_store_agg ?_ ?_ 88 (.tmp 6) (.tmp 35) ?_ ldinfo gR #[.slice none 0 0] #[v'] ?_ ?_ ?_ ?_ ?_ ?_ ?_); (exact rfl); (exact rfl); (exact rfl); (exact one_val HV1.out); (exact rfl); (exact rfl); (exact HRX.out); (exact rfl); (exact rfl); intro w10 k10 g10; have K10 := Lib.hid k10; have G10 := Lib.hid g10; clear k10 g10)
      refine bodyPost_ret (results_ld_tmp Try.results82 _ _ gR _ rfl K10.out) rfl ?_
      exact ⟨v', by rw [HFIN.out]; rfl, by rw [HFIN.out]; exact HO.out.keptT G10.out HRX.out (by decide), (HE.out.trans HX9.out).grown G10.out HGR.out⟩
  · have ht1 : (te != 0) = true := by simpa using ht0
    have HFIN := Lib.hid (show ulkS l a n = ([], te) by rw [HSP.out, if_pos ht0])
    clear ht0
    have HRX := Lib.hid (Cs.ext HR.out HX5.out)
    go_wp2_with ((with_reducible refine wpList_store_agg ?_ ?_ 88 (.tmp 6) (.tmp 20) ?_ ldinfo gR #[.slice none 0 0] #[.slice none 0 0] ?_ ?_ ?_ ?_ ?_ ?_ ?_); (exact rfl); (exact rfl); (exact rfl); (exact one_slice _ _ _); (exact rfl); (exact rfl); (exact HRX.out); (exact rfl); (exact rfl); intro w9 k9 g9; have K9 := Lib.hid k9; have G9 := Lib.hid g9; clear k9 g9)
    refine bodyPost_ret (results_ld_tmp Try.results82 _ _ gR _ rfl K9.out) rfl ?_
    exact ⟨_, by rw [HFIN.out]; rfl, by rw [HFIN.out]; exact OwnH.nil _ _, (HE.out.trans HX5.out).grown G9.out HGR.out⟩
def relS (l : List Hd) (a n : Nat) : List Hd × Nat × Int := if taE l a n ≠ 0 then ([], 0, taE l a n) else if (rowG l a).stkB = false then ([], 0, 172) else if (rowG l a).lckB = true ∨ n < (rowG l a).fre then ([], 0, 173) else (plG l { rowG l a with stk := 0, dly := 0, fre := 0 }, (rowG l a).stk, 0)
def RetR (w : World) (r : List Hd × Nat × Int) (e : Ending) (w' : World) : Prop := ∃ v', e = .returned (.tuple #[.agg #[v'], wv r.2.1, .int .i64 r.2.2]) ∧ OwnH w' w.heap.size v' r.1 ∧ Ext w w'
set_option maxRecDepth 100000 in
theorem results_ldw_tmp {fn : Func} {p q r : Tmp} (h : fn.results = #[.cell p 88, .cell q 29, .tmp r]) (tmps : Array Value) (w : World) (g g' : Nat) (v : Value) (n : Nat) (hp : tmps.getD p undef = .pointer (some ⟨g, 0, none⟩)) (hg : Cs w g 88 #[v])
    (hq : tmps.getD q undef = .pointer (some ⟨g', 0, none⟩)) (hg' : Cs w g' 29 (wc n)) : (results fn tmps).run Try.prog w = .ok (.tuple #[.agg #[v], wv n, tmps.getD r undef]) w := by
  have hp' : tmps[p]?.getD undef = .pointer (some ⟨g, 0, none⟩) := by simpa using hp
  have hq' : tmps[q]?.getD undef = .pointer (some ⟨g', 0, none⟩) := by simpa using hq
  simp [results, h, hp', hq', asAddr, run_loadVar_row w g 88 88 #[v] (0, 0) _ hg Try.underlying88 rfl ldinfo, run_loadVar_row w g' 29 29 (wc n) (0, 0) _ hg' Try.underlying29 rfl winfo, wv]
set_option maxRecDepth 100000 in
theorem RelP.ext {l : List Hd} {h2 : Hd} {lo : Nat} {val : Value} {W W' : World} (h : ∃ v', val = .agg #[v'] ∧ OwnH W lo v' (plG l h2)) (he : Ext W W') : ∃ v', val = .agg #[v'] ∧ OwnH W' lo v' (plG l h2) := by
  obtain ⟨v, h1, h2⟩ := h
  exact ⟨v, h1, h2.ext he⟩
set_option maxRecDepth 100000 in
theorem RelQ.ext {l : List Hd} {h2 : Hd} {lo gR gZ g11 s : Nat} {val : Value} {w W W' : World} (h : ∃ v', val = .agg #[v'] ∧ OwnH W lo v' (plG l h2) ∧ Cs W gR 88 #[v'] ∧ Cs W gZ 29 (wc 0) ∧ Cs W g11 29 (wc s) ∧ Ext w W) (he : Ext W W') :
    ∃ v', val = .agg #[v'] ∧ OwnH W' lo v' (plG l h2) ∧ Cs W' gR 88 #[v'] ∧ Cs W' gZ 29 (wc 0) ∧ Cs W' g11 29 (wc s) ∧ Ext w W' := by
  obtain ⟨v, h1, h2, h3, h4, h5, h6⟩ := h
  exact ⟨v, h1, h2.ext he, Cs.ext h3 he, Cs.ext h4 he, Cs.ext h5 he, h6.trans he⟩
set_option maxRecDepth 100000 in
theorem RelR.ext {l : List Hd} {h2 : Hd} {lo gR gZ s : Nat} {val : Value} {w W W' : World} (h : ∃ v', val = .agg #[v'] ∧ OwnH W lo v' (plG l h2) ∧ Cs W gR 88 #[v'] ∧ Cs W gZ 29 (wc s) ∧ Ext w W) (he : Ext W W') :
    ∃ v', val = .agg #[v'] ∧ OwnH W' lo v' (plG l h2) ∧ Cs W' gR 88 #[v'] ∧ Cs W' gZ 29 (wc s) ∧ Ext w W' := by
  obtain ⟨v, h1, h2, h3, h4, h6⟩ := h
  exact ⟨v, h1, h2.ext he, Cs.ext h3 he, Cs.ext h4 he, h6.trans he⟩
set_option maxRecDepth 100000 in
set_option maxHeartbeats 4000000 in
theorem release_any (v : Value) (l : List Hd) (a : Nat) (n : Nat) (w : World) (hs : Hds w v l) (ha : a < 18446744073709551616) (hn : n < 18446744073709551616) :
    Calls Try.prog 83 #[.agg #[v], .int .u64 (a : Nat), .int .u64 (n : Nat)] w (RetR w (relS l a n)) := by
  have HS := Lib.hid hs
  have HA := Lib.hid ha
  have hv1 : v.oneCell' = true := by obtain ⟨A, c, rfl, _⟩ := hs.len; rfl
  have HV := Lib.hid hv1
  have HN := Lib.hid hn
  clear hn
  obtain ⟨w0, hw0⟩ : ∃ w0, ((w.alloc (.cells #[v] 88)).alloc (.cells #[.slice none 0 0] 88)).alloc (.cells (wc 0) 29) = w0 := ⟨_, rfl⟩
  have HW0 := Lib.hid hw0
  have HL : Hid (Cs w0 w.heap.size 88 #[v]) := Lib.hid (by rw [← hw0]; exact Cs.alloc (Cs.alloc (Cs.new _ _ _ _ rfl) _) _)
  have HR : Hid (Cs w0 (w.heap.size + 1) 88 #[.slice none 0 0]) := Lib.hid (by rw [← hw0]; exact Cs.alloc (Cs.new _ _ _ _ (by rw [World.size_alloc])) _)
  have HZ : Hid (Cs w0 (w.heap.size + 2) 29 (wc 0)) := Lib.hid (by rw [← hw0]; exact Cs.new _ _ _ _ (by rw [World.size_alloc, World.size_alloc]))
  have HE : Hid (Ext w w0) := Lib.hid (by rw [← hw0]; exact ((((Ext.refl w).alloc _).alloc _).alloc _))
  clear hs hw0 hv1 ha
  go_enter Try.func83, Try.ntmps83
  go_upto_region 1 with fail
  rw [← wc_zero, HW0.out]
  clear HW0
  obtain ⟨gL, hgL⟩ : ∃ g, w.heap.size = g := ⟨_, rfl⟩
  obtain ⟨gR, hgR⟩ : ∃ g, w.heap.size + 1 = g := ⟨_, rfl⟩
  obtain ⟨gZ, hgZ⟩ : ∃ g, w.heap.size + 2 = g := ⟨_, rfl⟩
  have HGL := Lib.hid (show w.heap.size ≤ gL by omega)
  have HGR := Lib.hid (show w.heap.size ≤ gR by omega)
  have HGZ := Lib.hid (show w.heap.size ≤ gZ by omega)
  rw [hgZ] at HZ ⊢
  rw [hgR] at HR ⊢
  rw [hgL] at HL ⊢
  have HRZ := Lib.hid (show gZ ≠ gR by omega)
  have HRL := Lib.hid (show gR < w0.heap.size ∧ gZ < w0.heap.size from ⟨by rw [← hgR]; exact Cs.lt (by rw [hgR]; exact HR.out), by rw [← hgZ]; exact Cs.lt (by rw [hgZ]; exact HZ.out)⟩)
  clear hgL hgR hgZ
  have q2 := HL.out.cell 0 _ rfl
  go_wp2_with fail
  refine (tellerAt_any v l a n _ (HS.out.ext HE.out) HA.out HN.out).mono ?_
  rintro e w1 ⟨rfl, he⟩
  have HX := Lib.hid he
  have HTO := Lib.hid (taV_one (l := l) (a := a) (n := n) HV.out)
  have HTS := Lib.hid (taV_size l a n v)
  clear he q2
  obtain ⟨tv, htv⟩ : ∃ tv, taV l a n v = tv := ⟨_, rfl⟩
  obtain ⟨te, hte⟩ : ∃ te, taE l a n = te := ⟨_, rfl⟩
  have HTV := Lib.hid htv
  have HTE := Lib.hid hte
  rw [htv] at HTO HTS ⊢
  rw [hte] at ⊢
  clear htv hte
  go_upto_region 2 with ((with_reducible refine wpList_store_agg ?_ ?_ 165 (.tmp 9) (.tmp 17) ?_ tlinfo w1.heap.size (tlc hz0 (.slice none 0 0)) tv ?_ ?_ ?_ ?_ ?_ ?_ ?_); (exact rfl); (exact rfl); (exact rfl); (exact HTO.out); (exact rfl); (exact rfl); (rw [← lit_tl0]; exact Cs.new _ _ _ _ rfl); (exact rfl); (exact HTS.out); intro w5 k5 g5; have K5 := Lib.hid k5; have G5 := Lib.hid g5; clear k5 g5)
  have HX5 := Lib.hid (HX.out.trans (((Ext.refl w1).alloc _).grown G5.out (Nat.le_refl _)))
  have HG8 := Lib.hid (show w.heap.size ≤ w1.heap.size from (HE.out.trans HX.out).size)
  have HG08 := Lib.hid (show w0.heap.size ≤ w1.heap.size from HX.out.size)
  obtain ⟨g8, hg8⟩ : ∃ g8, w1.heap.size = g8 := ⟨_, rfl⟩
  rw [hg8] at K5 HG8 HG08 ⊢
  clear hg8 HX G5
  have HSP : Hid (relS l a n = if te ≠ 0 then ([], 0, te) else if (rowG l a).stkB = false then ([], 0, 172) else if (rowG l a).lckB = true ∨ n < (rowG l a).fre then ([], 0, 173) else (plG l { rowG l a with stk := 0, dly := 0, fre := 0 }, (rowG l a).stk, 0)) := Lib.hid (by rw [← HTE.out]; rfl)
  by_cases ht0 : te = 0
  · subst ht0
    have HNB := Lib.hid (taE_zero HTE.out).2
    obtain ⟨hr, ha0⟩ := teE_zero (taE_zero HTE.out).1
    have HRI := Lib.hid (rightG_rise hr)
    have HLN := Lib.hid (rightG_parts hr).1
    have HROK := Lib.hid (rowG_ok HS.out.oks HA.out (a := a))
    have HRF := Lib.hid (rowG_fits hr a)
    have htv : tv = tlc (rowG l a) v := by rw [← HTV.out, taV_zero HTE.out]
    subst htv
    obtain ⟨h, hh⟩ : ∃ h, rowG l a = h := ⟨_, rfl⟩
    rw [hh] at HROK HSP K5 HRF HTV HTO HTS
    clear hr ha0 hh
    go_wp2_with ((with_reducible refine wpList_load_tl ?_ (.tmp 9) ?_ (g8) (h) (v) ?_ ?_ ?_); (exact rfl); (exact rfl); (exact rfl); (exact K5.out))
    refine (staked_any h v _ HROK.out HV.out).mono ?_
    rintro e w6 ⟨rfl, he⟩
    have HX6 := Lib.hid (HX5.out.trans he)
    have K6 := Lib.hid (Cs.ext K5.out he)
    clear he K5 HX5
    cases hsk : h.stkB with
    | false =>
      have HFIN := Lib.hid (show relS l a n = ([], 0, 172) by rw [HSP.out, if_neg (by simp), if_pos hsk])
      clear hsk
      have HRX := Lib.hid (Cs.ext HR.out HX6.out)
      have HZX := Lib.hid (Cs.ext HZ.out HX6.out)
      go_wp2_with (first
        | ((with_reducible refine wpList_store_agg ?_ ?_ 88 (.tmp 6) (.tmp 29) ?_ ldinfo gR #[.slice none 0 0] #[.slice none 0 0] ?_ ?_ ?_ ?_ ?_ ?_ ?_); (exact rfl); (exact rfl); (exact rfl); (exact one_slice _ _ _); (exact rfl); (exact rfl); (exact HRX.out); (exact rfl); (exact rfl); intro w9 k9 g9; have K9 := Lib.hid k9; have G9 := Lib.hid g9; clear k9 g9)
        | ((with_reducible refine wpList_store_word rfl rfl 29 (.tmp 7) (.tmp 30) rfl winfo gZ (wc 0) 0 ?_ ?_ ?_ ?_ ?_); (exact rfl); (exact rfl); (exact Cs.kept HZX.out G9.out (some_ne HRZ.out)); (exact rfl); intro wb kb gb; have Kb := Lib.hid kb; have Gb := Lib.hid gb; clear kb gb))
      refine bodyPost_ret (results_ldw_tmp Try.results83 _ _ gR gZ _ 0 rfl (Cs.kept K9.out Gb.out (some_ne (fun e => HRZ.out e.symm))) rfl Kb.out) rfl ?_
      exact ⟨_, by rw [HFIN.out]; rfl, by rw [HFIN.out]; exact OwnH.nil _ _, ((HE.out.trans HX6.out).grown G9.out HGR.out).grown Gb.out HGZ.out⟩
    | true =>
      replace HSP := Lib.hid (show relS l a n = if h.lckB = true ∨ n < h.fre then ([], 0, 173) else (plG l { h with stk := 0, dly := 0, fre := 0 }, h.stk, 0) by rw [HSP.out, if_neg (by simp), if_neg (by rw [hsk]; simp)])
      clear hsk
      go_wp2_with ((with_reducible refine wpList_load_tl ?_ (.tmp 9) ?_ (g8) (h) (v) ?_ ?_ ?_); (exact rfl); (exact rfl); (exact rfl); (exact K6.out))
      refine (locked_any h v _ HROK.out HV.out).mono ?_
      rintro e w7 ⟨rfl, he⟩
      have HX7 := Lib.hid (HX6.out.trans he)
      have K7 := Lib.hid (Cs.ext K6.out he)
      have q10 := Tl.fre K7.out
      clear he K6 HX6
      cases hlk : h.lckB with
      | true =>
        have HFIN := Lib.hid (show relS l a n = ([], 0, 173) by rw [HSP.out, if_pos (.inl hlk)])
        clear hlk q10
        have HRX := Lib.hid (Cs.ext HR.out HX7.out)
        have HZX := Lib.hid (Cs.ext HZ.out HX7.out)
        go_wp2_with (first
          | ((with_reducible refine wpList_store_agg ?_ ?_ 88 (.tmp 6) (.tmp 41) ?_ ldinfo gR #[.slice none 0 0] #[.slice none 0 0] ?_ ?_ ?_ ?_ ?_ ?_ ?_); (exact rfl); (exact rfl); (exact rfl); (exact one_slice _ _ _); (exact rfl); (exact rfl); (exact HRX.out); (exact rfl); (exact rfl); intro w9 k9 g9; have K9 := Lib.hid k9; have G9 := Lib.hid g9; clear k9 g9)
          | ((with_reducible refine wpList_store_word rfl rfl 29 (.tmp 7) (.tmp 42) rfl winfo gZ (wc 0) 0 ?_ ?_ ?_ ?_ ?_); (exact rfl); (exact rfl); (exact Cs.kept HZX.out G9.out (some_ne HRZ.out)); (exact rfl); intro wb kb gb; have Kb := Lib.hid kb; have Gb := Lib.hid gb; clear kb gb))
        refine bodyPost_ret (results_ldw_tmp Try.results83 _ _ gR gZ _ 0 rfl (Cs.kept K9.out Gb.out (some_ne (fun e => HRZ.out e.symm))) rfl Kb.out) rfl ?_
        exact ⟨_, by rw [HFIN.out]; rfl, by rw [HFIN.out]; exact OwnH.nil _ _, ((HE.out.trans HX7.out).grown G9.out HGR.out).grown Gb.out HGZ.out⟩
      | false =>
        by_cases hlt : n < h.fre
        · have e5 : decide (((n : Nat) : Int) < ((h.fre : Nat) : Int)) = true := decide_eq_true (by omega)
          have e6 : decide (n < h.fre) = true := decide_eq_true hlt
          have HFIN := Lib.hid (show relS l a n = ([], 0, 173) by rw [HSP.out, if_pos (.inr hlt)])
          clear hlk hlt
          have HRX := Lib.hid (Cs.ext HR.out HX7.out)
          have HZX := Lib.hid (Cs.ext HZ.out HX7.out)
          go_wp2_with (first
            | ((with_reducible refine wpList_store_agg ?_ ?_ 88 (.tmp 6) (.tmp 41) ?_ ldinfo gR #[.slice none 0 0] #[.slice none 0 0] ?_ ?_ ?_ ?_ ?_ ?_ ?_); (exact rfl); (exact rfl); (exact rfl); (exact one_slice _ _ _); (exact rfl); (exact rfl); (exact HRX.out); (exact rfl); (exact rfl); intro w9 k9 g9; have K9 := Lib.hid k9; have G9 := Lib.hid g9; clear k9 g9)
            | ((with_reducible refine wpList_store_word rfl rfl 29 (.tmp 7) (.tmp 42) rfl winfo gZ (wc 0) 0 ?_ ?_ ?_ ?_ ?_); (exact rfl); (exact rfl); (exact Cs.kept HZX.out G9.out (some_ne HRZ.out)); (exact rfl); intro wb kb gb; have Kb := Lib.hid kb; have Gb := Lib.hid gb; clear kb gb))
          refine bodyPost_ret (results_ldw_tmp Try.results83 _ _ gR gZ _ 0 rfl (Cs.kept K9.out Gb.out (some_ne (fun e => HRZ.out e.symm))) rfl Kb.out) rfl ?_
          exact ⟨_, by rw [HFIN.out]; rfl, by rw [HFIN.out]; exact OwnH.nil _ _, ((HE.out.trans HX7.out).grown G9.out HGR.out).grown Gb.out HGZ.out⟩
        · have e5 : decide (((n : Nat) : Int) < ((h.fre : Nat) : Int)) = false := decide_eq_false (by omega)
          have e6 : decide (n < h.fre) = false := decide_eq_false hlt
          have HFIN := Lib.hid (show relS l a n = (plG l { h with stk := 0, dly := 0, fre := 0 }, h.stk, 0) by rw [HSP.out, if_neg (by rw [hlk]; simp; omega)])
          clear hlk hlt
          have HSR := Lib.hid (Tl.stk K7.out)
          obtain ⟨s, hs⟩ : ∃ s, h.stk = s := ⟨_, rfl⟩
          have HSM := Lib.hid (show s < M256 by rw [← hs]; exact HROK.out.2.2.1)
          rw [hs] at HFIN HSR
          clear hs
          go_upto_region 9 with (first
            | ((with_reducible refine wpList_load_wordIn ?_ (.tmp 44) ?_ g8 5 (s) ?_ ?_ ?_); (exact rfl); (exact rfl); (exact rfl); (exact HSR.out))
            | ((with_reducible refine wpList_store_word rfl rfl 29 (.tmp 11) (.tmp 45) rfl winfo w7.heap.size (wc 0) s ?_ ?_ ?_ ?_ ?_); (exact rfl); (exact rfl); (exact Cs.new _ _ _ _ rfl); (exact rfl); intro w8 k8 g8'; have K8 := Lib.hid k8; have G8 := Lib.hid g8'; clear k8 g8'))
          have HY8 := Lib.hid (((Ext.refl w7).alloc (.cells (wc 0) 29)).grown G8.out (Nat.le_refl _))
          have HX8 := Lib.hid (HX7.out.trans HY8.out)
          have KT := Lib.hid (Cs.ext K7.out HY8.out)
          have HG11 := Lib.hid (show w0.heap.size ≤ w7.heap.size from HX7.out.size)
          have HN11 := Lib.hid (show g8 ≠ w7.heap.size by have := Cs.lt K7.out; omega)
          obtain ⟨g11, hg11⟩ : ∃ g, w7.heap.size = g := ⟨_, rfl⟩
          rw [hg11] at K8 HG11 HN11 ⊢
          clear hg11 G8 K7 HX7 HY8 q10 HSR
          go_upto_region 10 with (first
            | ((with_reducible refine wpList_store_in ?_ ?_ 29 (.tmp 48) (.tmp 46) ?_ g8 5 165 ((tlc h v)) (wc 0) ?_ ?_ ?_ ?_ ?_ ?_ ?_); (exact rfl); (exact rfl); (exact rfl); (exact rfl); (exact rfl); (exact KT.out); (exact winfo); (exact of_decide_eq_true rfl); (exact wc_one 0); intro w15 k15 g15; have K15 := Lib.hid k15; have G15 := Lib.hid g15; clear k15 g15)
            | ((with_reducible refine wpList_store_in1 ?_ ?_ 26 (.tmp 50) (.const (.int .u64 0)) ?_ g8 9 165 ((layC (tlc h v) 5 (wc 0))) (.int .u64 0) rfl ?_ ?_ ?_ u64info ?_ rfl ?_); (exact rfl); (exact rfl); (exact rfl); (exact rfl); (exact rfl); (exact K15.out); (exact of_decide_eq_true rfl); intro w16 k16 g16; have K16 := Lib.hid k16; have G16 := Lib.hid g16; clear k16 g16)
            | ((with_reducible refine wpList_store_in1 ?_ ?_ 26 (.tmp 52) (.const (.int .u64 0)) ?_ g8 10 165 ((layC (layC (tlc h v) 5 (wc 0)) 9 #[.int .u64 0])) (.int .u64 0) rfl ?_ ?_ ?_ u64info ?_ rfl ?_); (exact rfl); (exact rfl); (exact rfl); (exact rfl); (exact rfl); (exact K16.out); (exact of_decide_eq_true rfl); intro w17 k17 g17; have K17 := Lib.hid k17; have G17 := Lib.hid g17; clear k17 g17))
          have HXb := Lib.hid (((HX8.out.grown G15.out HG08.out).grown G16.out HG08.out).grown G17.out HG08.out)
          have KT := Lib.hid (show Tl w17 g8 { h with stk := 0, dly := 0, fre := 0 } v from K17.out)
          have KW := Lib.hid (Cs.kept (Cs.kept (Cs.kept K8.out G15.out (some_ne (fun e => HN11.out e.symm))) G16.out (some_ne (fun e => HN11.out e.symm))) G17.out (some_ne (fun e => HN11.out e.symm)))
          have KR := Lib.hid (Cs.ext HR.out HXb.out)
          have KZ := Lib.hid (Cs.ext HZ.out HXb.out)
          have HSO := Lib.hid (HS.out.ext (HE.out.trans HXb.out))
          have HLB := Lib.hid (show w.heap.size ≤ w17.heap.size from (HE.out.trans HXb.out).size)
          have HL0 := Lib.hid (show w0.heap.size ≤ w17.heap.size from HXb.out.size)
          clear K15 G15 K16 G16 K17 G17 HX8 K8
          have HH2 := Lib.hid (show ({ h with stk := 0, dly := 0, fre := 0 } : Hd).ok from ⟨HROK.out.1, HROK.out.2.1, M256_pos, Nat.zero_lt_succ _, Nat.zero_lt_succ _⟩)
          generalize ({ h with stk := 0, dly := 0, fre := 0 } : Hd) = h2 at *
          obtain ⟨rv, rfl⟩ : ∃ rv, rv = v := ⟨v, rfl⟩
          refine wp_named fun a0 ha0 => ?_
          obtain ⟨fr, hfr⟩ : ∃ fr : (Nat → Value) → Act, ∀ V, fr V = ((((a0.put (some 53) (V 0)).put (some 54) (V 1)).put (some 55) (V 2)).put (some 8) (V 5)) := ⟨fun V => ((((a0.put (some 53) (V 0)).put (some 54) (V 1)).put (some 55) (V 2)).put (some 8) (V 5)), fun _ => rfl⟩
          rw [ha0] at hfr
          simp only [Act.put, List.setIfInBounds_toArray, List.set_cons_zero, List.set_cons_succ] at hfr
          have HFR := Lib.hid hfr
          clear hfr
          refine wp_region_inv (by kernel_rfl) (by kernel_rfl) (fun L A W => ∃ V : Nat → Value, A = fr V ∧ Vals (fun j => ([some (.agg (tlc h2 rv)), none, some (wv s), none, none, some (.int .i64 0)] : List (Option Value)).getD j none) L V ∧ (L 3 = false → Ext w17 W) ∧ (L 3 = true → L 4 = false → ∃ v', V 1 = .agg #[v'] ∧ OwnH W w17.heap.size v' (plG l h2) ∧ Cs W gR 88 #[v'] ∧ Cs W gZ 29 (wc 0) ∧ Cs W g11 29 (wc s) ∧ Ext w W) ∧ (L 4 = true → ∃ v', V 1 = .agg #[v'] ∧ OwnH W w17.heap.size v' (plG l h2) ∧ Cs W gR 88 #[v'] ∧ Cs W gZ 29 (wc s) ∧ Ext w W) ∧ (L 3 = false → L 1 = true → ∃ v', (V 1) = .agg #[v'] ∧ OwnH W w17.heap.size v' (plG l h2))) ?_ ⟨?_, ?_, ?_, ?_, ?_, ?_, trivial⟩ ?_
          · refine ⟨fun j => a0.tmps.getD (([53, 54, 55, 0, 0, 8] : List Nat).getD j 0) undef, ?_, Vals.no _ _ _ (far_none _ _ rfl), fun _ => (Ext.refl _).drew, fun h0 h1 => absurd h0 (by decide), fun h0 => absurd h0 (by decide), fun h0 h1 => absurd h1 (by decide)⟩
            rw [HFR.out, ha0]
            rfl
          all_goals clear ha0
          · rintro L A W K hL hC hW ⟨V, rfl, HV, s0, s1, s2, f1⟩ hK
            have hB := s0 (hC.no (hC.no hL 1 _ rfl rfl) 3 _ rfl rfl)
            have H := Lib.hid (show ∀ W', Ext W W' → K (fr (upd V 0 (.agg (tlc h2 rv)))) W' from fun W' he => hK _ _ ⟨upd V 0 (.agg (tlc h2 rv)), rfl, HV.up 0 _ (fun x hx => Option.some.inj hx), fun h0 => Ext.trans (s0 (by unfold More at h0; rwa [if_neg (by decide)] at h0)) he, fun h0 h1 => RelQ.ext (s1 (more_ne h0 rfl) (by unfold More at h1; rwa [if_neg (by decide)] at h1)) he, fun h0 => RelR.ext (s2 (more_ne h0 rfl)) he, fun h0 h1 => RelP.ext (f1 (by unfold More at h0; rwa [if_neg (by decide)] at h0) (more_ne h1 rfl)) he⟩)
            clear hK hC hW hL HV s0 s1 s2 f1
            rw [HFR.out]
            have HTW := Lib.hid (KT.out.ext hB)
            clear hB
            refine wpList_load_tl rfl (.tmp 9) rfl g8 h2 rv rfl HTW.out ?_
            show K _ _
            have := H.out _ (Ext.refl _)
            rw [HFR.out] at this
            exact this
          · rintro L A W K hL hC hW ⟨V, rfl, HV, s0, s1, s2, f1⟩ hK
            have e0 : V 0 = .agg (tlc h2 rv) := HV 0 _ rfl (hW 0 rfl)
            have hB := s0 (hC.no hL 3 _ rfl rfl)
            have H := Lib.hid (show ∀ v W', Ext W W' → (∃ v', v = .agg #[v'] ∧ OwnH W' w17.heap.size v' (plG l h2)) → K (fr (upd V 1 v)) W' from fun v W' he hp => hK _ _ ⟨upd V 1 v, rfl, HV.up 1 _ (fun x hx => absurd hx (by intro h; cases h)), fun h0 => Ext.trans (s0 (by unfold More at h0; rwa [if_neg (by decide)] at h0)) he, fun h0 h1 => absurd (more_ne h0 rfl) (by rw [(hC.no hL 3 _ rfl rfl)]; simp), fun h0 => absurd (more_ne h0 rfl) (by rw [(hC.no (hC.no hL 3 _ rfl rfl) 4 _ rfl rfl)]; simp), fun h0 h1 => hp⟩)
            have HU := Lib.hid (show ∀ v, (upd V 1 v) 0 = .agg (tlc h2 rv) from fun v => e0)
            clear hK hC hW hL HV s0 s1 s2 f1
            rw [HFR.out]
            rw [e0]
            clear e0
            have HB' := Lib.hid hB
            clear hB
            go_wp2_with fail
            refine (ledger_any h2 rv l _ HH2.out (HSO.out.ext HB'.out) HRI.out (by have := HLN.out; omega)).mono ?_
            rintro e wx ⟨v', rfl, ho, he⟩
            have := H.out _ _ he (⟨v', rfl, ho.mono HB'.out.size⟩)
            clear H
            go_wp2_with fail
            show K _ _
            rw [HFR.out] at this
            obtain u0 := HU.out _
            rw [u0] at this
            exact this
          · rintro L A W K hL hC hW ⟨V, rfl, HV, s0, s1, s2, f1⟩ hK
            have hB : Cs W g11 29 (wc s) := by
              cases h3 : L 3 with
              | false => exact Cs.ext KW.out (s0 h3)
              | true =>
                obtain ⟨_, _, _, _, _, x5, _⟩ := s1 h3 (hC.no hL 4 _ rfl rfl)
                exact x5
            have H := Lib.hid (show ∀ W', Ext W W' → K (fr (upd V 2 (wv s))) W' from fun W' he => hK _ _ ⟨upd V 2 (wv s), rfl, HV.up 2 _ (fun x hx => Option.some.inj hx), fun h0 => Ext.trans (s0 (by unfold More at h0; rwa [if_neg (by decide)] at h0)) he, fun h0 h1 => RelQ.ext (s1 (more_ne h0 rfl) (by unfold More at h1; rwa [if_neg (by decide)] at h1)) he, fun h0 => RelR.ext (s2 (more_ne h0 rfl)) he, fun h0 h1 => RelP.ext (f1 (by unfold More at h0; rwa [if_neg (by decide)] at h0) (more_ne h1 rfl)) he⟩)
            clear hK hC hW hL HV s0 s1 s2 f1
            rw [HFR.out]
            have HWW := Lib.hid (Cs.rg hB)
            clear hB
            refine wpList_load_wordIn rfl (.tmp 11) rfl g11 0 s rfl HWW.out ?_
            show K _ _
            have := H.out _ (Ext.refl _)
            rw [HFR.out] at this
            exact this
          · rintro L A W K hL hC hW ⟨V, rfl, HV, s0, s1, s2, f1⟩ hK
            have hB := s0 hL
            have q1 := f1 hL (hW 1 rfl)
            obtain ⟨v1, e1, z1⟩ := q1
            have H := Lib.hid (show ∀ W', (∃ v', V 1 = .agg #[v'] ∧ OwnH W' w17.heap.size v' (plG l h2) ∧ Cs W' gR 88 #[v'] ∧ Cs W' gZ 29 (wc 0) ∧ Cs W' g11 29 (wc s) ∧ Ext w W') → K (fr (V)) W' from fun W' hA => hK _ _ ⟨V, rfl, HV.st 3 rfl, fun h0 => absurd h0 (by unfold More; rw [if_pos rfl]; simp), fun h0 h1 => hA, fun h0 => absurd (more_ne h0 rfl) (by rw [(hC.no hL 4 _ rfl rfl)]; simp), fun h0 h1 => absurd h0 (by unfold More; rw [if_pos rfl]; simp)⟩)
            have HU := Lib.hid (show (V) 1 = .agg #[v1] from e1)
            clear hK hC hW hL HV s0 s1 s2 f1
            rw [HFR.out]
            rw [e1]
            clear e1
            have HV1 := Lib.hid (show v1.oneCell' = true by obtain ⟨A, c, e, _⟩ := z1.hds.len; rw [e]; rfl)
            have HB' := Lib.hid hB
            have HZ1 := Lib.hid z1
            clear hB z1
            refine wpList_store_agg rfl rfl 88 (.tmp 6) (.tmp 54) rfl ldinfo gR #[.slice none 0 0] #[v1] (one_val HV1.out) rfl rfl (Cs.ext KR.out HB'.out) rfl rfl ?_
            intro w' kk gg
            have HA := Lib.hid (show ∃ v', V 1 = .agg #[v'] ∧ OwnH w' w17.heap.size v' (plG l h2) ∧ Cs w' gR 88 #[v'] ∧ Cs w' gZ 29 (wc 0) ∧ Cs w' g11 29 (wc s) ∧ Ext w w' from ⟨v1, HU.out, HZ1.out.keptT gg (Cs.ext KR.out HB'.out) (by decide), kk, Cs.kept (Cs.ext KZ.out HB'.out) gg (some_ne HRZ.out), Cs.kept (Cs.ext KW.out HB'.out) gg (some_ne (by have := HG11.out; have := HRL.out.1; omega)), ((HE.out.trans HXb.out).trans HB'.out).grown gg HGR.out⟩)
            clear kk gg
            show K _ _
            have := H.out _ HA.out
            rw [HFR.out] at this
            obtain u1 := HU.out
            rw [u1] at this
            exact this
          · rintro L A W K hL hC hW ⟨V, rfl, HV, s0, s1, s2, f1⟩ hK
            have e2 : V 2 = wv s := HV 2 _ rfl (hW 2 rfl)
            have hB := s1 (hW 3 rfl) hL
            have H := Lib.hid (show ∀ W', (∃ v', V 1 = .agg #[v'] ∧ OwnH W' w17.heap.size v' (plG l h2) ∧ Cs W' gR 88 #[v'] ∧ Cs W' gZ 29 (wc s) ∧ Ext w W') → K (fr (V)) W' from fun W' hA => hK _ _ ⟨V, rfl, HV.st 4 rfl, fun h0 => absurd (show L 3 = false by unfold More at h0; rwa [if_neg (by decide)] at h0) (by rw [(hW 3 rfl)]; simp), fun h0 h1 => absurd h1 (by unfold More; rw [if_pos rfl]; simp), fun h0 => hA, fun h0 h1 => absurd (show L 3 = false by unfold More at h0; rwa [if_neg (by decide)] at h0) (by rw [(hW 3 rfl)]; simp)⟩)
            have HU := Lib.hid (show (V) 2 = wv s from e2)
            clear hK hC hW hL HV s0 s1 s2 f1
            rw [HFR.out]
            rw [e2]
            clear e2
            obtain ⟨v', x1, x2, x3, x4, x5, x6⟩ := hB
            have HX := Lib.hid (And.intro x1 (And.intro x2 (And.intro x3 (And.intro x4 x6))))
            clear x1 x2 x3 x4 x5 x6
            refine wpList_store_word rfl rfl 29 (.tmp 7) (.tmp 55) rfl winfo gZ (wc 0) s rfl rfl HX.out.2.2.2.1 rfl ?_
            intro w' kk gg
            have HA := Lib.hid (show ∃ v', V 1 = .agg #[v'] ∧ OwnH w' w17.heap.size v' (plG l h2) ∧ Cs w' gR 88 #[v'] ∧ Cs w' gZ 29 (wc s) ∧ Ext w w' from ⟨v', HX.out.1, HX.out.2.1.keptT gg HX.out.2.2.2.1 (by decide), Cs.kept HX.out.2.2.1 gg (some_ne (fun e => HRZ.out e.symm)), kk, HX.out.2.2.2.2.grown gg HGZ.out⟩)
            clear kk gg
            show K _ _
            have := H.out _ HA.out
            rw [HFR.out] at this
            obtain u2 := HU.out
            rw [u2] at this
            exact this
          · rintro L A W K hL hC hW ⟨V, rfl, HV, s0, s1, s2, f1⟩ hK
            have H := Lib.hid (show ∀ W', Ext W W' → K (fr (upd V 5 (.int .i64 0))) W' from fun W' he => hK _ _ ⟨upd V 5 (.int .i64 0), rfl, HV.up 5 _ (fun x hx => Option.some.inj hx), fun h0 => Ext.trans (s0 (by unfold More at h0; rwa [if_neg (by decide)] at h0)) he, fun h0 h1 => RelQ.ext (s1 (more_ne h0 rfl) (by unfold More at h1; rwa [if_neg (by decide)] at h1)) he, fun h0 => RelR.ext (s2 (more_ne h0 rfl)) he, fun h0 h1 => RelP.ext (f1 (by unfold More at h0; rwa [if_neg (by decide)] at h0) (more_ne h1 rfl)) he⟩)
            clear hK hC hW hL HV s0 s1 s2 f1
            rw [HFR.out]
            go_wp2_with fail
            show K _ _
            have := H.out _ (Ext.refl _)
            rw [HFR.out] at this
            exact this
          · rintro L A W hL ⟨V, rfl, HV, s0, s1, s2, f1⟩
            have e0 : V 0 = .agg (tlc h2 rv) := HV 0 _ rfl (hL 0 (by simp))
            have e2 : V 2 = wv s := HV 2 _ rfl (hL 2 (by simp))
            have e5 : V 5 = .int .i64 0 := HV 5 _ rfl (hL 5 (by simp))
            have hA := s2 (hL 4 (by simp))
            rw [HFR.out]
            rw [e0, e2, e5]
            clear hL HV HFR e0 e2 e5 s0 s1 s2 f1
            obtain ⟨v', x1, x2, x3, x4, x5⟩ := hA
            have HX := Lib.hid (And.intro x2 (And.intro x3 (And.intro x4 x5)))
            clear x1 x2 x3 x4 x5
            go_wp2_with fail
            refine bodyPost_ret (results_ldw_tmp Try.results83 _ _ gR gZ v' s rfl HX.out.2.1 rfl HX.out.2.2.1) rfl ?_
            exact ⟨v', by rw [HFIN.out]; rfl, by rw [HFIN.out]; exact HX.out.1.mono HLB.out, HX.out.2.2.2⟩
  · have ht1 : (te != 0) = true := by simpa using ht0
    have HFIN := Lib.hid (show relS l a n = ([], 0, te) by rw [HSP.out, if_pos ht0])
    clear ht0
    have HRX := Lib.hid (Cs.ext HR.out HX5.out)
    have HZX := Lib.hid (Cs.ext HZ.out HX5.out)
    go_wp2_with (first
      | ((with_reducible refine wpList_store_agg ?_ ?_ 88 (.tmp 6) (.tmp 22) ?_ ldinfo gR #[.slice none 0 0] #[.slice none 0 0] ?_ ?_ ?_ ?_ ?_ ?_ ?_); (exact rfl); (exact rfl); (exact rfl); (exact one_slice _ _ _); (exact rfl); (exact rfl); (exact HRX.out); (exact rfl); (exact rfl); intro w9 k9 g9; have K9 := Lib.hid k9; have G9 := Lib.hid g9; clear k9 g9)
      | ((with_reducible refine wpList_store_word rfl rfl 29 (.tmp 7) (.tmp 23) rfl winfo gZ (wc 0) 0 ?_ ?_ ?_ ?_ ?_); (exact rfl); (exact rfl); (exact Cs.kept HZX.out G9.out (some_ne HRZ.out)); (exact rfl); intro wb kb gb; have Kb := Lib.hid kb; have Gb := Lib.hid gb; clear kb gb))
    refine bodyPost_ret (results_ldw_tmp Try.results83 _ _ gR gZ _ 0 rfl (Cs.kept K9.out Gb.out (some_ne (fun e => HRZ.out e.symm))) rfl Kb.out) rfl ?_
    exact ⟨_, by rw [HFIN.out]; rfl, by rw [HFIN.out]; exact OwnH.nil _ _, ((HE.out.trans HX5.out).grown G9.out HGR.out).grown Gb.out HGZ.out⟩
end Go.Proofs.Ytepggbhibpjkpaa
