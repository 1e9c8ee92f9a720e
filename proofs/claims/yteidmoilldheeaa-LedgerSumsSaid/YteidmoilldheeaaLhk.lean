/- Package ledger: what a ledger tells; which are the same. -/
import Derived.Test.YteidmoilldheeaaLhj
namespace Go.Proofs.Yteidmoilldheeaa
open Go.ChangeShapes Go.WideShapes Go.ChangeAt Go.RowKit Go.Shelf

/-- What Find, Sum, Staked answer. -/
def fdG (l : List Hd) (a : Nat) : Hd := if teE l a = 0 then rowG l a else hz0
def sumG (l : List Hd) : Nat := if rightG l then (sumW (flatH l)).1 else 0
def stdG (l : List Hd) (a least delay : Nat) : Bool := (fdG l a).lckB && (decide (least ≤ (fdG l a).stk) && decide (delay ≤ (fdG l a).dly))
set_option maxRecDepth 100000 in
theorem telV_fd (l : List Hd) (a : Nat) (v : Value) (hv : v.oneCell' = true) : ∃ v2, telV l a v = tlc (fdG l a) v2 ∧ v2.oneCell' = true := by
  unfold fdG
  by_cases h : teE l a = 0
  · rw [if_pos h, telV_zero h]
    exact ⟨v, rfl, hv⟩
  · rw [if_neg h, telV_no h]
    exact ⟨_, rfl, rfl⟩
set_option maxRecDepth 100000 in
theorem fdG_ok {l : List Hd} (h : ∀ p ∈ l, p.ok) {a : Nat} (ha : a < 18446744073709551616) : (fdG l a).ok := by
  unfold fdG
  split
  · exact rowG_ok h ha
  · exact hz0_ok
set_option maxRecDepth 100000 in
theorem cmp_geL (a b : Nat) : decide (0 ≤ cmpN a b) = decide (b ≤ a) := by
  unfold cmpN
  by_cases h : a < b
  · have h2 : ¬ b ≤ a := by omega
    simp [h, h2]
  · have h2 : b ≤ a := by omega
    by_cases h3 : b < a <;> simp [h, h2, h3]
set_option maxRecDepth 100000 in
theorem lit_hz0 : (#[.int .u64 0, .int .u64 0, .int .u64 0, .int .u64 0, .int .u64 0, .int .u64 0, .int .u64 0, .int .u64 0, .int .u64 0, .int .u64 0, .int .u64 0] : Array Value) = hdc hz0 := by simp [hdc, hz0, lv, lb]
set_option maxRecDepth 100000 in
set_option maxHeartbeats 4000000 in
theorem findL_any (v : Value) (l : List Hd) (a : Nat) (w : World) (hs : Hds w v l) (ha : a < 18446744073709551616) :
    Calls Try.prog 28 #[.agg #[v], .int .u64 (a : Nat)] w fun e w' => e = .returned (.agg (hdc (fdG l a))) ∧ Ext w w' := by
  have HS := Lib.hid hs
  have HA := Lib.hid ha
  have hv1 : v.oneCell' = true := by obtain ⟨A, c, rfl, _⟩ := hs.len; rfl
  have HV := Lib.hid hv1
  obtain ⟨w0, hw0⟩ : ∃ w0, (w.alloc (.cells #[v] 59)).alloc (.cells (hdc hz0) 68) = w0 := ⟨_, rfl⟩
  have HW0 := Lib.hid hw0
  have HL : Hid (Cs w0 w.heap.size 59 #[v]) := Lib.hid (by rw [← hw0]; exact Cs.alloc (Cs.new _ _ _ _ rfl) _)
  have HR : Hid (Cs w0 (w.heap.size + 1) 68 (hdc hz0)) := Lib.hid (by rw [← hw0]; exact Cs.new _ _ _ _ (by rw [World.size_alloc]))
  have HE : Hid (Ext w w0) := Lib.hid (by rw [← hw0]; exact (((Ext.refl w).alloc _).alloc _))
  clear hs hw0 hv1 ha
  go_enter Try.func28, Try.ntmps28
  go_upto_region 1 with fail
  rw [lit_hz0, HW0.out]
  clear HW0
  obtain ⟨gL, hgL⟩ : ∃ g, w.heap.size = g := ⟨_, rfl⟩
  obtain ⟨gR, hgR⟩ : ∃ g, w.heap.size + 1 = g := ⟨_, rfl⟩
  have HGL := Lib.hid (show w.heap.size ≤ gL by omega)
  have HGR := Lib.hid (show w.heap.size ≤ gR by omega)
  rw [hgR] at HR ⊢
  rw [hgL] at HL ⊢
  clear hgL hgR
  have q2 := HL.out.cell 0 _ rfl
  go_wp2_with fail
  refine (tellerOf_any v l a _ (HS.out.ext HE.out) HA.out).mono ?_
  rintro e w1 ⟨rfl, he⟩
  have HX := Lib.hid he
  clear he q2
  obtain ⟨v2, htv, hv2⟩ := telV_fd l a v HV.out
  have HV2 := Lib.hid hv2
  have HF := Lib.hid (fdG_ok HS.out.oks HA.out (a := a))
  rw [htv]
  clear htv hv2
  obtain ⟨te, hte⟩ : ∃ te, teE l a = te := ⟨_, rfl⟩
  rw [hte]
  clear hte
  obtain ⟨h, hh⟩ : ∃ h, fdG l a = h := ⟨_, rfl⟩
  have HH := Lib.hid hh
  rw [hh] at HF ⊢
  clear hh
  have HTO := Lib.hid (tlc_one h v2 HV2.out)
  obtain ⟨tv, htv⟩ : ∃ tv, tlc h v2 = tv := ⟨_, rfl⟩
  have HTV := Lib.hid htv
  have HTS := Lib.hid (show tv.size = 12 by rw [← htv]; rfl)
  rw [htv] at HTO ⊢
  clear htv
  go_upto_region 2 with ((with_reducible refine wpList_store_agg ?_ ?_ 107 (.tmp 5) (.tmp 11) ?_ tlinfo w1.heap.size (tlc hz0 (.slice none 0 0)) tv ?_ ?_ ?_ ?_ ?_ ?_ ?_); (exact rfl); (exact rfl); (exact rfl); (exact HTO.out); (exact rfl); (exact rfl); (rw [← lit_tl0]; exact Cs.new _ _ _ _ rfl); (exact rfl); (exact HTS.out); intro w5 k5 g5; have K5 := Lib.hid k5; have G5 := Lib.hid g5; clear k5 g5)
  have HX5 := Lib.hid (HX.out.trans (((Ext.refl w1).alloc _).grown G5.out (Nat.le_refl _)))
  have KT := Lib.hid (show Tl w5 w1.heap.size h v2 by unfold Tl; rw [HTV.out]; exact K5.out)
  obtain ⟨g8, hg8⟩ : ∃ g8, w1.heap.size = g8 := ⟨_, rfl⟩
  rw [hg8] at K5 KT ⊢
  clear hg8 HX G5
  have HHD := Lib.hid KT.out.hd
  have HRX := Lib.hid (Cs.ext HR.out HX5.out)
  go_wp2_with (first
    | ((with_reducible refine wpList_load_hd ?_ (.tmp 13) ?_ (g8) (0) (h) ?_ ?_ ?_); (exact rfl); (exact rfl); (exact rfl); (exact HHD.out))
    | ((with_reducible refine wpList_store_agg ?_ ?_ 68 (.tmp 4) (.tmp 14) ?_ hdinfo gR (hdc hz0) (hdc h) ?_ ?_ ?_ ?_ ?_ ?_ ?_); (exact rfl); (exact rfl); (exact rfl); (exact hdc_one h); (exact rfl); (exact rfl); (exact HRX.out); (exact rfl); (exact rfl); intro w9 k9 g9; have K9 := Lib.hid k9; have G9 := Lib.hid g9; clear k9 g9))
  refine bodyPost_ret (results_cell_row Try.results28 _ _ gR 68 _ (0, 0) _ rfl K9.out Try.underlying68 rfl hdinfo) rfl ?_
  exact ⟨by rw [HH.out], (HE.out.trans HX5.out).grown G9.out HGR.out⟩
set_option maxRecDepth 100000 in
set_option maxHeartbeats 4000000 in
theorem sumL_any (v : Value) (l : List Hd) (w : World) (hs : Hds w v l) (hl : l.length ≤ 1000) : Calls Try.prog 29 #[.agg #[v]] w fun e w' => e = .returned (wv (sumG l)) ∧ Ext w w' := by
  have HS := Lib.hid hs
  obtain ⟨w0, hw0⟩ : ∃ w0, (w.alloc (.cells #[v] 59)).alloc (.cells (wc 0) 31) = w0 := ⟨_, rfl⟩
  have HW0 := Lib.hid hw0
  have HL : Hid (Cs w0 w.heap.size 59 #[v]) := Lib.hid (by rw [← hw0]; exact Cs.alloc (Cs.new _ _ _ _ rfl) _)
  have HR : Hid (Cs w0 (w.heap.size + 1) 31 (wc 0)) := Lib.hid (by rw [← hw0]; exact Cs.new _ _ _ _ (by rw [World.size_alloc]))
  have HE : Hid (Ext w w0) := Lib.hid (by rw [← hw0]; exact ((Ext.refl w).alloc _).alloc _)
  have HSG : Hid (sumG l = if rightG l then (sumW (flatH l)).1 else 0) := Lib.hid rfl
  clear hs hw0
  go_enter Try.func29, Try.ntmps29
  go_upto_region 1 with fail
  rw [← wc_zero, HW0.out]
  clear HW0
  obtain ⟨gL, hgL⟩ : ∃ g, w.heap.size = g := ⟨_, rfl⟩
  obtain ⟨gR, hgR⟩ : ∃ g, w.heap.size + 1 = g := ⟨_, rfl⟩
  have HGR := Lib.hid (show w.heap.size ≤ gR by omega)
  rw [hgR] at HR ⊢
  rw [hgL] at HL ⊢
  clear hgL hgR
  have q2 := HL.out.cell 0 _ rfl
  go_wp2_with fail
  refine (ledCheck_any v l _ (HS.out.ext HE.out)).mono ?_
  rintro e w1 ⟨rfl, he⟩
  have HX := Lib.hid he
  have HRX := Lib.hid (Cs.ext HR.out he)
  have q2 := (Cs.ext HL.out he).cell 0 _ rfl
  clear he
  rw [show chkG l = if rightG l then 0 else 170 from rfl]
  cases hr : rightG l with
  | false =>
    rw [hr] at HSG
    clear hr
    go_wp2_with ((with_reducible refine wpList_store_word rfl rfl 31 (.tmp 2) (.tmp 8) rfl winfo gR (wc 0) 0 ?_ ?_ ?_ ?_ ?_); (exact rfl); (exact rfl); (exact HRX.out); (exact rfl); intro w6 k6 g6; have K6 := Lib.hid k6; have G6 := Lib.hid g6; clear k6 g6)
    refine bodyPost_ret (results_word Try.results29 _ _ gR 0 rfl K6.out Try.underlying31 winfo) rfl ?_
    exact ⟨by rw [HSG.out]; rfl, (HE.out.trans HX.out).grown G6.out HGR.out⟩
  | true =>
    rw [hr] at HSG
    clear hr
    go_wp2_with fail
    refine (ledSum_any v (.slice none 0 0) l [] _ (HS.out.ext (HE.out.trans HX.out)) ⟨none, 0, rfl, Nat.le_refl _, Nat.zero_le _, fun h => absurd h (by simp), fun x hx => nomatch hx⟩ (by omega) (by simp)).mono ?_
    rintro e w5 ⟨rfl, he⟩
    rw [List.nil_append]
    have HX5 := Lib.hid (HX.out.trans he)
    clear he HX q2 HRX
    obtain ⟨s, hs⟩ : ∃ s, (sumW (flatH l)).1 = s := ⟨_, rfl⟩
    rw [hs] at HSG ⊢
    obtain ⟨sb, hsb⟩ : ∃ sb, (sumW (flatH l)).2 = sb := ⟨_, rfl⟩
    rw [hsb]
    clear hs hsb
    go_upto_region 4 with ((with_reducible refine wpList_store_word rfl rfl 31 (.tmp 3) (.tmp 13) rfl winfo w5.heap.size (wc 0) s ?_ ?_ ?_ ?_ ?_); (exact rfl); (exact rfl); (exact Cs.new _ _ _ _ rfl); (exact rfl); intro w6 k6 g6; have K6 := Lib.hid k6; have HX6 := Lib.hid (HX5.out.trans (((Ext.refl w5).alloc _).grown g6 (Nat.le_refl _))); clear k6 g6)
    have HRX := Lib.hid (Cs.ext HR.out HX6.out)
    have HW := Lib.hid (Cs.rg K6.out)
    go_wp2_with (first
      | ((with_reducible refine wpList_load_wordIn ?_ (.tmp 3) ?_ w5.heap.size 0 s ?_ ?_ ?_); (exact rfl); (exact rfl); (exact rfl); (exact HW.out))
      | ((with_reducible refine wpList_store_word rfl rfl 31 (.tmp 2) (.tmp 15) rfl winfo gR (wc 0) s ?_ ?_ ?_ ?_ ?_); (exact rfl); (exact rfl); (exact HRX.out); (exact rfl); intro w7 k7 g7; have K7 := Lib.hid k7; have G7 := Lib.hid g7; clear k7 g7))
    refine bodyPost_ret (results_word Try.results29 _ _ gR s rfl K7.out Try.underlying31 winfo) rfl ?_
    exact ⟨by rw [HSG.out]; rfl, (HE.out.trans HX6.out).grown G7.out HGR.out⟩
set_option maxRecDepth 100000 in
set_option maxHeartbeats 4000000 in
theorem stakedL_any (v : Value) (l : List Hd) (a : Nat) (n d : Nat) (w : World) (hs : Hds w v l) (ha : a < 18446744073709551616) (hn : n < M256) (_hd : d < 18446744073709551616) :
    Calls Try.prog 30 #[.agg #[v], .int .u64 (a : Nat), wv n, .int .u64 (d : Nat)] w fun e w' => e = .returned (.bool (stdG l a n d)) ∧ Ext w w' := by
  have HS := Lib.hid hs
  have HA := Lib.hid ha
  have hv1 : v.oneCell' = true := by obtain ⟨A, c, rfl, _⟩ := hs.len; rfl
  have HV := Lib.hid hv1
  have HN := Lib.hid hn
  have HSG : Hid (stdG l a n d = ((fdG l a).lckB && (decide (n ≤ (fdG l a).stk) && decide (d ≤ (fdG l a).dly)))) := Lib.hid rfl
  obtain ⟨w0, hw0⟩ : ∃ w0, (w.alloc (.cells #[v] 59)).alloc (.cells (wc n) 31) = w0 := ⟨_, rfl⟩
  have HW0 := Lib.hid hw0
  have HL : Hid (Cs w0 w.heap.size 59 #[v]) := Lib.hid (by rw [← hw0]; exact Cs.alloc (Cs.new _ _ _ _ rfl) _)
  have HW : Hid (Cs w0 (w.heap.size + 1) 31 (wc n)) := Lib.hid (by rw [← hw0]; exact Cs.new _ _ _ _ (by rw [World.size_alloc]))
  have HE : Hid (Ext w w0) := Lib.hid (by rw [← hw0]; exact (((Ext.refl w).alloc _).alloc _))
  clear hs hw0 hv1 ha
  unfold wv
  go_enter Try.func30, Try.ntmps30
  go_upto_region 1 with fail
  rw [HW0.out]
  clear HW0
  obtain ⟨gL, hgL⟩ : ∃ g, w.heap.size = g := ⟨_, rfl⟩
  obtain ⟨gW, hgW⟩ : ∃ g, w.heap.size + 1 = g := ⟨_, rfl⟩
  have HGL := Lib.hid (show w.heap.size ≤ gL by omega)
  have HGW := Lib.hid (show w.heap.size ≤ gW by omega)
  rw [hgW] at HW ⊢
  rw [hgL] at HL ⊢
  clear hgL hgW
  have q2 := HL.out.cell 0 _ rfl
  go_wp2_with fail
  refine (tellerOf_any v l a _ (HS.out.ext HE.out) HA.out).mono ?_
  rintro e w1 ⟨rfl, he⟩
  have HX := Lib.hid he
  clear he q2
  obtain ⟨v2, htv, hv2⟩ := telV_fd l a v HV.out
  have HV2 := Lib.hid hv2
  have HF := Lib.hid (fdG_ok HS.out.oks HA.out (a := a))
  rw [htv]
  clear htv hv2
  obtain ⟨te, hte⟩ : ∃ te, teE l a = te := ⟨_, rfl⟩
  rw [hte]
  clear hte
  obtain ⟨h, hh⟩ : ∃ h, fdG l a = h := ⟨_, rfl⟩
  have HH := Lib.hid hh
  rw [hh] at HF ⊢
  clear hh
  have HTO := Lib.hid (tlc_one h v2 HV2.out)
  obtain ⟨tv, htv⟩ : ∃ tv, tlc h v2 = tv := ⟨_, rfl⟩
  have HTV := Lib.hid htv
  have HTS := Lib.hid (show tv.size = 12 by rw [← htv]; rfl)
  rw [htv] at HTO ⊢
  clear htv
  go_upto_region 2 with ((with_reducible refine wpList_store_agg ?_ ?_ 107 (.tmp 9) (.tmp 15) ?_ tlinfo w1.heap.size (tlc hz0 (.slice none 0 0)) tv ?_ ?_ ?_ ?_ ?_ ?_ ?_); (exact rfl); (exact rfl); (exact rfl); (exact HTO.out); (exact rfl); (exact rfl); (rw [← lit_tl0]; exact Cs.new _ _ _ _ rfl); (exact rfl); (exact HTS.out); intro w5 k5 g5; have K5 := Lib.hid k5; have G5 := Lib.hid g5; clear k5 g5)
  have HX5 := Lib.hid (HX.out.trans (((Ext.refl w1).alloc _).grown G5.out (Nat.le_refl _)))
  have KT := Lib.hid (show Tl w5 w1.heap.size h v2 by unfold Tl; rw [HTV.out]; exact K5.out)
  obtain ⟨g8, hg8⟩ : ∃ g8, w1.heap.size = g8 := ⟨_, rfl⟩
  rw [hg8] at K5 KT ⊢
  clear hg8 HX G5
  rw [HH.out] at HSG
  have HE5 := Lib.hid (HE.out.trans HX5.out)
  go_wp2_with ((with_reducible refine wpList_load_tl ?_ (.tmp 9) ?_ (g8) (h) (v2) ?_ ?_ ?_); (exact rfl); (exact rfl); (exact rfl); (exact KT.out))
  refine (locked_any h v2 _ HF.out HV2.out).mono ?_
  rintro e w6 ⟨rfl, he⟩
  have HE6 := Lib.hid (HE5.out.trans he)
  have KT6 := Lib.hid (KT.out.ext he)
  have HWR := Lib.hid (Cs.rg (Cs.ext (Cs.ext HW.out HX5.out) he))
  have HSR := Lib.hid (Tl.stk KT6.out)
  have q9 := Tl.dly KT6.out
  have hs1 := HF.out.2.2.1
  have HSL := Lib.hid hs1
  clear he hs1 HE5
  cases hlk : h.lckB with
  | false =>
    have HR := Lib.hid (show stdG l a n d = false by rw [HSG.out, hlk]; rfl)
    clear hlk
    go_wp2_with fail
    go_ret
    exact ⟨by rw [HR.out]; rfl, HE6.out⟩
  | true =>
    replace HSG := Lib.hid (show stdG l a n d = (decide (n ≤ h.stk) && decide (d ≤ h.dly)) by rw [HSG.out, hlk, Bool.true_and])
    clear hlk
    go_wp2_with (first
      | ((with_reducible refine wpList_load_wordIn ?_ (.tmp 21) ?_ g8 5 (h.stk) ?_ ?_ ?_); (exact rfl); (exact rfl); (exact rfl); (exact HSR.out))
      | ((with_reducible refine wpList_load_wordIn ?_ (.tmp 6) ?_ gW 0 (n) ?_ ?_ ?_); (exact rfl); (exact rfl); (exact rfl); (exact HWR.out)))
    refine (cmp_any h.stk n _ HSL.out HN.out).mono ?_
    rintro e w7 ⟨rfl, he⟩
    have HE7 := Lib.hid (HE6.out.trans he)
    have q9 := he.cell q9
    have HC := Lib.hid (cmp_geL h.stk n)
    clear he
    obtain ⟨r, hr⟩ : ∃ r, cmpN h.stk n = r := ⟨_, rfl⟩
    rw [hr] at HC ⊢
    clear hr
    obtain ⟨b1, hb1⟩ : ∃ b, decide (0 ≤ r) = b := ⟨_, rfl⟩
    have HB1 := Lib.hid (show decide (n ≤ h.stk) = b1 by rw [← HC.out, hb1])
    rw [HB1.out] at HSG
    cases b1 with
    | false =>
      have HR := Lib.hid (show stdG l a n d = false by rw [HSG.out]; rfl)
      go_wp2_with fail
      go_ret
      exact ⟨by rw [HR.out]; rfl, HE7.out⟩
    | true =>
      by_cases hdd : d ≤ h.dly
      · have e1 : decide (((d : Nat) : Int) ≤ ((h.dly : Nat) : Int)) = true := decide_eq_true (by omega)
        have e2 : decide (d ≤ h.dly) = true := decide_eq_true hdd
        have HR := Lib.hid (show stdG l a n d = true by rw [HSG.out, e2]; rfl)
        clear hdd
        go_wp2_with fail
        go_ret
        exact ⟨by rw [HR.out]; rfl, HE7.out⟩
      · have e1 : decide (((d : Nat) : Int) ≤ ((h.dly : Nat) : Int)) = false := decide_eq_false (by omega)
        have e2 : decide (d ≤ h.dly) = false := decide_eq_false hdd
        have HR := Lib.hid (show stdG l a n d = false by rw [HSG.out, e2]; rfl)
        clear hdd
        go_wp2_with fail
        go_ret
        exact ⟨by rw [HR.out]; rfl, HE7.out⟩
/-! ### Same -/
def sameG (l m : List Hd) : Bool := l.length == m.length && (List.range l.length).all fun i => (l.getD i hz0).eqB (m.getD i hz0)
set_option maxRecDepth 100000 in
theorem sameG_iff (l m : List Hd) : sameG l m = true ↔ l = m := by
  unfold sameG
  rw [Bool.and_eq_true, beq_iff_eq, List.all_eq_true]
  constructor
  · rintro ⟨h1, h2⟩
    apply List.ext_getElem h1
    intro i hi hj
    have := (Hd.eqB_iff _ _).1 (h2 i (List.mem_range.2 hi))
    rwa [List.getD_eq_getElem?_getD, List.getD_eq_getElem?_getD, List.getElem?_eq_getElem hi, List.getElem?_eq_getElem hj] at this
  · rintro rfl
    exact ⟨rfl, fun i _ => Hd.eqB_self _⟩
set_option maxRecDepth 100000 in
theorem sameG_len {l m : List Hd} (h : l.length ≠ m.length) : sameG l m = false := by unfold sameG; rw [beq_eq_false_iff_ne.2 h]; rfl
set_option maxRecDepth 100000 in
theorem sameG_at {l m : List Hd} (i : Nat) (_hi : i < l.length) (h : (l.getD i hz0).eqB (m.getD i hz0) = false) : sameG l m = false := by
  cases hs : sameG l m with
  | false => rfl
  | true =>
    rw [(sameG_iff l m).1 hs, Hd.eqB_self] at h
    cases h
set_option maxRecDepth 100000 in
theorem sameG_all {l m : List Hd} (h : l.length = m.length) (ha : ∀ i, i < l.length → (l.getD i hz0).eqB (m.getD i hz0) = true) : sameG l m = true := by
  unfold sameG
  rw [Bool.and_eq_true, beq_iff_eq, List.all_eq_true]
  exact ⟨h, fun i hi => ha i (List.mem_range.1 hi)⟩
set_option maxRecDepth 100000 in
set_option maxHeartbeats 1000000 in
theorem same1_any (p q : Hd) (w : World) (hp : p.ok) (hq : q.ok) : Calls Try.prog 76 #[.agg (hdc p), .agg (hdc q)] w fun e w' => e = .returned (.bool (p.eqB q)) ∧ Ext w w' := by
  have HP := Lib.hid hp
  have HQ := Lib.hid hq
  obtain ⟨w0, hw0⟩ : ∃ w0, (w.alloc (.cells (hdc p) 68)).alloc (.cells (hdc q) 68) = w0 := ⟨_, rfl⟩
  have HW0 := Lib.hid hw0
  have H1 : Hid (Cs w0 w.heap.size 68 (hdc p)) := Lib.hid (by rw [← hw0]; exact Cs.alloc (Cs.new _ _ _ _ rfl) _)
  have H2 : Hid (Cs w0 (w.heap.size + 1) 68 (hdc q)) := Lib.hid (by rw [← hw0]; exact Cs.new _ _ _ _ (by rw [World.size_alloc]))
  have HE : Hid (Ext w w0) := Lib.hid (by rw [← hw0]; exact ((Ext.refl w).alloc _).alloc _)
  have R1 := Lib.hid (Cs.rg H1.out)
  have R2 := Lib.hid (Cs.rg H2.out)
  obtain ⟨pc, hpc⟩ : ∃ pc, hdc p = pc := ⟨_, rfl⟩
  obtain ⟨qc, hqc⟩ : ∃ qc, hdc q = qc := ⟨_, rfl⟩
  rw [hpc, hqc] at HW0 ⊢
  clear hw0 hp hq hpc hqc
  go_enter Try.func76, Try.ntmps76
  go_upto_region 1 with fail
  rw [HW0.out]
  go_wp2_with (first
    | ((with_reducible refine wpList_load_hd ?_ (.tmp 2) ?_ (w.heap.size) 0 p ?_ ?_ ?_); (exact rfl); (exact rfl); (exact rfl); (exact R1.out))
    | ((with_reducible refine wpList_load_hd ?_ (.tmp 3) ?_ (w.heap.size + 1) 0 q ?_ ?_ ?_); (exact rfl); (exact rfl); (exact rfl); (exact R2.out))
    | ((with_reducible refine wpList_eql_hd ?_ (.tmp 5) (.tmp 6) ?_ p q HP.out HQ.out ?_ ?_ ?_); (exact rfl); (exact rfl); (exact rfl); (exact rfl)))
  go_ret
  exact ⟨rfl, HE.out⟩
set_option maxRecDepth 100000 in
set_option maxHeartbeats 4000000 in
theorem equalH_any (v u : Value) (l m : List Hd) (w : World) (hs : Hds w v l) (ht : Hds w u m) :
    Calls Try.prog 75 #[v, u, .func (.func 76) #[] #[]] w fun e w' => e = .returned (.bool (sameG l m)) ∧ Ext w w' := by
  have HS := Lib.hid hs
  have HT := Lib.hid ht
  obtain ⟨A1, c1, rfl, h1, h2⟩ := hs.len
  obtain ⟨A2, c2, rfl, h3, h4⟩ := ht.len
  unfold maxLen at h2 h4
  clear hs ht
  go_enter Try.func75, Try.ntmps75
  by_cases hl : l.length = m.length
  · have HLEN := Lib.hid hl
    rw [← hl] at HT h3 ⊢
    have e1 : ((l.length : Int) != (l.length : Int)) = false := by simp
    have e2 : (l.length != l.length) = false := by simp
    clear hl
    go_wp2_with fail
    go_loopw [17] (fun iv wr => ∃ k : Nat, k ≤ l.length ∧ iv = .int .i64 k ∧ Hid ((∀ i, i < k → (l.getD i hz0).eqB (m.getD i hz0) = true) ∧ Ext w wr)) (fun iv _ => l.length - (intOf iv).toNat)
    case atStart => exact ⟨0, by omega, rfl, Lib.hid ⟨fun i hi => absurd hi (by omega), Ext.refl _⟩⟩
    case round =>
      obtain ⟨k, hk, rfl, HJ⟩ := hrel
      by_cases hlt : k < l.length
      · have hd : decide (k < l.length) = true := decide_eq_true hlt
        have hd2 : decide ((k : Int) < (l.length : Int)) = true := decide_eq_true (by omega)
        obtain ⟨b1, o1, rfl, hr1, hp⟩ := (HS.out.ext HJ.out.2).at k hlt
        obtain ⟨b2, o2, rfl, hr2, hq⟩ := (HT.out.ext HJ.out.2).at k (by rw [← HLEN.out]; exact hlt)
        have HR1 := Lib.hid hr1
        have HR2 := Lib.hid hr2
        have HPK := Lib.hid hp
        have HQK := Lib.hid hq
        have HAT := Lib.hid (fun h => sameG_at (l := l) (m := m) k hlt h)
        clear hr1 hr2 hp hq
        generalize hpp : l.getD k hz0 = p at *
        generalize hqq : m.getD k hz0 = q at *
        have HPQ := Lib.hid (And.intro hpp hqq)
        clear hpp hqq
        have HP0 := Lib.hid (hdc_one p)
        have HQ0 := Lib.hid (hdc_one q)
        obtain ⟨pc, hpc⟩ : ∃ pc, hdc p = pc := ⟨_, rfl⟩
        obtain ⟨qc, hqc⟩ : ∃ qc, hdc q = qc := ⟨_, rfl⟩
        have HPC := Lib.hid hpc
        have HQC := Lib.hid hqc
        have HPS := Lib.hid (show pc.size = 11 by rw [← hpc]; rfl)
        have HQS := Lib.hid (show qc.size = 11 by rw [← hqc]; rfl)
        rw [hpc] at HP0
        rw [hqc] at HQ0
        clear hpc hqc
        go_upto_region 6 with (first
          | ((with_reducible refine wpList_load_hd ?_ (.tmp 20) ?_ (b1) (o1 + k * 11) (p) ?_ ?_ ?_); (exact rfl); (exact rfl); (exact rfl); (exact HR1.out); rw [HPC.out])
          | ((with_reducible refine wpList_store_agg ?_ ?_ 68 (.tmp 8) (.tmp 21) ?_ hdinfo wr.heap.size (hdc hz0) pc ?_ ?_ ?_ ?_ ?_ ?_ ?_); (exact rfl); (exact rfl); (exact rfl); (exact HP0.out); (exact rfl); (exact rfl); (exact Cs.new _ _ _ _ rfl); (exact rfl); (exact HPS.out); intro w4 k4 g4; have K4 := Lib.hid k4; have HX4 := Lib.hid (((Ext.refl wr).alloc _).grown g4 (Nat.le_refl _)); clear k4 g4))
        have HR2 := Lib.hid (fun j x hx => HX4.out.cell (HR2.out j x hx))
        go_upto_region 7 with (first
          | ((with_reducible refine wpList_load_hd ?_ (.tmp 24) ?_ (b2) (o2 + k * 11) (q) ?_ ?_ ?_); (exact rfl); (exact rfl); (exact rfl); (exact HR2.out); rw [HQC.out])
          | ((with_reducible refine wpList_store_agg ?_ ?_ 68 (.tmp 9) (.tmp 25) ?_ hdinfo w4.heap.size (hdc hz0) qc ?_ ?_ ?_ ?_ ?_ ?_ ?_); (exact rfl); (exact rfl); (exact rfl); (exact HQ0.out); (exact rfl); (exact rfl); (exact Cs.new _ _ _ _ rfl); (exact rfl); (exact HQS.out); intro w6 k6 g6; have K6 := Lib.hid k6; have HX6 := Lib.hid (((Ext.refl w4).alloc _).grown g6 (Nat.le_refl _)); clear k6 g6))
        have R1 := Lib.hid (show w6.rangeAt wr.heap.size 0 (hdc p).toList by rw [HPC.out]; exact Cs.rg (Cs.ext K4.out HX6.out))
        have R2 := Lib.hid (show w6.rangeAt w4.heap.size 0 (hdc q).toList by rw [HQC.out]; exact Cs.rg K6.out)
        have HE6 := Lib.hid (HJ.out.2.trans (HX4.out.trans HX6.out))
        have HJA := Lib.hid HJ.out.1
        clear HJ K4 K6 HX4 HX6
        go_wp2_with (first
          | ((with_reducible refine wpList_load_hd ?_ (.tmp 8) ?_ (wr.heap.size) (0) (p) ?_ ?_ ?_); (exact rfl); (exact rfl); (exact rfl); (exact R1.out))
          | ((with_reducible refine wpList_load_hd ?_ (.tmp 9) ?_ (w4.heap.size) (0) (q) ?_ ?_ ?_); (exact rfl); (exact rfl); (exact rfl); (exact R2.out)))
        refine (same1_any p q _ HPK.out HQK.out).mono ?_
        rintro e w7 ⟨rfl, he⟩
        have HE7 := Lib.hid (HE6.out.trans he)
        clear he
        cases heq : p.eqB q with
        | false =>
          have HF := Lib.hid (HAT.out heq)
          clear heq
          go_wp2_with fail
          refine bodyPost_ret (results_tmp rfl _ _ _) rfl ?_
          exact ⟨by rw [HF.out]; rfl, HE7.out⟩
        | true =>
          have HEQ := Lib.hid heq
          clear heq
          go_wp2_with fail
          refine ⟨⟨k + 1, by omega, by go_num, Lib.hid ⟨fun i hi => ?_, HE7.out⟩⟩, by simp [intOf]; omega⟩
          by_cases hik : i = k
          · subst hik; rw [HPQ.out.1, HPQ.out.2]; exact HEQ.out
          · exact HJA.out i (by omega)
      · obtain rfl : k = l.length := by omega
        have hd : decide (l.length < l.length) = false := decide_eq_false (by omega)
        have hd2 : decide ((l.length : Int) < (l.length : Int)) = false := decide_eq_false (by omega)
        have HF := Lib.hid (sameG_all HLEN.out HJ.out.1)
        have HJE := Lib.hid HJ.out.2
        clear HJ
        go_wp2_with fail
        go_ret
        exact ⟨by rw [HF.out]; rfl, HJE.out⟩
  · have e1 : ((l.length : Int) != (m.length : Int)) = true := by simp; omega
    have e2 : (l.length != m.length) = true := by simpa using hl
    have HF := Lib.hid (sameG_len hl)
    clear hl
    go_wp2_with fail
    go_ret
    exact ⟨by rw [HF.out]; rfl, Ext.refl _⟩
set_option maxRecDepth 100000 in
set_option maxHeartbeats 1000000 in
theorem sameL_any (v u : Value) (l m : List Hd) (w : World) (hs : Hds w v l) (ht : Hds w u m) : Calls Try.prog 31 #[.agg #[v], .agg #[u]] w fun e w' => e = .returned (.bool (sameG l m)) ∧ Ext w w' := by
  have HS := Lib.hid hs
  have HT := Lib.hid ht
  have HE : Hid (Ext w ((w.alloc (.cells #[v] 59)).alloc (.cells #[u] 59))) := Lib.hid (((Ext.refl w).alloc _).alloc _)
  have q1 := (Cs.alloc (Cs.new w #[v] 59 _ rfl) (.cells #[u] 59)).cell 0 _ rfl
  have q2 := (Cs.new (w.alloc (.cells #[v] 59)) #[u] 59 (w.heap.size + 1) (by rw [World.size_alloc])).cell 0 _ rfl
  clear hs ht
  go_enter Try.func31, Try.ntmps31
  go_wp2_with fail
  refine (equalH_any v u l m _ (HS.out.ext HE.out) (HT.out.ext HE.out)).mono ?_
  rintro e w3 ⟨rfl, he⟩
  have HE3 := Lib.hid (HE.out.trans he)
  obtain ⟨sb, hsb⟩ : ∃ sb, sameG l m = sb := ⟨_, rfl⟩
  have HSB := Lib.hid hsb
  rw [hsb]
  clear he hsb
  go_wp2_with fail
  go_ret
  exact ⟨by rw [HSB.out]; rfl, HE3.out⟩
end Go.Proofs.Yteidmoilldheeaa
