/- Package ledger: what a ledger tells; which are the same. -/
import Derived.Test.YtepggbhibpjkpaaLhj
namespace Go.Proofs.Ytepggbhibpjkpaa
open Go.ChangeShapes Go.WideShapes Go.ChangeAt Go.RowKit Go.Shelf

/-- What Find, Sum, Staked answer. -/
def fdG (l : List Hd) (a : Nat) : Hd := if teE l a = 0 then rowG l a else hz0
def sumG (l : List Hd) : Nat := if rightG l then (sumW (flatH l)).1 else 0
def stdG (l : List Hd) (a least delay : Nat) : Bool := (fdG l a).lckB && (decide (least ≤ (fdG l a).stk) && decide (delay ≤ (fdG l a).dly))
set_option maxRecDepth 100000 in
theorem telV_fd (l : List Hd) (a : Nat) (v : Value) (hv : v.oneCell' = true) : ∃ v2, telV l a v = tlc (fdG l a) v2 ∧ v2.oneCell' = true := by
  unfold fdG
  by_cases h : teE l a = 0
  · rw [if_pos h, telV_zero h]
    exact ⟨v, rfl, hv⟩
  · rw [if_neg h, telV_no h]
    exact ⟨_, rfl, rfl⟩
set_option maxRecDepth 100000 in
theorem fdG_ok {l : List Hd} (h : ∀ p ∈ l, p.ok) {a : Nat} (ha : a < 18446744073709551616) : (fdG l a).ok := by
  unfold fdG
  split
  · exact rowG_ok h ha
  · exact hz0_ok
set_option maxRecDepth 100000 in
theorem cmp_geL (a b : Nat) : decide (0 ≤ cmpN a b) = decide (b ≤ a) := by
  unfold cmpN
  by_cases h : a < b
  · have h2 : ¬ b ≤ a := by omega
    simp [h, h2]
  · have h2 : b ≤ a := by omega
    by_cases h3 : b < a <;> simp [h, h2, h3]
set_option maxRecDepth 100000 in
theorem lit_hz0 : (#[.int .u64 0, .int .u64 0, .int .u64 0, .int .u64 0, .int .u64 0, .int .u64 0, .int .u64 0, .int .u64 0, .int .u64 0, .int .u64 0, .int .u64 0] : Array Value) = hdc hz0 := by simp [hdc, hz0, lv, lb]
set_option maxRecDepth 100000 in
set_option maxHeartbeats 4000000 in
theorem sumL_any (v : Value) (l : List Hd) (w : World) (hs : Hds w v l) (hl : l.length ≤ 1000) : Calls Try.prog 80 #[.agg #[v]] w fun e w' => e = .returned (wv (sumG l)) ∧ Ext w w' := by
  have HS := Lib.hid hs
  obtain ⟨w0, hw0⟩ : ∃ w0, (w.alloc (.cells #[v] 88)).alloc (.cells (wc 0) 29) = w0 := ⟨_, rfl⟩
  have HW0 := Lib.hid hw0
  have HL : Hid (Cs w0 w.heap.size 88 #[v]) := Lib.hid (by rw [← hw0]; exact Cs.alloc (Cs.new _ _ _ _ rfl) _)
  have HR : Hid (Cs w0 (w.heap.size + 1) 29 (wc 0)) := Lib.hid (by rw [← hw0]; exact Cs.new _ _ _ _ (by rw [World.size_alloc]))
  have HE : Hid (Ext w w0) := Lib.hid (by rw [← hw0]; exact ((Ext.refl w).alloc _).alloc _)
  have HSG : Hid (sumG l = if rightG l then (sumW (flatH l)).1 else 0) := Lib.hid rfl
  clear hs hw0
  go_enter Try.func80, Try.ntmps80
  go_upto_region 1 with fail
  rw [← wc_zero, HW0.out]
  clear HW0
  obtain ⟨gL, hgL⟩ : ∃ g, w.heap.size = g := ⟨_, rfl⟩
  obtain ⟨gR, hgR⟩ : ∃ g, w.heap.size + 1 = g := ⟨_, rfl⟩
  have HGR := Lib.hid (show w.heap.size ≤ gR by omega)
  rw [hgR] at HR ⊢
  rw [hgL] at HL ⊢
  clear hgL hgR
  have q2 := HL.out.cell 0 _ rfl
  go_wp2_with fail
  refine (ledCheck_any v l _ (HS.out.ext HE.out)).mono ?_
  rintro e w1 ⟨rfl, he⟩
  have HX := Lib.hid he
  have HRX := Lib.hid (Cs.ext HR.out he)
  have q2 := (Cs.ext HL.out he).cell 0 _ rfl
  clear he
  rw [show chkG l = if rightG l then 0 else 170 from rfl]
  cases hr : rightG l with
  | false =>
    rw [hr] at HSG
    clear hr
    go_wp2_with ((with_reducible refine wpList_store_word rfl rfl 29 (.tmp 2) (.tmp 8) rfl winfo gR (wc 0) 0 ?_ ?_ ?_ ?_ ?_); (exact rfl); (exact rfl); (exact HRX.out); (exact rfl); intro w6 k6 g6; have K6 := Lib.hid k6; have G6 := Lib.hid g6; clear k6 g6)
    refine bodyPost_ret (results_word Try.results80 _ _ gR 0 rfl K6.out Try.underlying29 winfo) rfl ?_
    exact ⟨by rw [HSG.out]; rfl, (HE.out.trans HX.out).grown G6.out HGR.out⟩
  | true =>
    rw [hr] at HSG
    clear hr
    go_wp2_with fail
    refine (ledSum_any v (.slice none 0 0) l [] _ (HS.out.ext (HE.out.trans HX.out)) ⟨none, 0, rfl, Nat.le_refl _, Nat.zero_le _, fun h => absurd h (by simp), fun x hx => nomatch hx⟩ (by omega) (by simp)).mono ?_
    rintro e w5 ⟨rfl, he⟩
    rw [List.nil_append]
    have HX5 := Lib.hid (HX.out.trans he)
    clear he HX q2 HRX
    obtain ⟨s, hs⟩ : ∃ s, (sumW (flatH l)).1 = s := ⟨_, rfl⟩
    rw [hs] at HSG ⊢
    obtain ⟨sb, hsb⟩ : ∃ sb, (sumW (flatH l)).2 = sb := ⟨_, rfl⟩
    rw [hsb]
    clear hs hsb
    go_upto_region 4 with ((with_reducible refine wpList_store_word rfl rfl 29 (.tmp 3) (.tmp 13) rfl winfo w5.heap.size (wc 0) s ?_ ?_ ?_ ?_ ?_); (exact rfl); (exact rfl); (exact Cs.new _ _ _ _ rfl); (exact rfl); intro w6 k6 g6; have K6 := Lib.hid k6; have HX6 := Lib.hid (HX5.out.trans (((Ext.refl w5).alloc _).grown g6 (Nat.le_refl _))); clear k6 g6)
    have HRX := Lib.hid (Cs.ext HR.out HX6.out)
    have HW := Lib.hid (Cs.rg K6.out)
    go_wp2_with (first
      | ((with_reducible refine wpList_load_wordIn ?_ (.tmp 3) ?_ w5.heap.size 0 s ?_ ?_ ?_); (exact rfl); (exact rfl); (exact rfl); (exact HW.out))
      | ((with_reducible refine wpList_store_word rfl rfl 29 (.tmp 2) (.tmp 15) rfl winfo gR (wc 0) s ?_ ?_ ?_ ?_ ?_); (exact rfl); (exact rfl); (exact HRX.out); (exact rfl); intro w7 k7 g7; have K7 := Lib.hid k7; have G7 := Lib.hid g7; clear k7 g7))
    refine bodyPost_ret (results_word Try.results80 _ _ gR s rfl K7.out Try.underlying29 winfo) rfl ?_
    exact ⟨by rw [HSG.out]; rfl, (HE.out.trans HX6.out).grown G7.out HGR.out⟩
set_option maxRecDepth 100000 in
set_option maxHeartbeats 4000000 in
theorem stakedL_any (v : Value) (l : List Hd) (a : Nat) (n d : Nat) (w : World) (hs : Hds w v l) (ha : a < 18446744073709551616) (hn : n < M256) (_hd : d < 18446744073709551616) :
    Calls Try.prog 81 #[.agg #[v], .int .u64 (a : Nat), wv n, .int .u64 (d : Nat)] w fun e w' => e = .returned (.bool (stdG l a n d)) ∧ Ext w w' := by
  have HS := Lib.hid hs
  have HA := Lib.hid ha
  have hv1 : v.oneCell' = true := by obtain ⟨A, c, rfl, _⟩ := hs.len; rfl
  have HV := Lib.hid hv1
  have HN := Lib.hid hn
  have HSG : Hid (stdG l a n d = ((fdG l a).lckB && (decide (n ≤ (fdG l a).stk) && decide (d ≤ (fdG l a).dly)))) := Lib.hid rfl
  obtain ⟨w0, hw0⟩ : ∃ w0, (w.alloc (.cells #[v] 88)).alloc (.cells (wc n) 29) = w0 := ⟨_, rfl⟩
  have HW0 := Lib.hid hw0
  have HL : Hid (Cs w0 w.heap.size 88 #[v]) := Lib.hid (by rw [← hw0]; exact Cs.alloc (Cs.new _ _ _ _ rfl) _)
  have HW : Hid (Cs w0 (w.heap.size + 1) 29 (wc n)) := Lib.hid (by rw [← hw0]; exact Cs.new _ _ _ _ (by rw [World.size_alloc]))
  have HE : Hid (Ext w w0) := Lib.hid (by rw [← hw0]; exact (((Ext.refl w).alloc _).alloc _))
  clear hs hw0 hv1 ha
  unfold wv
  go_enter Try.func81, Try.ntmps81
  go_upto_region 1 with fail
  rw [HW0.out]
  clear HW0
  obtain ⟨gL, hgL⟩ : ∃ g, w.heap.size = g := ⟨_, rfl⟩
  obtain ⟨gW, hgW⟩ : ∃ g, w.heap.size + 1 = g := ⟨_, rfl⟩
  have HGL := Lib.hid (show w.heap.size ≤ gL by omega)
  have HGW := Lib.hid (show w.heap.size ≤ gW by omega)
  rw [hgW] at HW ⊢
  rw [hgL] at HL ⊢
  clear hgL hgW
  have q2 := HL.out.cell 0 _ rfl
  go_wp2_with fail
  refine (tellerOf_any v l a _ (HS.out.ext HE.out) HA.out).mono ?_
  rintro e w1 ⟨rfl, he⟩
  have HX := Lib.hid he
  clear he q2
  obtain ⟨v2, htv, hv2⟩ := telV_fd l a v HV.out
  have HV2 := Lib.hid hv2
  have HF := Lib.hid (fdG_ok HS.out.oks HA.out (a := a))
  rw [htv]
  clear htv hv2
  obtain ⟨te, hte⟩ : ∃ te, teE l a = te := ⟨_, rfl⟩
  rw [hte]
  clear hte
  obtain ⟨h, hh⟩ : ∃ h, fdG l a = h := ⟨_, rfl⟩
  have HH := Lib.hid hh
  rw [hh] at HF ⊢
  clear hh
  have HTO := Lib.hid (tlc_one h v2 HV2.out)
  obtain ⟨tv, htv⟩ : ∃ tv, tlc h v2 = tv := ⟨_, rfl⟩
  have HTV := Lib.hid htv
  have HTS := Lib.hid (show tv.size = 12 by rw [← htv]; rfl)
  rw [htv] at HTO ⊢
  clear htv
  go_upto_region 2 with ((with_reducible refine wpList_store_agg ?_ ?_ 165 (.tmp 9) (.tmp 15) ?_ tlinfo w1.heap.size (tlc hz0 (.slice none 0 0)) tv ?_ ?_ ?_ ?_ ?_ ?_ ?_); (exact rfl); (exact rfl); (exact rfl); (exact HTO.out); (exact rfl); (exact rfl); (rw [← lit_tl0]; exact Cs.new _ _ _ _ rfl); (exact rfl); (exact HTS.out); intro w5 k5 g5; have K5 := Lib.hid k5; have G5 := Lib.hid g5; clear k5 g5)
  have HX5 := Lib.hid (HX.out.trans (((Ext.refl w1).alloc _).grown G5.out (Nat.le_refl _)))
  have KT := Lib.hid (show Tl w5 w1.heap.size h v2 by unfold Tl; rw [HTV.out]; exact K5.out)
  obtain ⟨g8, hg8⟩ : ∃ g8, w1.heap.size = g8 := ⟨_, rfl⟩
  rw [hg8] at K5 KT ⊢
  clear hg8 HX G5
  rw [HH.out] at HSG
  have HE5 := Lib.hid (HE.out.trans HX5.out)
  go_wp2_with ((with_reducible refine wpList_load_tl ?_ (.tmp 9) ?_ (g8) (h) (v2) ?_ ?_ ?_); (exact rfl); (exact rfl); (exact rfl); (exact KT.out))
  refine (locked_any h v2 _ HF.out HV2.out).mono ?_
  rintro e w6 ⟨rfl, he⟩
  have HE6 := Lib.hid (HE5.out.trans he)
  have KT6 := Lib.hid (KT.out.ext he)
  have HWR := Lib.hid (Cs.rg (Cs.ext (Cs.ext HW.out HX5.out) he))
  have HSR := Lib.hid (Tl.stk KT6.out)
  have q9 := Tl.dly KT6.out
  have hs1 := HF.out.2.2.1
  have HSL := Lib.hid hs1
  clear he hs1 HE5
  cases hlk : h.lckB with
  | false =>
    have HR := Lib.hid (show stdG l a n d = false by rw [HSG.out, hlk]; rfl)
    clear hlk
    go_wp2_with fail
    go_ret
    exact ⟨by rw [HR.out]; rfl, HE6.out⟩
  | true =>
    replace HSG := Lib.hid (show stdG l a n d = (decide (n ≤ h.stk) && decide (d ≤ h.dly)) by rw [HSG.out, hlk, Bool.true_and])
    clear hlk
    go_wp2_with (first
      | ((with_reducible refine wpList_load_wordIn ?_ (.tmp 21) ?_ g8 5 (h.stk) ?_ ?_ ?_); (exact rfl); (exact rfl); (exact rfl); (exact HSR.out))
      | ((with_reducible refine wpList_load_wordIn ?_ (.tmp 6) ?_ gW 0 (n) ?_ ?_ ?_); (exact rfl); (exact rfl); (exact rfl); (exact HWR.out)))
    refine (cmp_any h.stk n _ HSL.out HN.out).mono ?_
    rintro e w7 ⟨rfl, he⟩
    have HE7 := Lib.hid (HE6.out.trans he)
    have q9 := he.cell q9
    have HC := Lib.hid (cmp_geL h.stk n)
    clear he
    obtain ⟨r, hr⟩ : ∃ r, cmpN h.stk n = r := ⟨_, rfl⟩
    rw [hr] at HC ⊢
    clear hr
    obtain ⟨b1, hb1⟩ : ∃ b, decide (0 ≤ r) = b := ⟨_, rfl⟩
    have HB1 := Lib.hid (show decide (n ≤ h.stk) = b1 by rw [← HC.out, hb1])
    rw [HB1.out] at HSG
    cases b1 with
    | false =>
      have HR := Lib.hid (show stdG l a n d = false by rw [HSG.out]; rfl)
      go_wp2_with fail
      go_ret
      exact ⟨by rw [HR.out]; rfl, HE7.out⟩
    | true =>
      by_cases hdd : d ≤ h.dly
      · have e1 : decide (((d : Nat) : Int) ≤ ((h.dly : Nat) : Int)) = true := decide_eq_true (by omega)
        have e2 : decide (d ≤ h.dly) = true := decide_eq_true hdd
        have HR := Lib.hid (show stdG l a n d = true by rw [HSG.out, e2]; rfl)
        clear hdd
        go_wp2_with fail
        go_ret
        exact ⟨by rw [HR.out]; rfl, HE7.out⟩
      · have e1 : decide (((d : Nat) : Int) ≤ ((h.dly : Nat) : Int)) = false := decide_eq_false (by omega)
        have e2 : decide (d ≤ h.dly) = false := decide_eq_false hdd
        have HR := Lib.hid (show stdG l a n d = false by rw [HSG.out, e2]; rfl)
        clear hdd
        go_wp2_with fail
        go_ret
        exact ⟨by rw [HR.out]; rfl, HE7.out⟩
/-! ### Same -/
def sameG (l m : List Hd) : Bool := l.length == m.length && (List.range l.length).all fun i => (l.getD i hz0).eqB (m.getD i hz0)
set_option maxRecDepth 100000 in
theorem sameG_iff (l m : List Hd) : sameG l m = true ↔ l = m := by
  unfold sameG
  rw [Bool.and_eq_true, beq_iff_eq, List.all_eq_true]
  constructor
  · rintro ⟨h1, h2⟩
    apply List.ext_getElem h1
    intro i hi hj
    have := (Hd.eqB_iff _ _).1 (h2 i (List.mem_range.2 hi))
    rwa [List.getD_eq_getElem?_getD, List.getD_eq_getElem?_getD, List.getElem?_eq_getElem hi, List.getElem?_eq_getElem hj] at this
  · rintro rfl
    exact ⟨rfl, fun i _ => Hd.eqB_self _⟩
set_option maxRecDepth 100000 in
theorem sameG_len {l m : List Hd} (h : l.length ≠ m.length) : sameG l m = false := by unfold sameG; rw [beq_eq_false_iff_ne.2 h]; rfl
set_option maxRecDepth 100000 in
theorem sameG_at {l m : List Hd} (i : Nat) (_hi : i < l.length) (h : (l.getD i hz0).eqB (m.getD i hz0) = false) : sameG l m = false := by
  cases hs : sameG l m with
  | false => rfl
  | true =>
    rw [(sameG_iff l m).1 hs, Hd.eqB_self] at h
    cases h
set_option maxRecDepth 100000 in
theorem sameG_all {l m : List Hd} (h : l.length = m.length) (ha : ∀ i, i < l.length → (l.getD i hz0).eqB (m.getD i hz0) = true) : sameG l m = true := by
  unfold sameG
  rw [Bool.and_eq_true, beq_iff_eq, List.all_eq_true]
  exact ⟨h, fun i hi => ha i (List.mem_range.1 hi)⟩
end Go.Proofs.Ytepggbhibpjkpaa
