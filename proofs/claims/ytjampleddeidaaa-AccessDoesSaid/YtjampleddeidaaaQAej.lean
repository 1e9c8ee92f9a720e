/- AccessDoes: what comes of whatever access by whatever deeds is as the document says, or it is refused; what was handed in stays. -/
import Derived.Test.YtjampleddeidaaaQAef
namespace Go.Proofs.Ytjampleddeidaaa
open Go.ChangeShapes Go.WideShapes Go.ChangeAt Go.RowKit Go.Shelf

def DoJ (w : World) (g2 : Nat) (a s p : Value) (x : Ax) (W : World) : Prop := Ext w W ∧ Cs W g2 26 #[a, s, p] ∧ XvJ w W a s p x
set_option maxRecDepth 100000 in
theorem DoJ.ext {w : World} {g2 : Nat} {a s p : Value} {x : Ax} {W W' : World} (h : DoJ w g2 a s p x W) (he : Ext W W') : DoJ w g2 a s p x W' := ⟨h.1.trans he, Cs.ext h.2.1 he, h.2.2.elim .inl (fun h => .inr (h.ext he))⟩
def XL5 (x : Ax) : Prop := x.a.length ≤ 500 ∧ x.s.length ≤ 500 ∧ x.p.length ≤ 500
set_option maxRecDepth 100000 in
theorem XL5.of {x : Ax} (h : overX x = false) : XL5 x := by
  unfold overX at h
  rw [Bool.or_eq_false_iff, Bool.or_eq_false_iff, decide_eq_false_iff_not, decide_eq_false_iff_not, decide_eq_false_iff_not] at h
  exact ⟨by omega, by omega, by omega⟩
set_option maxRecDepth 100000 in
theorem XL5.right {x : Ax} (h : rightX x = true) : XL5 x := by
  obtain ⟨h1, h2, h3, _⟩ := rightX_facts h
  have := rsB_len h1
  have := rsB_len h2
  have := rsB_len h3
  exact ⟨by omega, by omega, by omega⟩
set_option maxRecDepth 100000 in
theorem RtX.of {lo : Nat} {W : World} {v : Value} {x : Ax} (h : RetX lo W v x) : RtX lo W v x := by
  obtain ⟨a, s, p, rfl, h1, h2, h3⟩ := h
  obtain ⟨A1, c1, rfl, k1⟩ := h1.shp
  obtain ⟨A2, c2, rfl, k2⟩ := h2.shp
  obtain ⟨A3, c3, rfl, k3⟩ := h3.shp
  exact ⟨_, _, _, _, _, _, rfl, k1, k2, k3⟩
set_option maxRecDepth 100000 in
theorem kp_ret {lo lo' : Nat} {W : World} {va vs vp ua us up : Value} {x y : Ax} (h : KpX lo' W va vs vp x ua us up y) (h1 : OwnA W lo va x.a) (h2 : OwnS W lo vs x.s) (h3 : OwnP W lo vp x.p) (hl : lo ≤ lo') : RetX lo W (.agg #[ua, us, up]) y := by
  refine ⟨_, _, _, rfl, ?_, ?_, ?_⟩
  · rcases h.1 with h | ⟨rfl, e⟩
    · exact h.mono hl
    · rw [e]; exact h1
  · rcases h.2.1 with h | ⟨rfl, e⟩
    · exact h.mono hl
    · rw [e]; exact h2
  · rcases h.2.2 with h | ⟨rfl, e⟩
    · exact h.mono hl
    · rw [e]; exact h3
def WtX (lo : Nat) (y : Ax) (b : Bool) (er : Int) (W : World) (v : Value) : Prop := ∃ ua us up, v = .tuple #[.agg #[ua, us, up], .bool b, .int .i64 er] ∧ RetX lo W (.agg #[ua, us, up]) y
set_option maxRecDepth 100000 in
theorem WtX.ext {lo : Nat} {y : Ax} {b : Bool} {er : Int} {W W' : World} {v : Value} (h : WtX lo y b er W v) (he : Ext W W') : WtX lo y b er W' v := by
  obtain ⟨a, s, p, e, h⟩ := h
  exact ⟨a, s, p, e, h.ext he⟩
def TpX (b : Bool) (er : Int) (v : Value) : Prop := ∃ ua us up, v = .tuple #[.agg #[ua, us, up], .bool b, .int .i64 er]
def RaX (lo : Nat) (y : Ax) (W : World) (v : Value) : Prop := ∃ ua us up, v = .agg #[ua, us, up] ∧ RetX lo W (.agg #[ua, us, up]) y
set_option maxRecDepth 100000 in
theorem RaX.ext {lo : Nat} {y : Ax} {W W' : World} {v : Value} (h : RaX lo y W v) (he : Ext W W') : RaX lo y W' v := by
  obtain ⟨a, s, p, e, h⟩ := h
  exact ⟨a, s, p, e, h.ext he⟩
set_option maxRecDepth 100000 in
theorem wt_ra {lo : Nat} {y : Ax} {b : Bool} {er : Int} {W : World} {v ua us up : Value} (h : WtX lo y b er W v) (e : v = .tuple #[.agg #[ua, us, up], .bool b, .int .i64 er]) : RaX lo y W (.agg #[ua, us, up]) := by
  obtain ⟨a, s, p, e2, hr⟩ := h
  rw [e] at e2
  injection e2 with e2
  have e2 := congrArg Array.toList e2
  simp only at e2
  injection e2 with e2 _
  exact ⟨ua, us, up, rfl, by rw [e2]; exact hr⟩
def ZvX (lo : Nat) (W : World) (v : Value) : Prop := ∃ g, v = .pointer (some ⟨g, 0, none⟩) ∧ Cs W g 26 #[.slice none 0 0, .slice none 0 0, .slice none 0 0] ∧ lo ≤ g
set_option maxRecDepth 100000 in
theorem ZvX.ext {lo : Nat} {W W' : World} {v : Value} (h : ZvX lo W v) (he : Ext W W') : ZvX lo W' v := by
  obtain ⟨g, e, h1, h2⟩ := h
  exact ⟨g, e, Cs.ext h1 he, h2⟩
def DnX (wz : World) (lo : Nat) (y : Ax) (W : World) (v : Value) : Prop := ∃ g ua us up, v = .pointer (some ⟨g, 0, none⟩) ∧ Cs W g 26 #[ua, us, up] ∧ RetX lo W (.agg #[ua, us, up]) y ∧ Ext wz W
set_option maxRecDepth 100000 in
theorem DnX.ext {wz : World} {lo : Nat} {y : Ax} {W W' : World} {v : Value} (h : DnX wz lo y W v) (he : Ext W W') : DnX wz lo y W' v := by
  obtain ⟨g, ua, us, up, e, h1, h2, h3⟩ := h
  exact ⟨g, ua, us, up, e, Cs.ext h1 he, h2.ext he, h3.trans he⟩
set_option maxRecDepth 100000 in
set_option maxHeartbeats 8000000 in
theorem accessDoes_any (va vs vp dv : Value) (x0 : Ax) (l : List De) (w : World) (hx : AxR w va vs vp x0) (hd : Des w dv l) : Calls Try.prog 5 #[.agg #[va, vs, vp], dv] w (RetT w) := by
  have HX := Lib.hid hx
  have HDS := Lib.hid hd
  obtain ⟨A1, c1, rfl, _, _⟩ := hx.1.len
  obtain ⟨A2, c2, rfl, _, _⟩ := hx.2.1.len
  obtain ⟨A3, c3, rfl, _, _⟩ := hx.2.2.len
  obtain ⟨A4, c4, rfl, hl1, hl2⟩ := hd.len
  unfold maxLen at hl2
  obtain ⟨w0, hw0⟩ : ∃ w0, w.alloc (.cells #[.slice A1 x0.a.length c1, .slice A2 x0.s.length c2, .slice A3 x0.p.length c3] 26) = w0 := ⟨_, rfl⟩
  have HW0 := Lib.hid hw0
  have HJ : Hid (DoJ w w.heap.size (.slice A1 x0.a.length c1) (.slice A2 x0.s.length c2) (.slice A3 x0.p.length c3) x0 w0) := Lib.hid ⟨by rw [← hw0]; exact (Ext.refl w).alloc _, by rw [← hw0]; exact Cs.new _ _ _ _ rfl, .inl hx⟩
  clear hx hd hw0
  go_enter Try.func5, Try.ntmps5
  go_upto_region 1 with fail
  rw [HW0.out]
  clear HW0
  obtain ⟨lo, hlo⟩ : ∃ lo, lo = w.heap.size := ⟨_, rfl⟩
  have HLO := Lib.hid hlo
  obtain ⟨g2, hg2⟩ : ∃ g, w.heap.size = g := ⟨_, rfl⟩
  have HG2 : Hid (lo ≤ g2) := Lib.hid (by omega)
  rw [hg2] at HJ ⊢
  clear hg2 hlo
  go_wp2_with fail
  refine (wakesX_any _).mono ?_
  rintro e w1 ⟨rfl, he⟩
  have HJ := Lib.hid (HJ.out.ext he)
  have G2 : Hid (Cs w1 g2 26 #[.slice A1 x0.a.length c1, .slice A2 x0.s.length c2, .slice A3 x0.p.length c3]) := Lib.hid HJ.out.2.1
  clear he
  go_wp2_with ((with_reducible refine wpList_loadX ?_ (.tmp 2) ?_ g2 (.slice A1 x0.a.length c1) (.slice A2 x0.s.length c2) (.slice A3 x0.p.length c3) ?_ G2.out ?_); (exact rfl); (exact rfl); (exact rfl))
  refine (overX_any _ _ _ x0 _ (HX.out.ext HJ.out.1)).mono ?_
  rintro e w2 ⟨rfl, he⟩
  have HJ := Lib.hid (HJ.out.ext he)
  have HE := Lib.hid HJ.out.1
  clear he G2
  cases hov : overX x0 with
  | true =>
    go_wp2_with fail
    refine bodyPost_ret (results_tmp rfl _ _ _) rfl ?_
    exact ⟨rfl, HE.out⟩
  | false =>
    have HL0 := Lib.hid (XL5.of hov)
    clear hov
    by_cases hl : 60 < l.length
    · have d1 : decide ((60 : Int) < (l.length : Int)) = true := decide_eq_true (by omega)
      clear hl
      go_wp2_with fail
      refine bodyPost_ret (results_tmp rfl _ _ _) rfl ?_
      exact ⟨rfl, HE.out⟩
    have d1 : decide ((60 : Int) < (l.length : Int)) = false := decide_eq_false (by omega)
    clear hl
    go_wp2_with fail
    clear d1 HE
    have HJ0 := Lib.hid HJ.out
    go_loopw [25] (fun iv wr => ∃ (i : Nat) (xa xs xp : Value) (x : Ax), i ≤ l.length ∧ iv = .int .i64 (i : Nat) ∧ Hid (XL5 x) ∧ Hid (DoJ w g2 xa xs xp x wr)) (fun iv _ => l.length - (intOf iv).toNat)
    case atStart => exact ⟨0, _, _, _, x0, by omega, rfl, HL0, HJ0⟩
    case round =>
      obtain ⟨i, xa, xs, xp, x, hi, rfl, HL5, HJ⟩ := hrel
      clear HJ0 HL0
      have G2 : Hid (Cs wr g2 26 #[xa, xs, xp]) := Lib.hid HJ.out.2.1
      by_cases hlt : i < l.length
      case neg =>
        obtain rfl : i = l.length := by omega
        have hd : decide (l.length < l.length) = false := decide_eq_false (by omega)
        have hd2 : decide ((l.length : Int) < (l.length : Int)) = false := decide_eq_false (by omega)
        have HE := Lib.hid HJ.out.1
        go_wp2_with fail
        refine bodyPost_ret (results_tmp rfl _ _ _) rfl ?_
        exact ⟨rfl, HE.out⟩
      have hd : decide (i < l.length) = true := decide_eq_true hlt
      have hd2 : decide ((i : Int) < (l.length : Int)) = true := decide_eq_true (by omega)
      obtain ⟨bb, oo, rfl, hrg, hok⟩ := (HDS.out.ext HJ.out.1).at i hlt
      have HR := Lib.hid hrg
      have HD := Lib.hid hok
      clear hrg hok
      generalize l.getD i de0 = d at *
      obtain ⟨X1, X2, X3⟩ := (HJ.out.2.2.rows HJ.out.1).one
      have X1 := Lib.hid X1
      have X2 := Lib.hid X2
      have X3 := Lib.hid X3
      go_wp2_with (first
        | ((with_reducible refine wpList_loadDm ?_ (.tmp 27) ?_ bb (oo + i * 10) d ?_ ?_ ?_); (exact rfl); (exact rfl); (exact rfl); (exact HR.out))
        | ((with_reducible refine wpList_storeDm ?_ ?_ (.tmp 6) (.tmp 28) ?_ wr.heap.size de0 d ?_ ?_ ?_ ?_); (exact rfl); (exact rfl); (exact rfl); (exact rfl); (exact rfl); (exact Cs.new _ _ _ _ rfl); intro w2 k2 g2'; have G6 := Lib.hid k2; have E2 := Lib.hid (((Ext.refl wr).alloc (.cells (dec de0) 52)).grown g2' (Nat.le_refl _)); have HJ2 := Lib.hid (HJ.out.ext E2.out); have G22 := Lib.hid (Cs.ext G2.out E2.out); clear k2 g2')
        | ((with_reducible refine wpList_loadX ?_ (.tmp 2) ?_ g2 xa xs xp ?_ G22.out ?_); (exact rfl); (exact rfl); (exact rfl)))
      refine (copiedX_any _ _ _ x _ (HJ2.out.2.2.rows HJ2.out.1) HL5.out.1 HL5.out.2.1 HL5.out.2.2).mono ?_
      rintro e w3 ⟨v3, rfl, hr3, he⟩
      have HLW := Lib.hid (show lo ≤ w2.heap.size by rw [HLO.out]; exact HJ2.out.1.size)
      obtain ⟨ca, cs, cp, rfl, hc3, y1, y2, y3⟩ := hr3.ax
      have HC3 := Lib.hid (hr3.low HLW.out)
      have C1 := Lib.hid y1
      have C2 := Lib.hid y2
      have C3 := Lib.hid y3
      have HJ3 := Lib.hid (HJ2.out.ext he)
      have G23 := Lib.hid (Cs.ext G22.out he)
      have G63 := Lib.hid (Cs.ext G6.out he)
      clear hr3 hc3 y1 y2 y3 he HJ2 G22 G6 HJ G2 E2 hd hd2 HR
      obtain ⟨g6, hg6⟩ : ∃ g, wr.heap.size = g := ⟨_, rfl⟩
      rw [hg6] at G63 ⊢
      clear hg6
      have R63 := Lib.hid (Cs.rg G63.out)
      go_wp2_with (first
        | ((with_reducible refine wpList_storeX ?_ ?_ (.tmp 7) (.tmp 30) ?_ w3.heap.size (.slice none 0 0) (.slice none 0 0) (.slice none 0 0) ca cs cp ?_ ?_ C1.out C2.out C3.out (Cs.new _ _ _ _ rfl) ?_); (exact rfl); (exact rfl); (exact rfl); (exact rfl); (exact rfl); intro w4 k4 g4; have E4 := Lib.hid (((Ext.refl w3).alloc (.cells #[.slice none 0 0, .slice none 0 0, .slice none 0 0] 26)).grown g4 (Nat.le_refl _)); have G7 := Lib.hid k4; have HJ4 := Lib.hid (HJ3.out.ext E4.out); have G24 := Lib.hid (Cs.ext G23.out E4.out); have G64 := Lib.hid (Cs.ext G63.out E4.out); have R64 := Lib.hid (Cs.rg G64.out); have HC4 := Lib.hid (HC3.out.ext E4.out); clear k4 g4)
        | ((with_reducible refine wpList_loadDm ?_ (.tmp 6) ?_ g6 0 d ?_ ?_ ?_); (exact rfl); (exact rfl); (exact rfl); (exact R64.out))
        | ((with_reducible refine wpList_loadX ?_ (.tmp 2) ?_ g2 xa xs xp ?_ G24.out ?_); (exact rfl); (exact rfl); (exact rfl)))
      refine (does_any d _ _ _ x _ HD.out (HJ4.out.2.2.rows HJ4.out.1)).mono ?_
      rintro e w5 ⟨v5, rfl, hr, he⟩
      have HJ5 := Lib.hid (HJ4.out.ext he)
      have G25 := Lib.hid (Cs.ext G24.out he)
      have G65 := Lib.hid (Cs.ext G64.out he)
      have G75 := Lib.hid (Cs.ext G7.out he)
      have HC5 := Lib.hid (HC4.out.ext he)
      have HW4 := Lib.hid (show lo ≤ w4.heap.size by rw [HLO.out]; exact HJ4.out.1.size)
      obtain ⟨na, ns, np, rfl, hnr, y1, y2, y3⟩ := hr.ax
      have HN5 := Lib.hid (hr.low HW4.out)
      have Z1 := Lib.hid y1
      have Z2 := Lib.hid y2
      have Z3 := Lib.hid y3
      clear hr he hnr y1 y2 y3 HJ3 HJ4 G23 G24 G63 G64 R63 R64 G7 HC3 HC4 E4 C1 C2 C3 HLW HW4
      obtain ⟨g7, hg7⟩ : ∃ g, w3.heap.size = g := ⟨_, rfl⟩
      rw [hg7] at G75 ⊢
      clear hg7
      have HDR := Lib.hid (fun (h : (doX x d).2.2 = 0) => do_right h)
      have HWT0 := Lib.hid (fun (ua us up : Value) (W : World) (h : AxR W ua us up x) => wantsX_any d ua us up x W HD.out h)
      obtain ⟨ry, hry⟩ : ∃ y, (doX x d).1 = y := ⟨_, rfl⟩
      obtain ⟨rb, hrb⟩ : ∃ b, (doX x d).2.1 = b := ⟨_, rfl⟩
      obtain ⟨rc, hrc⟩ : ∃ c, (doX x d).2.2 = c := ⟨_, rfl⟩
      have HWT := Lib.hid (fun (ua us up : Value) (W : World) (h : AxR W ua us up x) => show Calls Try.prog 25 #[.agg (dec d), .agg #[ua, us, up]] W (fun e w' => ∃ a s p, e = .returned (.tuple #[.agg #[a, s, p], .bool rb, .int .i64 rc]) ∧ KpX W.heap.size w' ua us up x a s p ry ∧ Ext W w') from by rw [← hry, ← hrb, ← hrc]; exact HWT0.out ua us up W h)
      rw [hrb, hrc]
      rw [hry] at HN5 HDR
      rw [hrc] at HDR
      clear hry hrb hrc HWT0
      go_upto_region 10 with ((with_reducible refine wpList_storeX ?_ ?_ (.tmp 8) (.tmp 35) ?_ w5.heap.size (.slice none 0 0) (.slice none 0 0) (.slice none 0 0) na ns np ?_ ?_ Z1.out Z2.out Z3.out (Cs.new _ _ _ _ rfl) ?_); (exact rfl); (exact rfl); (exact rfl); (exact rfl); (exact rfl); intro wz k6 g6'; have E6 := Lib.hid (((Ext.refl w5).alloc (.cells #[.slice none 0 0, .slice none 0 0, .slice none 0 0] 26)).grown g6' (Nat.le_refl _)); have G8 := Lib.hid k6; clear k6 g6')
      have HJ6 := Lib.hid (HJ5.out.ext E6.out)
      have G2 := Lib.hid (Cs.ext G25.out E6.out)
      have G6 := Lib.hid (Cs.ext G65.out E6.out)
      have G7 := Lib.hid (Cs.ext G75.out E6.out)
      have HC6 := Lib.hid (HC5.out.ext E6.out)
      have HN6 := Lib.hid (HN5.out.ext E6.out)
      have HLZ0 := Lib.hid (show lo ≤ wz.heap.size by rw [HLO.out]; exact HJ6.out.1.size)
      clear HJ5 G25 G65 G75 HC5 HN5 E6
      obtain ⟨g8, hg8⟩ : ∃ g, w5.heap.size = g := ⟨_, rfl⟩
      rw [hg8] at G8 ⊢
      clear hg8
      have HXR := Lib.hid (fun W (h : Ext wz W) => AxR.ext (HJ6.out.2.2.rows HJ6.out.1) h)
      have HLZ := HLZ0
      have HGW := Lib.hid (Nat.le_refl lo)
      refine wp_named fun a0 ha0 => ?_
      obtain ⟨fr, hfr⟩ : ∃ fr : (Nat → Value) → Act, ∀ V, fr V = (((((((((((a0.put (some 39) (V 0)).put (some 40) (V 1)).put (some 41) (V 2)).put (some 42) (V 3)).put (some 38) (V 4)).put (some 43) (V 5)).put (some 44) (V 6)).put (some 45) (V 7)).put (some 11) (V 8)).put (some 12) (V 10)).put (some 13) (V 11)) := ⟨fun V => (((((((((((a0.put (some 39) (V 0)).put (some 40) (V 1)).put (some 41) (V 2)).put (some 42) (V 3)).put (some 38) (V 4)).put (some 43) (V 5)).put (some 44) (V 6)).put (some 45) (V 7)).put (some 11) (V 8)).put (some 12) (V 10)).put (some 13) (V 11)), fun _ => rfl⟩
      rw [ha0] at hfr
      simp only [Act.put, List.setIfInBounds_toArray, List.set_cons_zero, List.set_cons_succ] at hfr
      have HFR := Lib.hid hfr
      clear hfr
      refine wp_region_inv (by kernel_rfl) (by kernel_rfl) (fun L A W => ∃ V : Nat → Value, A = fr V ∧ Vals (fun j => ([some (.agg (dec d)), some (.agg #[xa, xs, xp]), none, none, none, none, some (.bool rb), some (.int .i64 rc), none, none, some (.bool rb), some (.int .i64 rc)] : List (Option Value)).getD j none) L V ∧ (L 9 = false → Ext wz W) ∧ (L 9 = true → DnX wz lo ry W (V 8)) ∧ (L 9 = false → L 2 = true → RtX lo W (V 2) x) ∧ (L 9 = false → L 3 = true → WtX lo ry rb rc W (V 3)) ∧ (L 4 = true → ((V 4) = V 3 ∧ TpX rb rc (V 4))) ∧ (L 9 = false → L 5 = true → RaX lo ry W (V 5)) ∧ (L 9 = false → L 8 = true → ZvX wz.heap.size W (V 8))) ?_ ⟨?_, ?_, ?_, ?_, ?_, ?_, ?_, ?_, ?_, ?_, ?_, ?_, trivial⟩ ?_
      · refine ⟨fun j => a0.tmps.getD (([39, 40, 41, 42, 38, 43, 44, 45, 11, 0, 12, 13] : List Nat).getD j 0) undef, ?_, Vals.no _ _ _ (far_none _ _ rfl), fun _ => (Ext.refl _).drew, fun h0 => absurd h0 (by decide), fun h0 h1 => absurd h1 (by decide), fun h0 h1 => absurd h1 (by decide), fun h0 => absurd h0 (by decide), fun h0 h1 => absurd h1 (by decide), fun h0 h1 => absurd h1 (by decide)⟩
        rw [HFR.out, ha0]
        rfl
      all_goals clear ha0
      · rintro L A W K hL hC hW ⟨V, rfl, HV, s0, s1, f2, f3, f4, f5, f8⟩ hK
        have hB := s0 (hC.no (hC.no (hC.no (hC.no hL 3 _ rfl rfl) 4 _ rfl rfl) 5 _ rfl rfl) 9 _ rfl rfl)
        have H := Lib.hid (show ∀ W', Ext W W' → K (fr (upd V 0 (.agg (dec d)))) W' from fun W' he => hK _ _ ⟨upd V 0 (.agg (dec d)), rfl, HV.up 0 _ (fun x hx => Option.some.inj hx), fun h0 => Ext.trans (s0 (by unfold More at h0; rwa [if_neg (by decide)] at h0)) he, fun h0 => DnX.ext (s1 (more_ne h0 rfl)) he, fun h0 h1 => RtX.ext (f2 (by unfold More at h0; rwa [if_neg (by decide)] at h0) (more_ne h1 rfl)) he, fun h0 h1 => WtX.ext (f3 (by unfold More at h0; rwa [if_neg (by decide)] at h0) (more_ne h1 rfl)) he, fun h0 => keepQ (f4 (more_ne h0 rfl)) he, fun h0 h1 => RaX.ext (f5 (by unfold More at h0; rwa [if_neg (by decide)] at h0) (more_ne h1 rfl)) he, fun h0 h1 => ZvX.ext (f8 (by unfold More at h0; rwa [if_neg (by decide)] at h0) (more_ne h1 rfl)) he⟩)
        clear hK hC hW hL HV s0 s1 f2 f3 f4 f5 f8
        rw [HFR.out]
        have HWD := Lib.hid (Cs.rg (Cs.ext G6.out hB))
        clear hB
        refine wpList_loadDm rfl (.tmp 6) rfl g6 0 d rfl HWD.out ?_
        show K _ _
        have := H.out _ (Ext.refl _)
        rw [HFR.out] at this
        exact this
      · rintro L A W K hL hC hW ⟨V, rfl, HV, s0, s1, f2, f3, f4, f5, f8⟩ hK
        have hB := s0 (hC.no (hC.no (hC.no (hC.no (hC.no hL 2 _ rfl rfl) 3 _ rfl rfl) 4 _ rfl rfl) 5 _ rfl rfl) 9 _ rfl rfl)
        have H := Lib.hid (show ∀ W', Ext W W' → K (fr (upd V 1 (.agg #[xa, xs, xp]))) W' from fun W' he => hK _ _ ⟨upd V 1 (.agg #[xa, xs, xp]), rfl, HV.up 1 _ (fun x hx => Option.some.inj hx), fun h0 => Ext.trans (s0 (by unfold More at h0; rwa [if_neg (by decide)] at h0)) he, fun h0 => DnX.ext (s1 (more_ne h0 rfl)) he, fun h0 h1 => RtX.ext (f2 (by unfold More at h0; rwa [if_neg (by decide)] at h0) (more_ne h1 rfl)) he, fun h0 h1 => WtX.ext (f3 (by unfold More at h0; rwa [if_neg (by decide)] at h0) (more_ne h1 rfl)) he, fun h0 => keepQ (f4 (more_ne h0 rfl)) he, fun h0 h1 => RaX.ext (f5 (by unfold More at h0; rwa [if_neg (by decide)] at h0) (more_ne h1 rfl)) he, fun h0 h1 => ZvX.ext (f8 (by unfold More at h0; rwa [if_neg (by decide)] at h0) (more_ne h1 rfl)) he⟩)
        clear hK hC hW hL HV s0 s1 f2 f3 f4 f5 f8
        rw [HFR.out]
        have HWD := Lib.hid (Cs.ext G2.out hB)
        clear hB
        refine wpList_loadX rfl (.tmp 2) rfl g2 xa xs xp rfl HWD.out ?_
        show K _ _
        have := H.out _ (Ext.refl _)
        rw [HFR.out] at this
        exact this
      · rintro L A W K hL hC hW ⟨V, rfl, HV, s0, s1, f2, f3, f4, f5, f8⟩ hK
        have e1 : V 1 = .agg #[xa, xs, xp] := HV 1 _ rfl (hW 1 rfl)
        have hB := s0 (hC.no (hC.no (hC.no (hC.no hL 3 _ rfl rfl) 4 _ rfl rfl) 5 _ rfl rfl) 9 _ rfl rfl)
        have H := Lib.hid (show ∀ v W', Ext W W' → (RtX lo W' v x) → K (fr (upd V 2 v)) W' from fun v W' he hp => hK _ _ ⟨upd V 2 v, rfl, HV.up 2 _ (fun x hx => absurd hx (by intro h; cases h)), fun h0 => Ext.trans (s0 (by unfold More at h0; rwa [if_neg (by decide)] at h0)) he, fun h0 => DnX.ext (s1 (more_ne h0 rfl)) he, fun h0 h1 => hp, fun h0 h1 => WtX.ext (f3 (by unfold More at h0; rwa [if_neg (by decide)] at h0) (more_ne h1 rfl)) he, fun h0 => keepQ (f4 (more_ne h0 rfl)) he, fun h0 h1 => RaX.ext (f5 (by unfold More at h0; rwa [if_neg (by decide)] at h0) (more_ne h1 rfl)) he, fun h0 h1 => ZvX.ext (f8 (by unfold More at h0; rwa [if_neg (by decide)] at h0) (more_ne h1 rfl)) he⟩)
        have HU := Lib.hid (show ∀ v, (upd V 2 v) 1 = .agg #[xa, xs, xp] from fun v => e1)
        clear hK hC hW hL HV s0 s1 f2 f3 f4 f5 f8
        rw [HFR.out]
        rw [e1]
        clear e1
        have HBE := Lib.hid hB
        clear hB
        go_wp2_with fail
        refine (copiedX_any _ _ _ x _ (HXR.out _ HBE.out) HL5.out.1 HL5.out.2.1 HL5.out.2.2).mono ?_
        rintro e wx ⟨vx, rfl, hrx, he⟩
        have := H.out _ _ he (RtX.of (hrx.low (Nat.le_trans HLZ.out HBE.out.size)))
        clear H
        go_wp2_with fail
        show K _ _
        rw [HFR.out] at this
        obtain u1 := HU.out _
        rw [u1] at this
        exact this
      · rintro L A W K hL hC hW ⟨V, rfl, HV, s0, s1, f2, f3, f4, f5, f8⟩ hK
        have e0 : V 0 = .agg (dec d) := HV 0 _ rfl (hW 0 rfl)
        have hB := s0 (hC.no (hC.no (hC.no hL 4 _ rfl rfl) 5 _ rfl rfl) 9 _ rfl rfl)
        have q2 := f2 (hC.no (hC.no (hC.no hL 4 _ rfl rfl) 5 _ rfl rfl) 9 _ rfl rfl) (hW 2 rfl)
        obtain ⟨a1, a2, a3, m1, m2, m3, e2, z2⟩ := q2
        have H := Lib.hid (show ∀ v W', Ext W W' → (WtX lo ry rb rc W' v) → K (fr (upd V 3 v)) W' from fun v W' he hp => hK _ _ ⟨upd V 3 v, rfl, HV.up 3 _ (fun x hx => absurd hx (by intro h; cases h)), fun h0 => Ext.trans (s0 (by unfold More at h0; rwa [if_neg (by decide)] at h0)) he, fun h0 => DnX.ext (s1 (more_ne h0 rfl)) he, fun h0 h1 => RtX.ext (f2 (by unfold More at h0; rwa [if_neg (by decide)] at h0) (more_ne h1 rfl)) he, fun h0 h1 => hp, fun h0 => absurd (more_ne h0 rfl) (by rw [(hC.no hL 4 _ rfl rfl)]; simp), fun h0 h1 => RaX.ext (f5 (by unfold More at h0; rwa [if_neg (by decide)] at h0) (more_ne h1 rfl)) he, fun h0 h1 => ZvX.ext (f8 (by unfold More at h0; rwa [if_neg (by decide)] at h0) (more_ne h1 rfl)) he⟩)
        have HU := Lib.hid (show ∀ v, (upd V 3 v) 0 = .agg (dec d) ∧ (upd V 3 v) 2 = .agg #[.slice a1 x.a.length m1, .slice a2 x.s.length m2, .slice a3 x.p.length m3] from fun v => ⟨e0, e2⟩)
        clear hK hC hW hL HV s0 s1 f2 f3 f4 f5 f8
        rw [HFR.out]
        rw [e0, e2]
        clear e0 e2
        have HBE := Lib.hid hB
        clear hB
        go_wp2_with fail
        refine (HWT.out _ _ _ _ ⟨z2.1.xs, z2.2.1.xs, z2.2.2.xs⟩).mono ?_
        rintro e wx ⟨ua, us, up, rfl, hkp, he⟩
        have := H.out _ _ he (⟨ua, us, up, rfl, kp_ret hkp (z2.1.ext he) (z2.2.1.ext he) (z2.2.2.ext he) (Nat.le_trans HLZ.out HBE.out.size)⟩)
        clear H
        go_wp2_with fail
        show K _ _
        rw [HFR.out] at this
        obtain ⟨u0, u2⟩ := HU.out _
        rw [u0, u2] at this
        exact this
      · rintro L A W K hL hC hW ⟨V, rfl, HV, s0, s1, f2, f3, f4, f5, f8⟩ hK
        have q3 := f3 (hC.no (hC.no hL 5 _ rfl rfl) 9 _ rfl rfl) (hW 3 rfl)
        obtain ⟨ua, us, up, e3, z3⟩ := q3
        have H := Lib.hid (show ∀ v W', Ext W W' → ((v = V 3 ∧ TpX rb rc v)) → K (fr (upd V 4 v)) W' from fun v W' he hp => hK _ _ ⟨upd V 4 v, rfl, HV.up 4 _ (fun x hx => absurd hx (by intro h; cases h)), fun h0 => Ext.trans (s0 (by unfold More at h0; rwa [if_neg (by decide)] at h0)) he, fun h0 => DnX.ext (s1 (more_ne h0 rfl)) he, fun h0 h1 => RtX.ext (f2 (by unfold More at h0; rwa [if_neg (by decide)] at h0) (more_ne h1 rfl)) he, fun h0 h1 => WtX.ext (f3 (by unfold More at h0; rwa [if_neg (by decide)] at h0) (more_ne h1 rfl)) he, fun h0 => hp, fun h0 h1 => RaX.ext (f5 (by unfold More at h0; rwa [if_neg (by decide)] at h0) (more_ne h1 rfl)) he, fun h0 h1 => ZvX.ext (f8 (by unfold More at h0; rwa [if_neg (by decide)] at h0) (more_ne h1 rfl)) he⟩)
        have HU := Lib.hid (show ∀ v, (upd V 4 v) 3 = .tuple #[.agg #[ua, us, up], .bool rb, .int .i64 rc] from fun v => e3)
        clear hK hC hW hL HV s0 s1 f2 f3 f4 f5 f8
        rw [HFR.out]
        rw [e3]
        clear e3
        go_wp2_with fail
        show K _ _
        have := H.out (.tuple #[.agg #[ua, us, up], .bool rb, .int .i64 rc]) _ (Ext.refl _) (⟨(HU.out undef).symm, _, _, _, rfl⟩)
        rw [HFR.out] at this
        obtain u3 := HU.out _
        rw [u3] at this
        exact this
      · rintro L A W K hL hC hW ⟨V, rfl, HV, s0, s1, f2, f3, f4, f5, f8⟩ hK
        have q3 := f3 (hC.no hL 9 _ rfl rfl) (hC 4 _ rfl (hW 4 rfl) 3 rfl)
        have q4 := f4 (hW 4 rfl)
        obtain ⟨ua, us, up, e4⟩ := q4.2
        have H := Lib.hid (show ∀ v W', Ext W W' → (RaX lo ry W' v) → K (fr (upd V 5 v)) W' from fun v W' he hp => hK _ _ ⟨upd V 5 v, rfl, HV.up 5 _ (fun x hx => absurd hx (by intro h; cases h)), fun h0 => Ext.trans (s0 (by unfold More at h0; rwa [if_neg (by decide)] at h0)) he, fun h0 => DnX.ext (s1 (more_ne h0 rfl)) he, fun h0 h1 => RtX.ext (f2 (by unfold More at h0; rwa [if_neg (by decide)] at h0) (more_ne h1 rfl)) he, fun h0 h1 => WtX.ext (f3 (by unfold More at h0; rwa [if_neg (by decide)] at h0) (more_ne h1 rfl)) he, fun h0 => keepQ (f4 (more_ne h0 rfl)) he, fun h0 h1 => hp, fun h0 h1 => ZvX.ext (f8 (by unfold More at h0; rwa [if_neg (by decide)] at h0) (more_ne h1 rfl)) he⟩)
        have HU := Lib.hid (show ∀ v, (upd V 5 v) 4 = .tuple #[.agg #[ua, us, up], .bool rb, .int .i64 rc] from fun v => e4)
        clear hK hC hW hL HV s0 s1 f2 f3 f4 f5 f8
        rw [HFR.out]
        rw [e4]
        clear e4
        go_wp2_with fail
        show K _ _
        have := H.out (.agg #[ua, us, up]) _ (Ext.refl _) (wt_ra q3 (q4.1.symm.trans (HU.out undef)))
        rw [HFR.out] at this
        obtain u4 := HU.out _
        rw [u4] at this
        exact this
      · rintro L A W K hL hC hW ⟨V, rfl, HV, s0, s1, f2, f3, f4, f5, f8⟩ hK
        have q4 := f4 (hW 4 rfl)
        obtain ⟨ua, us, up, e4⟩ := q4.2
        have H := Lib.hid (show ∀ W', Ext W W' → K (fr (upd V 6 (.bool rb))) W' from fun W' he => hK _ _ ⟨upd V 6 (.bool rb), rfl, HV.up 6 _ (fun x hx => Option.some.inj hx), fun h0 => Ext.trans (s0 (by unfold More at h0; rwa [if_neg (by decide)] at h0)) he, fun h0 => DnX.ext (s1 (more_ne h0 rfl)) he, fun h0 h1 => RtX.ext (f2 (by unfold More at h0; rwa [if_neg (by decide)] at h0) (more_ne h1 rfl)) he, fun h0 h1 => WtX.ext (f3 (by unfold More at h0; rwa [if_neg (by decide)] at h0) (more_ne h1 rfl)) he, fun h0 => keepQ (f4 (more_ne h0 rfl)) he, fun h0 h1 => RaX.ext (f5 (by unfold More at h0; rwa [if_neg (by decide)] at h0) (more_ne h1 rfl)) he, fun h0 h1 => ZvX.ext (f8 (by unfold More at h0; rwa [if_neg (by decide)] at h0) (more_ne h1 rfl)) he⟩)
        have HU := Lib.hid (show (upd V 6 (.bool rb)) 4 = .tuple #[.agg #[ua, us, up], .bool rb, .int .i64 rc] from e4)
        clear hK hC hW hL HV s0 s1 f2 f3 f4 f5 f8
        rw [HFR.out]
        rw [e4]
        clear e4
        go_wp2_with fail
        show K _ _
        have := H.out _ (Ext.refl _)
        rw [HFR.out] at this
        obtain u4 := HU.out
        rw [u4] at this
        exact this
      · rintro L A W K hL hC hW ⟨V, rfl, HV, s0, s1, f2, f3, f4, f5, f8⟩ hK
        have q4 := f4 (hW 4 rfl)
        obtain ⟨ua, us, up, e4⟩ := q4.2
        have H := Lib.hid (show ∀ W', Ext W W' → K (fr (upd V 7 (.int .i64 rc))) W' from fun W' he => hK _ _ ⟨upd V 7 (.int .i64 rc), rfl, HV.up 7 _ (fun x hx => Option.some.inj hx), fun h0 => Ext.trans (s0 (by unfold More at h0; rwa [if_neg (by decide)] at h0)) he, fun h0 => DnX.ext (s1 (more_ne h0 rfl)) he, fun h0 h1 => RtX.ext (f2 (by unfold More at h0; rwa [if_neg (by decide)] at h0) (more_ne h1 rfl)) he, fun h0 h1 => WtX.ext (f3 (by unfold More at h0; rwa [if_neg (by decide)] at h0) (more_ne h1 rfl)) he, fun h0 => keepQ (f4 (more_ne h0 rfl)) he, fun h0 h1 => RaX.ext (f5 (by unfold More at h0; rwa [if_neg (by decide)] at h0) (more_ne h1 rfl)) he, fun h0 h1 => ZvX.ext (f8 (by unfold More at h0; rwa [if_neg (by decide)] at h0) (more_ne h1 rfl)) he⟩)
        have HU := Lib.hid (show (upd V 7 (.int .i64 rc)) 4 = .tuple #[.agg #[ua, us, up], .bool rb, .int .i64 rc] from e4)
        clear hK hC hW hL HV s0 s1 f2 f3 f4 f5 f8
        rw [HFR.out]
        rw [e4]
        clear e4
        go_wp2_with fail
        show K _ _
        have := H.out _ (Ext.refl _)
        rw [HFR.out] at this
        obtain u4 := HU.out
        rw [u4] at this
        exact this
      · rintro L A W K hL hC hW ⟨V, rfl, HV, s0, s1, f2, f3, f4, f5, f8⟩ hK
        have hB := s0 (hC.no hL 9 _ rfl rfl)
        have H := Lib.hid (show ∀ v W', Ext W W' → (ZvX wz.heap.size W' v) → K (fr (upd V 8 v)) W' from fun v W' he hp => hK _ _ ⟨upd V 8 v, rfl, HV.up 8 _ (fun x hx => absurd hx (by intro h; cases h)), fun h0 => Ext.trans (s0 (by unfold More at h0; rwa [if_neg (by decide)] at h0)) he, fun h0 => absurd (more_ne h0 rfl) (by rw [(hC.no hL 9 _ rfl rfl)]; simp), fun h0 h1 => RtX.ext (f2 (by unfold More at h0; rwa [if_neg (by decide)] at h0) (more_ne h1 rfl)) he, fun h0 h1 => WtX.ext (f3 (by unfold More at h0; rwa [if_neg (by decide)] at h0) (more_ne h1 rfl)) he, fun h0 => keepQ (f4 (more_ne h0 rfl)) he, fun h0 h1 => RaX.ext (f5 (by unfold More at h0; rwa [if_neg (by decide)] at h0) (more_ne h1 rfl)) he, fun h0 h1 => hp⟩)
        clear hK hC hW hL HV s0 s1 f2 f3 f4 f5 f8
        rw [HFR.out]
        have HSZ := Lib.hid hB.size
        clear hB
        go_wp2_with fail
        show K _ _
        have := H.out (.pointer (some ⟨W.heap.size, 0, none⟩)) _ ((Ext.refl W).alloc (.cells #[.slice none 0 0, .slice none 0 0, .slice none 0 0] 26)) (⟨_, rfl, Cs.new _ _ _ _ rfl, HSZ.out⟩)
        rw [HFR.out] at this
        exact this
      · rintro L A W K hL hC hW ⟨V, rfl, HV, s0, s1, f2, f3, f4, f5, f8⟩ hK
        have hB := s0 hL
        have q8 := f8 hL (hW 8 rfl)
        obtain ⟨g8, e8, z8, y8⟩ := q8
        have q5 := f5 hL (hW 5 rfl)
        obtain ⟨ua, us, up, e5, z5⟩ := q5
        have H := Lib.hid (show ∀ W', (DnX wz lo ry W' (V 8)) → K (fr (V)) W' from fun W' hA => hK _ _ ⟨V, rfl, HV.st 9 rfl, fun h0 => absurd h0 (by unfold More; rw [if_pos rfl]; simp), fun h0 => hA, fun h0 h1 => absurd h0 (by unfold More; rw [if_pos rfl]; simp), fun h0 h1 => absurd h0 (by unfold More; rw [if_pos rfl]; simp), fun h0 => (f4 (more_ne h0 rfl)), fun h0 h1 => absurd h0 (by unfold More; rw [if_pos rfl]; simp), fun h0 h1 => absurd h0 (by unfold More; rw [if_pos rfl]; simp)⟩)
        have HU := Lib.hid (show (V) 8 = .pointer (some ⟨g8, 0, none⟩) ∧ (V) 5 = .agg #[ua, us, up] from ⟨e8, e5⟩)
        clear hK hC hW hL HV s0 s1 f2 f3 f4 f5 f8
        rw [HFR.out]
        rw [e8, e5]
        clear e8 e5
        have HBE := Lib.hid hB
        have HZ := Lib.hid z5
        have HY := Lib.hid z8
        have HGE := Lib.hid y8
        obtain ⟨q1, q2, q3, q4, _, y1, y2, y3⟩ := HZ.out.ax
        injection q4 with q4
        have q4 := congrArg Array.toList q4
        simp only at q4
        injection q4 with q5 q4
        injection q4 with q6 q4
        injection q4 with q7 _
        subst q5 q6 q7
        clear hB z5 z8 y8
        refine wpList_storeX rfl rfl (.tmp 11) (.tmp 43) rfl g8 (.slice none 0 0) (.slice none 0 0) (.slice none 0 0) ua us up rfl rfl y1 y2 y3 HY.out ?_
        intro w' kk gg
        have HA := Lib.hid (show DnX wz lo ry w' (V 8) from ⟨g8, ua, us, up, HU.out.1, kk, HZ.out.kept gg HY.out, HBE.out.grown gg HGE.out⟩)
        clear kk gg
        show K _ _
        have := H.out _ HA.out
        rw [HFR.out] at this
        obtain ⟨u8, u5⟩ := HU.out
        rw [u8, u5] at this
        exact this
      · rintro L A W K hL hC hW ⟨V, rfl, HV, s0, s1, f2, f3, f4, f5, f8⟩ hK
        have e6 : V 6 = .bool rb := HV 6 _ rfl (hW 6 rfl)
        have H := Lib.hid (show ∀ W', Ext W W' → K (fr (upd V 10 (.bool rb))) W' from fun W' he => hK _ _ ⟨upd V 10 (.bool rb), rfl, HV.up 10 _ (fun x hx => Option.some.inj hx), fun h0 => Ext.trans (s0 (by unfold More at h0; rwa [if_neg (by decide)] at h0)) he, fun h0 => DnX.ext (s1 (more_ne h0 rfl)) he, fun h0 h1 => RtX.ext (f2 (by unfold More at h0; rwa [if_neg (by decide)] at h0) (more_ne h1 rfl)) he, fun h0 h1 => WtX.ext (f3 (by unfold More at h0; rwa [if_neg (by decide)] at h0) (more_ne h1 rfl)) he, fun h0 => keepQ (f4 (more_ne h0 rfl)) he, fun h0 h1 => RaX.ext (f5 (by unfold More at h0; rwa [if_neg (by decide)] at h0) (more_ne h1 rfl)) he, fun h0 h1 => ZvX.ext (f8 (by unfold More at h0; rwa [if_neg (by decide)] at h0) (more_ne h1 rfl)) he⟩)
        have HU := Lib.hid (show (upd V 10 (.bool rb)) 6 = .bool rb from e6)
        clear hK hC hW hL HV s0 s1 f2 f3 f4 f5 f8
        rw [HFR.out]
        rw [e6]
        clear e6
        go_wp2_with fail
        show K _ _
        have := H.out _ (Ext.refl _)
        rw [HFR.out] at this
        obtain u6 := HU.out
        rw [u6] at this
        exact this
      · rintro L A W K hL hC hW ⟨V, rfl, HV, s0, s1, f2, f3, f4, f5, f8⟩ hK
        have e7 : V 7 = .int .i64 rc := HV 7 _ rfl (hW 7 rfl)
        have H := Lib.hid (show ∀ W', Ext W W' → K (fr (upd V 11 (.int .i64 rc))) W' from fun W' he => hK _ _ ⟨upd V 11 (.int .i64 rc), rfl, HV.up 11 _ (fun x hx => Option.some.inj hx), fun h0 => Ext.trans (s0 (by unfold More at h0; rwa [if_neg (by decide)] at h0)) he, fun h0 => DnX.ext (s1 (more_ne h0 rfl)) he, fun h0 h1 => RtX.ext (f2 (by unfold More at h0; rwa [if_neg (by decide)] at h0) (more_ne h1 rfl)) he, fun h0 h1 => WtX.ext (f3 (by unfold More at h0; rwa [if_neg (by decide)] at h0) (more_ne h1 rfl)) he, fun h0 => keepQ (f4 (more_ne h0 rfl)) he, fun h0 h1 => RaX.ext (f5 (by unfold More at h0; rwa [if_neg (by decide)] at h0) (more_ne h1 rfl)) he, fun h0 h1 => ZvX.ext (f8 (by unfold More at h0; rwa [if_neg (by decide)] at h0) (more_ne h1 rfl)) he⟩)
        have HU := Lib.hid (show (upd V 11 (.int .i64 rc)) 7 = .int .i64 rc from e7)
        clear hK hC hW hL HV s0 s1 f2 f3 f4 f5 f8
        rw [HFR.out]
        rw [e7]
        clear e7
        go_wp2_with fail
        show K _ _
        have := H.out _ (Ext.refl _)
        rw [HFR.out] at this
        obtain u7 := HU.out
        rw [u7] at this
        exact this
      · rintro L A W hL ⟨V, rfl, HV, s0, s1, f2, f3, f4, f5, f8⟩
        have e0 : V 0 = .agg (dec d) := HV 0 _ rfl (hL 0 (by simp))
        have e1 : V 1 = .agg #[xa, xs, xp] := HV 1 _ rfl (hL 1 (by simp))
        have e6 : V 6 = .bool rb := HV 6 _ rfl (hL 6 (by simp))
        have e7 : V 7 = .int .i64 rc := HV 7 _ rfl (hL 7 (by simp))
        have e10 : V 10 = .bool rb := HV 10 _ rfl (hL 10 (by simp))
        have e11 : V 11 = .int .i64 rc := HV 11 _ rfl (hL 11 (by simp))
        have hA := s1 (hL 9 (by simp))
        have p38 := f4 (hL 4 (by simp))
        rw [HFR.out]
        rw [e0, e1, e6, e7, e10, e11]
        clear hL HV HFR e0 e1 e6 e7 e10 e11 s0 s1 f2 f3 f4 f5 f8
        obtain ⟨g11, ta, ts, tp, e11, k11, hr11, hez⟩ := hA
        rw [e11]
        have HT := Lib.hid hr11
        have G11 := Lib.hid k11
        have HJ7 := Lib.hid (HJ6.out.ext hez)
        have G2 := Lib.hid (Cs.ext G2.out hez)
        have G7 := Lib.hid (Cs.ext G7.out hez)
        have G8 := Lib.hid (Cs.ext G8.out hez)
        have HC7 := Lib.hid (HC6.out.ext hez)
        have HN7 := Lib.hid (HN6.out.ext hez)
        have HS1 := Lib.hid (show sameX ry ry = true from sameX_iff.2 rfl)
        have HS2 := Lib.hid (show sameX x x = true from sameX_iff.2 rfl)
        have f1 : (rc != rc) = false := bne_self_eq_false rc
        have f2 : (rb != rb) = false := bne_self_eq_false rb
        clear e11 k11 hr11 hez HJ6 HC6 HN6
        go_wp2_with (first
          | ((with_reducible refine wpList_loadX ?_ (.tmp 8) ?_ g8 na ns np ?_ G8.out ?_); (exact rfl); (exact rfl); (exact rfl))
          | ((with_reducible refine wpList_loadX ?_ (.tmp 11) ?_ g11 ta ts tp ?_ G11.out ?_); (exact rfl); (exact rfl); (exact rfl)))
        refine (refSameX_any _ _ _ _ _ _ ry ry _ HN7.out.rowsS HT.out.rowsS).mono ?_
        rintro e w8 ⟨rfl, he⟩
        rw [HS1.out]
        have HJ8 := Lib.hid (HJ7.out.ext he)
        have G28 := Lib.hid (Cs.ext G2.out he)
        have G78 := Lib.hid (Cs.ext G7.out he)
        have G118 := Lib.hid (Cs.ext G11.out he)
        have HC8 := Lib.hid (HC7.out.ext he)
        have HT8 := Lib.hid (HT.out.ext he)
        clear he HJ7 G2 G7 G8 G11 HC7 HN7 HT
        go_wp2_with (first
          | ((with_reducible refine wpList_loadX ?_ (.tmp 2) ?_ g2 xa xs xp ?_ G28.out ?_); (exact rfl); (exact rfl); (exact rfl))
          | ((with_reducible refine wpList_loadX ?_ (.tmp 7) ?_ g7 ca cs cp ?_ G78.out ?_); (exact rfl); (exact rfl); (exact rfl)))
        refine (refSameX_any _ _ _ _ _ _ x x _ (HJ8.out.2.2.rows HJ8.out.1) HC8.out.rowsS).mono ?_
        rintro e w9 ⟨rfl, he⟩
        rw [HS2.out]
        have HJ9 := Lib.hid (HJ8.out.ext he)
        have G2 := Lib.hid (Cs.ext G28.out he)
        have G11 := Lib.hid (Cs.ext G118.out he)
        have HT := Lib.hid (HT8.out.ext he)
        clear he HJ8 G28 G78 G118 HC8 HT8
        by_cases h0 : rc = 0
        · have f3 : (rc == 0) = true := by rw [beq_iff_eq]; exact h0
          have HLN := Lib.hid (XL5.right (HDR.out h0))
          obtain ⟨_, _, _, e5, _, y1, y2, y3⟩ := HT.out.ax
          injection e5 with e5
          have e5 := congrArg Array.toList e5
          simp only at e5
          injection e5 with q5 e5
          injection e5 with q6 e5
          injection e5 with q7 _
          subst q5 q6 q7
          have Y1 := Lib.hid y1
          have Y2 := Lib.hid y2
          have Y3 := Lib.hid y3
          clear h0 e5 y1 y2 y3
          go_wp2_with (first
            | ((with_reducible refine wpList_loadX ?_ (.tmp 11) ?_ g11 ta ts tp ?_ G11.out ?_); (exact rfl); (exact rfl); (exact rfl))
            | ((with_reducible refine wpList_storeX ?_ ?_ (.tmp 2) (.tmp 68) ?_ g2 xa xs xp ta ts tp ?_ ?_ Y1.out Y2.out Y3.out G2.out ?_); (exact rfl); (exact rfl); (exact rfl); (exact rfl); (exact rfl); intro wf kf gf; have KF := Lib.hid kf; have GF := Lib.hid gf; clear kf gf))
          exact ⟨⟨i + 1, ta, ts, tp, ry, by omega, by go_num, HLN, Lib.hid ⟨HJ9.out.1.grown GF.out (by rw [← HLO.out]; exact HG2.out), KF.out, .inr (by rw [← HLO.out]; exact HT.out.kept GF.out G2.out)⟩⟩, by simp [intOf]; omega⟩
        · have f3 : (rc == 0) = false := by rw [beq_eq_false_iff_ne]; exact h0
          clear h0
          go_wp2_with fail
          exact ⟨⟨i + 1, xa, xs, xp, x, by omega, by go_num, HL5, HJ9⟩, by simp [intOf]; omega⟩
set_option maxRecDepth 100000 in
theorem accessDoes_told (W : World) (args : Array Value) (h : Told Try.f5 W args) : Calls Try.prog 5 args W (RetT W) := by
  obtain ⟨H, enc, base, ds, p, hval, hA⟩ := h
  rw [Try.params5] at hA hval
  obtain ⟨v0, v1, d0, d1, p0, p1, rfl, rfl, rfl, h0, h1⟩ := trodAll_two hA
  obtain ⟨va, vs, vp, x, rfl, hx⟩ := access_came (hval 0 _ v0 rfl rfl) h0
  obtain ⟨a0, len0, cap0, rfl⟩ := okWide_slice Try.underlying50 (hval 1 _ v1 rfl rfl)
  obtain ⟨l, hl⟩ := des_came h1 (by simp [Value.cells])
  exact accessDoes_any va vs vp _ x l W hx hl

set_option maxRecDepth 100000 in
theorem accessDoes_spec (H : Type) : ∀ ds : List (DataW H), ds.length = Try.f5.params.toList.length → Rows.accessDoesSpec.fn H ds = { results := [.lit (.bool true)], args := ds }
  | [_, _], _ => rfl
  | [], h | [_], h | _ :: _ :: _ :: _, h => by rw [Try.params5] at h; simp at h

set_option maxRecDepth 100000 in
theorem accessDoes_holds : Rows.AccessDoesSaid :=
  OpenClaim.holds_of_wide 5 Try.f5 rfl rfl rfl rfl rfl rfl rfl ⟨rfl, rfl, rfl, rfl, rfl⟩ rfl rfl rfl rfl rfl (by kernel_rfl) Try.func5 (by kernel_rfl)
    (of_decide_eq_true (by kernel_rfl)) (by unfold Func.isWrapper; first | (rw [if_pos (by decide +kernel)]; kernel_rfl) | (rw [if_neg (by decide +kernel)]; exact ⟨rfl, rfl⟩))
    (fun os started H enc _ => law_lifted started (by kernel_rfl) Try.func5 rfl rfl (accessDoes_spec H) (of_decide_eq_true (by kernel_rfl))
      (ChangeSpec.witness6 (enc := enc) (C := Try.checked) false ⟨#[], #[.agg #[.slice none 0 0, .slice none 0 0, .slice none 0 0], .slice none 0 0], []⟩ 8 (by kernel_rfl) (by kernel_rfl) (by kernel_rfl) (by kernel_rfl)) accessDoes_told)
end Go.Proofs.Ytjampleddeidaaa
