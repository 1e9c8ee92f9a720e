/- AccessTells: which accesses may be, are the same, what they hold, and what is warm, is as the document says. -/
import Derived.Test.YtjampleddeidaaaAew
import Derived.Test.YtjampleddeidaaaAec
import Derived.Test.YtjampleddeidaaaAei
namespace Go.Proofs.Ytjampleddeidaaa
open Go.ChangeShapes Go.WideShapes Go.ChangeAt Go.RowKit Go.Shelf

/-- What lies there all the while. -/
def TlJ (w : World) (g1 g2 g3 : Nat) (cs ds : Array Value) (q : Pe) (W : World) : Prop := Cs W g1 26 cs ∧ Cs W g2 26 ds ∧ BS W g3 q ∧ Ext w W
set_option maxRecDepth 100000 in
theorem TlJ.ext {w : World} {g1 g2 g3 : Nat} {cs ds : Array Value} {q : Pe} {W W' : World} (h : TlJ w g1 g2 g3 cs ds q W) (he : Ext W W') : TlJ w g1 g2 g3 cs ds q W' := ⟨Cs.ext h.1 he, Cs.ext h.2.1 he, h.2.2.1.ext he, h.2.2.2.trans he⟩
set_option maxRecDepth 100000 in
theorem warm_pt {x : Ax} (hr : rightX x = true) (q : Pe) : warmX x q = (decide (ptE x.a q = 0) && !ptB x.a q) := by
  unfold warmX ptB ptE
  rw [hr, Bool.true_and]
  cases hasX x.a q.cod with
  | true => simp
  | false =>
    by_cases h : x.a.length = 400
    · simp [h]
    · simp [h]
set_option maxRecDepth 100000 in
set_option maxHeartbeats 8000000 in
theorem accessTells_any (va vs vp ua us up : Value) (x y : Ax) (q : Pe) (w : World) (hx : AxR w va vs vp x) (hy : AxR w ua us up y) (hq : okS q) : Calls Try.prog 3 #[.agg #[va, vs, vp], .agg #[ua, us, up], .agg (cS q)] w (RetT w) := by
  have HX := Lib.hid hx
  have HY := Lib.hid hy
  have HQ := Lib.hid hq
  have HQA := Lib.hid (show okA ⟨q.addr, 0, 0⟩ from ⟨hq.1, rfl, rfl⟩)
  obtain ⟨A1, c1, rfl, _, _⟩ := hx.1.len
  obtain ⟨A2, c2, rfl, _, _⟩ := hx.2.1.len
  obtain ⟨A3, c3, rfl, _, _⟩ := hx.2.2.len
  obtain ⟨B1, d1, rfl, _, _⟩ := hy.1.len
  obtain ⟨B2, d2, rfl, _, _⟩ := hy.2.1.len
  obtain ⟨B3, d3, rfl, _, _⟩ := hy.2.2.len
  obtain ⟨w0, hw0⟩ : ∃ w0, ((w.alloc (.cells #[.slice A1 x.a.length c1, .slice A2 x.s.length c2, .slice A3 x.p.length c3] 26)).alloc (.cells #[.slice B1 y.a.length d1, .slice B2 y.s.length d2, .slice B3 y.p.length d3] 26)).alloc (.cells (cS q) 32) = w0 := ⟨_, rfl⟩
  have HW0 := Lib.hid hw0
  have HJ : Hid (TlJ w w.heap.size (w.heap.size + 1) (w.heap.size + 1 + 1) #[.slice A1 x.a.length c1, .slice A2 x.s.length c2, .slice A3 x.p.length c3] #[.slice B1 y.a.length d1, .slice B2 y.s.length d2, .slice B3 y.p.length d3] q w0) := Lib.hid ⟨by rw [← hw0]; exact Cs.alloc (Cs.alloc (Cs.new _ _ _ _ rfl) _) _, by rw [← hw0]; exact Cs.alloc (Cs.new _ _ _ _ (by simp)) _, by rw [← hw0]; exact Cs.new _ _ _ _ (by simp), by rw [← hw0]; exact (((Ext.refl w).alloc _).alloc _).alloc _⟩
  obtain ⟨sb, hsb⟩ : ∃ b, sameX x y = b := ⟨_, rfl⟩
  have HSA := Lib.hid (fun W (h : Ext w W) => show Calls Try.prog 12 #[.agg #[.slice A1 x.a.length c1, .slice A2 x.s.length c2, .slice A3 x.p.length c3], .agg #[.slice B1 y.a.length d1, .slice B2 y.s.length d2, .slice B3 y.p.length d3]] W (fun e w' => e = .returned (.bool sb) ∧ Ext W w') from hsb ▸ sameX_any _ _ _ _ _ _ x y W (HX.out.ext h) (HY.out.ext h))
  have HSB := Lib.hid (fun W (h : Ext w W) => show Calls Try.prog 13 #[.agg #[.slice A1 x.a.length c1, .slice A2 x.s.length c2, .slice A3 x.p.length c3], .agg #[.slice B1 y.a.length d1, .slice B2 y.s.length d2, .slice B3 y.p.length d3]] W (fun e w' => e = .returned (.bool sb) ∧ Ext W w') from hsb ▸ refSameX_any _ _ _ _ _ _ x y W (HX.out.ext h) (HY.out.ext h))
  have HSC := Lib.hid (fun W (h : Ext w W) => show Calls Try.prog 12 #[.agg #[.slice A1 x.a.length c1, .slice A2 x.s.length c2, .slice A3 x.p.length c3], .agg #[.slice A1 x.a.length c1, .slice A2 x.s.length c2, .slice A3 x.p.length c3]] W (fun e w' => e = .returned (.bool true) ∧ Ext W w') from (sameX_iff (x := x) (y := x)).2 rfl ▸ sameX_any _ _ _ _ _ _ x x W (HX.out.ext h) (HX.out.ext h))
  have HLA := Lib.hid (fun W (h : Ext w W) => loadX_any _ _ _ x q W (HX.out.ext h) HQ.out)
  have HWM := Lib.hid (fun W (h : Ext w W) => warmX_any _ _ _ x ⟨q.addr, 0, 0⟩ W (HX.out.ext h) HQA.out)
  have HL0 := Lib.hid (load_val (x := x) hx.2.2.oks q)
  obtain ⟨qc, hqc⟩ : ∃ qc, cS q = qc := ⟨_, rfl⟩
  rw [hqc] at HW0 ⊢
  clear hx hy hq hw0 hqc hsb
  go_enter Try.func3, Try.ntmps3
  go_upto_region 1 with fail
  rw [HW0.out]
  clear HW0
  obtain ⟨g3, hg3⟩ : ∃ g, w.heap.size + 1 + 1 = g := ⟨_, rfl⟩
  rw [hg3] at HJ ⊢
  obtain ⟨g2, hg2⟩ : ∃ g, w.heap.size + 1 = g := ⟨_, rfl⟩
  rw [hg2] at HJ ⊢
  obtain ⟨g1, hg1⟩ : ∃ g, w.heap.size = g := ⟨_, rfl⟩
  rw [hg1] at HJ ⊢
  clear hg1 hg2 hg3
  go_wp2_with fail
  refine (wakesX_any _).mono ?_
  rintro e w1 ⟨rfl, he⟩
  have HJ := Lib.hid (HJ.out.ext he)
  clear he
  have GX := Lib.hid HJ.out.1
  have GY := Lib.hid HJ.out.2.1
  have GQ := Lib.hid HJ.out.2.2.1
  have HE := Lib.hid HJ.out.2.2.2
  go_wp2_with ((with_reducible refine wpList_loadX ?_ (.tmp 3) ?_ g1 (.slice A1 x.a.length c1) (.slice A2 x.s.length c2) (.slice A3 x.p.length c3) ?_ GX.out ?_); (exact rfl); (exact rfl); (exact rfl))
  refine (overX_any _ _ _ x _ (HX.out.ext HE.out)).mono ?_
  rintro e w2 ⟨rfl, he⟩
  have HJ := Lib.hid (HJ.out.ext he)
  clear he GX GY GQ HE
  have GX := Lib.hid HJ.out.1
  have GY := Lib.hid HJ.out.2.1
  have GQ := Lib.hid HJ.out.2.2.1
  have HE := Lib.hid HJ.out.2.2.2
  cases hov : overX x with
  | true =>
    go_wp2_with fail
    refine bodyPost_ret (results_tmp rfl _ _ _) rfl ?_
    exact ⟨rfl, HE.out⟩
  | false =>
    clear hov
    go_wp2_with ((with_reducible refine wpList_loadX ?_ (.tmp 4) ?_ g2 (.slice B1 y.a.length d1) (.slice B2 y.s.length d2) (.slice B3 y.p.length d3) ?_ GY.out ?_); (exact rfl); (exact rfl); (exact rfl))
    refine (overX_any _ _ _ y _ (HY.out.ext HE.out)).mono ?_
    rintro e w3 ⟨rfl, he⟩
    have HJ := Lib.hid (HJ.out.ext he)
    clear he GX GY GQ HE
    have GX := Lib.hid HJ.out.1
    have GY := Lib.hid HJ.out.2.1
    have GQ := Lib.hid HJ.out.2.2.1
    have HE := Lib.hid HJ.out.2.2.2
    cases hov : overX y with
    | true =>
      go_wp2_with fail
      refine bodyPost_ret (results_tmp rfl _ _ _) rfl ?_
      exact ⟨rfl, HE.out⟩
    | false =>
      clear hov
      go_wp2_with ((with_reducible refine wpList_loadX ?_ (.tmp 3) ?_ g1 (.slice A1 x.a.length c1) (.slice A2 x.s.length c2) (.slice A3 x.p.length c3) ?_ GX.out ?_); (exact rfl); (exact rfl); (exact rfl))
      refine (checkX_any _ _ _ x _ (HX.out.ext HE.out)).mono ?_
      rintro e w4 ⟨rfl, he⟩
      have HJ := Lib.hid (HJ.out.ext he)
      clear he GX GY GQ HE
      have GX := Lib.hid HJ.out.1
      have GY := Lib.hid HJ.out.2.1
      have GQ := Lib.hid HJ.out.2.2.1
      have HE := Lib.hid HJ.out.2.2.2
      go_upto_region 6 with fail
      refine wp_named fun a0 ha0 => ?_
      obtain ⟨fr, hfr⟩ : ∃ fr : (Nat → Value) → Act, ∀ V, fr V = (((((((((((((a0.put (some 21) (V 0)).put (some 22) (V 1)).put (some 23) (V 2)).put (some 24) (V 3)).put (some 25) (V 4)).put (some 26) (V 5)).put (some 27) (V 6)).put (some 28) (V 7)).put (some 29) (V 8)).put (some 30) (V 9)).put (some 31) (V 10)).put (some 32) (V 11)).put (some 33) (V 12)) := ⟨fun V => (((((((((((((a0.put (some 21) (V 0)).put (some 22) (V 1)).put (some 23) (V 2)).put (some 24) (V 3)).put (some 25) (V 4)).put (some 26) (V 5)).put (some 27) (V 6)).put (some 28) (V 7)).put (some 29) (V 8)).put (some 30) (V 9)).put (some 31) (V 10)).put (some 32) (V 11)).put (some 33) (V 12)), fun _ => rfl⟩
      rw [ha0] at hfr
      simp only [Act.put, List.setIfInBounds_toArray, List.set_cons_zero, List.set_cons_succ] at hfr
      have HFR := Lib.hid hfr
      clear hfr
      refine wp_region_inv (by kernel_rfl) (by kernel_rfl) (fun L A W => ∃ V : Nat → Value, A = fr V ∧ Vals (fun j => ([some (.agg #[.slice A1 x.a.length c1, .slice A2 x.s.length c2, .slice A3 x.p.length c3]), some (.agg #[.slice B1 y.a.length d1, .slice B2 y.s.length d2, .slice B3 y.p.length d3]), some (.bool sb), some (.agg #[.slice A1 x.a.length c1, .slice A2 x.s.length c2, .slice A3 x.p.length c3]), some (.agg #[.slice B1 y.a.length d1, .slice B2 y.s.length d2, .slice B3 y.p.length d3]), some (.bool sb), some (.bool false), some (.bool false), some (.agg #[.slice A1 x.a.length c1, .slice A2 x.s.length c2, .slice A3 x.p.length c3]), some (.agg #[.slice A1 x.a.length c1, .slice A2 x.s.length c2, .slice A3 x.p.length c3]), some (.bool true), some (.bool false), some (.bool false)] : List (Option Value)).getD j none) L V ∧ (TlJ w g1 g2 g3 #[.slice A1 x.a.length c1, .slice A2 x.s.length c2, .slice A3 x.p.length c3] #[.slice B1 y.a.length d1, .slice B2 y.s.length d2, .slice B3 y.p.length d3] q W)) ?_ ⟨?_, ?_, ?_, ?_, ?_, ?_, ?_, ?_, ?_, ?_, ?_, ?_, ?_, trivial⟩ ?_
      · refine ⟨fun j => a0.tmps.getD (([21, 22, 23, 24, 25, 26, 27, 28, 29, 30, 31, 32, 33] : List Nat).getD j 0) undef, ?_, Vals.no _ _ _ (far_none _ _ rfl), HJ.out.ext (Ext.refl _).drew⟩
        rw [HFR.out, ha0]
        rfl
      all_goals clear ha0
      · rintro L A W K hL hC hW ⟨V, rfl, HV, s0⟩ hK
        have hB := s0
        have H := Lib.hid (show ∀ W', Ext W W' → K (fr (upd V 0 (.agg #[.slice A1 x.a.length c1, .slice A2 x.s.length c2, .slice A3 x.p.length c3]))) W' from fun W' he => hK _ _ ⟨upd V 0 (.agg #[.slice A1 x.a.length c1, .slice A2 x.s.length c2, .slice A3 x.p.length c3]), rfl, HV.up 0 _ (fun x hx => Option.some.inj hx), TlJ.ext s0 he⟩)
        clear hK hC hW hL HV s0
        rw [HFR.out]
        have HWD := Lib.hid hB.1
        clear hB
        refine wpList_loadX rfl (.tmp 3) rfl g1 (.slice A1 x.a.length c1) (.slice A2 x.s.length c2) (.slice A3 x.p.length c3) rfl HWD.out ?_
        show K _ _
        have := H.out _ (Ext.refl _)
        rw [HFR.out] at this
        exact this
      · rintro L A W K hL hC hW ⟨V, rfl, HV, s0⟩ hK
        have hB := s0
        have H := Lib.hid (show ∀ W', Ext W W' → K (fr (upd V 1 (.agg #[.slice B1 y.a.length d1, .slice B2 y.s.length d2, .slice B3 y.p.length d3]))) W' from fun W' he => hK _ _ ⟨upd V 1 (.agg #[.slice B1 y.a.length d1, .slice B2 y.s.length d2, .slice B3 y.p.length d3]), rfl, HV.up 1 _ (fun x hx => Option.some.inj hx), TlJ.ext s0 he⟩)
        clear hK hC hW hL HV s0
        rw [HFR.out]
        have HWD := Lib.hid hB.2.1
        clear hB
        refine wpList_loadX rfl (.tmp 4) rfl g2 (.slice B1 y.a.length d1) (.slice B2 y.s.length d2) (.slice B3 y.p.length d3) rfl HWD.out ?_
        show K _ _
        have := H.out _ (Ext.refl _)
        rw [HFR.out] at this
        exact this
      · rintro L A W K hL hC hW ⟨V, rfl, HV, s0⟩ hK
        have e0 : V 0 = .agg #[.slice A1 x.a.length c1, .slice A2 x.s.length c2, .slice A3 x.p.length c3] := HV 0 _ rfl (hW 0 rfl)
        have e1 : V 1 = .agg #[.slice B1 y.a.length d1, .slice B2 y.s.length d2, .slice B3 y.p.length d3] := HV 1 _ rfl (hW 1 rfl)
        have hB := s0
        have H := Lib.hid (show ∀ W', Ext W W' → K (fr (upd V 2 (.bool sb))) W' from fun W' he => hK _ _ ⟨upd V 2 (.bool sb), rfl, HV.up 2 _ (fun x hx => Option.some.inj hx), TlJ.ext s0 he⟩)
        have HU := Lib.hid (show (upd V 2 (.bool sb)) 0 = .agg #[.slice A1 x.a.length c1, .slice A2 x.s.length c2, .slice A3 x.p.length c3] ∧ (upd V 2 (.bool sb)) 1 = .agg #[.slice B1 y.a.length d1, .slice B2 y.s.length d2, .slice B3 y.p.length d3] from ⟨e0, e1⟩)
        clear hK hC hW hL HV s0
        rw [HFR.out]
        rw [e0, e1]
        clear e0 e1
        have HBE := Lib.hid hB.2.2.2
        clear hB
        go_wp2_with fail
        refine (HSA.out _ HBE.out).mono ?_
        rintro e wx ⟨rfl, he⟩
        have := H.out _ he
        clear H
        go_wp2_with fail
        show K _ _
        rw [HFR.out] at this
        obtain ⟨u0, u1⟩ := HU.out
        rw [u0, u1] at this
        exact this
      · rintro L A W K hL hC hW ⟨V, rfl, HV, s0⟩ hK
        have hB := s0
        have H := Lib.hid (show ∀ W', Ext W W' → K (fr (upd V 3 (.agg #[.slice A1 x.a.length c1, .slice A2 x.s.length c2, .slice A3 x.p.length c3]))) W' from fun W' he => hK _ _ ⟨upd V 3 (.agg #[.slice A1 x.a.length c1, .slice A2 x.s.length c2, .slice A3 x.p.length c3]), rfl, HV.up 3 _ (fun x hx => Option.some.inj hx), TlJ.ext s0 he⟩)
        clear hK hC hW hL HV s0
        rw [HFR.out]
        have HWD := Lib.hid hB.1
        clear hB
        refine wpList_loadX rfl (.tmp 3) rfl g1 (.slice A1 x.a.length c1) (.slice A2 x.s.length c2) (.slice A3 x.p.length c3) rfl HWD.out ?_
        show K _ _
        have := H.out _ (Ext.refl _)
        rw [HFR.out] at this
        exact this
      · rintro L A W K hL hC hW ⟨V, rfl, HV, s0⟩ hK
        have hB := s0
        have H := Lib.hid (show ∀ W', Ext W W' → K (fr (upd V 4 (.agg #[.slice B1 y.a.length d1, .slice B2 y.s.length d2, .slice B3 y.p.length d3]))) W' from fun W' he => hK _ _ ⟨upd V 4 (.agg #[.slice B1 y.a.length d1, .slice B2 y.s.length d2, .slice B3 y.p.length d3]), rfl, HV.up 4 _ (fun x hx => Option.some.inj hx), TlJ.ext s0 he⟩)
        clear hK hC hW hL HV s0
        rw [HFR.out]
        have HWD := Lib.hid hB.2.1
        clear hB
        refine wpList_loadX rfl (.tmp 4) rfl g2 (.slice B1 y.a.length d1) (.slice B2 y.s.length d2) (.slice B3 y.p.length d3) rfl HWD.out ?_
        show K _ _
        have := H.out _ (Ext.refl _)
        rw [HFR.out] at this
        exact this
      · rintro L A W K hL hC hW ⟨V, rfl, HV, s0⟩ hK
        have e3 : V 3 = .agg #[.slice A1 x.a.length c1, .slice A2 x.s.length c2, .slice A3 x.p.length c3] := HV 3 _ rfl (hW 3 rfl)
        have e4 : V 4 = .agg #[.slice B1 y.a.length d1, .slice B2 y.s.length d2, .slice B3 y.p.length d3] := HV 4 _ rfl (hW 4 rfl)
        have hB := s0
        have H := Lib.hid (show ∀ W', Ext W W' → K (fr (upd V 5 (.bool sb))) W' from fun W' he => hK _ _ ⟨upd V 5 (.bool sb), rfl, HV.up 5 _ (fun x hx => Option.some.inj hx), TlJ.ext s0 he⟩)
        have HU := Lib.hid (show (upd V 5 (.bool sb)) 3 = .agg #[.slice A1 x.a.length c1, .slice A2 x.s.length c2, .slice A3 x.p.length c3] ∧ (upd V 5 (.bool sb)) 4 = .agg #[.slice B1 y.a.length d1, .slice B2 y.s.length d2, .slice B3 y.p.length d3] from ⟨e3, e4⟩)
        clear hK hC hW hL HV s0
        rw [HFR.out]
        rw [e3, e4]
        clear e3 e4
        have HBE := Lib.hid hB.2.2.2
        clear hB
        go_wp2_with fail
        refine (HSB.out _ HBE.out).mono ?_
        rintro e wx ⟨rfl, he⟩
        have := H.out _ he
        clear H
        go_wp2_with fail
        show K _ _
        rw [HFR.out] at this
        obtain ⟨u3, u4⟩ := HU.out
        rw [u3, u4] at this
        exact this
      · rintro L A W K hL hC hW ⟨V, rfl, HV, s0⟩ hK
        have e2 : V 2 = .bool sb := HV 2 _ rfl (hW 2 rfl)
        have e5 : V 5 = .bool sb := HV 5 _ rfl (hW 5 rfl)
        have hB := s0
        have H := Lib.hid (show ∀ W', Ext W W' → K (fr (upd V 6 (.bool false))) W' from fun W' he => hK _ _ ⟨upd V 6 (.bool false), rfl, HV.up 6 _ (fun x hx => Option.some.inj hx), TlJ.ext s0 he⟩)
        have HU := Lib.hid (show (upd V 6 (.bool false)) 2 = .bool sb ∧ (upd V 6 (.bool false)) 5 = .bool sb from ⟨e2, e5⟩)
        clear hK hC hW hL HV s0
        rw [HFR.out]
        rw [e2, e5]
        clear e2 e5
        have hbb : (sb != sb) = false := bne_self_eq_false sb
        clear hB
        go_wp2_with fail
        show K _ _
        have := H.out _ (Ext.refl _)
        rw [HFR.out] at this
        obtain ⟨u2, u5⟩ := HU.out
        rw [u2, u5] at this
        exact this
      · rintro L A W K hL hC hW ⟨V, rfl, HV, s0⟩ hK
        have e6 : V 6 = .bool false := HV 6 _ rfl (hW 6 rfl)
        have H := Lib.hid (show ∀ W', Ext W W' → K (fr (upd V 7 (.bool false))) W' from fun W' he => hK _ _ ⟨upd V 7 (.bool false), rfl, HV.up 7 _ (fun x hx => Option.some.inj hx), TlJ.ext s0 he⟩)
        have HU := Lib.hid (show (upd V 7 (.bool false)) 6 = .bool false from e6)
        clear hK hC hW hL HV s0
        rw [HFR.out]
        rw [e6]
        clear e6
        go_wp2_with fail
        show K _ _
        have := H.out _ (Ext.refl _)
        rw [HFR.out] at this
        obtain u6 := HU.out
        rw [u6] at this
        exact this
      · rintro L A W K hL hC hW ⟨V, rfl, HV, s0⟩ hK
        have e7 : V 7 = .bool false := HV 7 _ rfl (hW 7 rfl)
        have hB := s0
        have H := Lib.hid (show ∀ W', Ext W W' → K (fr (upd V 8 (.agg #[.slice A1 x.a.length c1, .slice A2 x.s.length c2, .slice A3 x.p.length c3]))) W' from fun W' he => hK _ _ ⟨upd V 8 (.agg #[.slice A1 x.a.length c1, .slice A2 x.s.length c2, .slice A3 x.p.length c3]), rfl, HV.up 8 _ (fun x hx => Option.some.inj hx), TlJ.ext s0 he⟩)
        have HU := Lib.hid (show (upd V 8 (.agg #[.slice A1 x.a.length c1, .slice A2 x.s.length c2, .slice A3 x.p.length c3])) 7 = .bool false from e7)
        clear hK hC hW hL HV s0
        rw [HFR.out]
        rw [e7]
        clear e7
        have HWD := Lib.hid hB.1
        clear hB
        refine wpList_loadX rfl (.tmp 3) rfl g1 (.slice A1 x.a.length c1) (.slice A2 x.s.length c2) (.slice A3 x.p.length c3) rfl HWD.out ?_
        show K _ _
        have := H.out _ (Ext.refl _)
        rw [HFR.out] at this
        obtain u7 := HU.out
        rw [u7] at this
        exact this
      · rintro L A W K hL hC hW ⟨V, rfl, HV, s0⟩ hK
        have e7 : V 7 = .bool false := HV 7 _ rfl (hW 7 rfl)
        have hB := s0
        have H := Lib.hid (show ∀ W', Ext W W' → K (fr (upd V 9 (.agg #[.slice A1 x.a.length c1, .slice A2 x.s.length c2, .slice A3 x.p.length c3]))) W' from fun W' he => hK _ _ ⟨upd V 9 (.agg #[.slice A1 x.a.length c1, .slice A2 x.s.length c2, .slice A3 x.p.length c3]), rfl, HV.up 9 _ (fun x hx => Option.some.inj hx), TlJ.ext s0 he⟩)
        have HU := Lib.hid (show (upd V 9 (.agg #[.slice A1 x.a.length c1, .slice A2 x.s.length c2, .slice A3 x.p.length c3])) 7 = .bool false from e7)
        clear hK hC hW hL HV s0
        rw [HFR.out]
        rw [e7]
        clear e7
        have HWD := Lib.hid hB.1
        clear hB
        refine wpList_loadX rfl (.tmp 3) rfl g1 (.slice A1 x.a.length c1) (.slice A2 x.s.length c2) (.slice A3 x.p.length c3) rfl HWD.out ?_
        show K _ _
        have := H.out _ (Ext.refl _)
        rw [HFR.out] at this
        obtain u7 := HU.out
        rw [u7] at this
        exact this
      · rintro L A W K hL hC hW ⟨V, rfl, HV, s0⟩ hK
        have e7 : V 7 = .bool false := HV 7 _ rfl (hW 7 rfl)
        have e8 : V 8 = .agg #[.slice A1 x.a.length c1, .slice A2 x.s.length c2, .slice A3 x.p.length c3] := HV 8 _ rfl (hW 8 rfl)
        have e9 : V 9 = .agg #[.slice A1 x.a.length c1, .slice A2 x.s.length c2, .slice A3 x.p.length c3] := HV 9 _ rfl (hW 9 rfl)
        have hB := s0
        have H := Lib.hid (show ∀ W', Ext W W' → K (fr (upd V 10 (.bool true))) W' from fun W' he => hK _ _ ⟨upd V 10 (.bool true), rfl, HV.up 10 _ (fun x hx => Option.some.inj hx), TlJ.ext s0 he⟩)
        have HU := Lib.hid (show (upd V 10 (.bool true)) 7 = .bool false ∧ (upd V 10 (.bool true)) 8 = .agg #[.slice A1 x.a.length c1, .slice A2 x.s.length c2, .slice A3 x.p.length c3] ∧ (upd V 10 (.bool true)) 9 = .agg #[.slice A1 x.a.length c1, .slice A2 x.s.length c2, .slice A3 x.p.length c3] from ⟨e7, e8, e9⟩)
        clear hK hC hW hL HV s0
        rw [HFR.out]
        rw [e7, e8, e9]
        clear e7 e8 e9
        have HBE := Lib.hid hB.2.2.2
        clear hB
        go_wp2_with fail
        refine (HSC.out _ HBE.out).mono ?_
        rintro e wx ⟨rfl, he⟩
        have := H.out _ he
        clear H
        go_wp2_with fail
        show K _ _
        rw [HFR.out] at this
        obtain ⟨u7, u8, u9⟩ := HU.out
        rw [u7, u8, u9] at this
        exact this
      · rintro L A W K hL hC hW ⟨V, rfl, HV, s0⟩ hK
        have e7 : V 7 = .bool false := HV 7 _ rfl (hW 7 rfl)
        have e10 : V 10 = .bool true := HV 10 _ rfl (hW 10 rfl)
        have H := Lib.hid (show ∀ W', Ext W W' → K (fr (upd V 11 (.bool false))) W' from fun W' he => hK _ _ ⟨upd V 11 (.bool false), rfl, HV.up 11 _ (fun x hx => Option.some.inj hx), TlJ.ext s0 he⟩)
        have HU := Lib.hid (show (upd V 11 (.bool false)) 7 = .bool false ∧ (upd V 11 (.bool false)) 10 = .bool true from ⟨e7, e10⟩)
        clear hK hC hW hL HV s0
        rw [HFR.out]
        rw [e7, e10]
        clear e7 e10
        go_wp2_with fail
        show K _ _
        have := H.out _ (Ext.refl _)
        rw [HFR.out] at this
        obtain ⟨u7, u10⟩ := HU.out
        rw [u7, u10] at this
        exact this
      · rintro L A W K hL hC hW ⟨V, rfl, HV, s0⟩ hK
        have e7 : V 7 = .bool false := HV 7 _ rfl (hW 7 rfl)
        have e11 : V 11 = .bool false := HV 11 _ rfl (hW 11 rfl)
        have H := Lib.hid (show ∀ W', Ext W W' → K (fr (upd V 12 (.bool false))) W' from fun W' he => hK _ _ ⟨upd V 12 (.bool false), rfl, HV.up 12 _ (fun x hx => Option.some.inj hx), TlJ.ext s0 he⟩)
        have HU := Lib.hid (show (upd V 12 (.bool false)) 7 = .bool false ∧ (upd V 12 (.bool false)) 11 = .bool false from ⟨e7, e11⟩)
        clear hK hC hW hL HV s0
        rw [HFR.out]
        rw [e7, e11]
        clear e7 e11
        go_wp2_with fail
        show K _ _
        have := H.out _ (Ext.refl _)
        rw [HFR.out] at this
        obtain ⟨u7, u11⟩ := HU.out
        rw [u7, u11] at this
        exact this
      · rintro L A W hL ⟨V, rfl, HV, s0⟩
        have e0 : V 0 = .agg #[.slice A1 x.a.length c1, .slice A2 x.s.length c2, .slice A3 x.p.length c3] := HV 0 _ rfl (hL 0 (by simp))
        have e1 : V 1 = .agg #[.slice B1 y.a.length d1, .slice B2 y.s.length d2, .slice B3 y.p.length d3] := HV 1 _ rfl (hL 1 (by simp))
        have e2 : V 2 = .bool sb := HV 2 _ rfl (hL 2 (by simp))
        have e3 : V 3 = .agg #[.slice A1 x.a.length c1, .slice A2 x.s.length c2, .slice A3 x.p.length c3] := HV 3 _ rfl (hL 3 (by simp))
        have e4 : V 4 = .agg #[.slice B1 y.a.length d1, .slice B2 y.s.length d2, .slice B3 y.p.length d3] := HV 4 _ rfl (hL 4 (by simp))
        have e5 : V 5 = .bool sb := HV 5 _ rfl (hL 5 (by simp))
        have e6 : V 6 = .bool false := HV 6 _ rfl (hL 6 (by simp))
        have e7 : V 7 = .bool false := HV 7 _ rfl (hL 7 (by simp))
        have e8 : V 8 = .agg #[.slice A1 x.a.length c1, .slice A2 x.s.length c2, .slice A3 x.p.length c3] := HV 8 _ rfl (hL 8 (by simp))
        have e9 : V 9 = .agg #[.slice A1 x.a.length c1, .slice A2 x.s.length c2, .slice A3 x.p.length c3] := HV 9 _ rfl (hL 9 (by simp))
        have e10 : V 10 = .bool true := HV 10 _ rfl (hL 10 (by simp))
        have e11 : V 11 = .bool false := HV 11 _ rfl (hL 11 (by simp))
        have e12 : V 12 = .bool false := HV 12 _ rfl (hL 12 (by simp))
        have hA := s0
        rw [HFR.out]
        rw [e0, e1, e2, e3, e4, e5, e6, e7, e8, e9, e10, e11, e12]
        clear hL HV HFR e0 e1 e2 e3 e4 e5 e6 e7 e8 e9 e10 e11 e12 s0
        have HJ := Lib.hid hA
        clear hA GX GY GQ HE
        have GX := Lib.hid HJ.out.1
        have GY := Lib.hid HJ.out.2.1
        have GQ := Lib.hid HJ.out.2.2.1
        have HE := Lib.hid HJ.out.2.2.2
        go_wp2_with ((with_reducible refine wpList_loadX ?_ (.tmp 3) ?_ g1 (.slice A1 x.a.length c1) (.slice A2 x.s.length c2) (.slice A3 x.p.length c3) ?_ GX.out ?_); (exact rfl); (exact rfl); (exact rfl))
        refine (refRightX_any _ _ _ x _ (HX.out.ext HE.out)).mono ?_
        rintro e w5 ⟨rfl, he⟩
        have HJ := Lib.hid (HJ.out.ext he)
        clear he GX GY GQ HE
        have GX := Lib.hid HJ.out.1
        have GY := Lib.hid HJ.out.2.1
        have GQ := Lib.hid HJ.out.2.2.1
        have HE := Lib.hid HJ.out.2.2.2
        cases hr : rightX x with
        | false =>
          have HK : Hid (chkX x = 190) := Lib.hid (by unfold chkX; rw [hr]; rfl)
          have HL := Lib.hid (show loadX x q = 0 by unfold loadX; rw [hr, Bool.false_and, if_neg Bool.false_ne_true])
          have HWF := Lib.hid (show warmX x ⟨q.addr, 0, 0⟩ = false by unfold warmX; rw [hr]; rfl)
          clear hr
          rw [HK.out]
          go_wp2_with (first
            | ((with_reducible refine wpList_loadX ?_ (.tmp 3) ?_ g1 (.slice A1 x.a.length c1) (.slice A2 x.s.length c2) (.slice A3 x.p.length c3) ?_ GX.out ?_); (exact rfl); (exact rfl); (exact rfl))
            | ((with_reducible refine wpList_loadS ?_ (.tmp 5) ?_ g3 0 q ?_ ?_ ?_); (exact rfl); (exact rfl); (exact rfl); (exact (Cs.rg GQ.out))))
          refine (HLA.out _ HE.out).mono ?_
          rintro e w6 ⟨rfl, he⟩
          rw [HL.out]
          have HJ := Lib.hid (HJ.out.ext he)
          clear he GX GY GQ HE
          have GX := Lib.hid HJ.out.1
          have GY := Lib.hid HJ.out.2.1
          have GQ := Lib.hid HJ.out.2.2.1
          have HE := Lib.hid HJ.out.2.2.2
          have qq := BS.addr GQ.out
          go_wp2_with (first
            | ((with_reducible refine wpList_eql_word ?_ (.tmp 42) (.tmp 43) ?_ 0 0 (by decide) (by decide) ?_ ?_ ?_); (exact rfl); (exact rfl); (exact rfl); (exact rfl); rw [show ((0 : Nat) == 0) = true from rfl])
            | ((with_reducible refine wpList_loadX ?_ (.tmp 3) ?_ g1 (.slice A1 x.a.length c1) (.slice A2 x.s.length c2) (.slice A3 x.p.length c3) ?_ GX.out ?_); (exact rfl); (exact rfl); (exact rfl))
            | fail)
          refine (HWM.out _ HE.out).mono ?_
          rintro e w7 ⟨rfl, he⟩
          rw [HWF.out]
          have HJ := Lib.hid (HJ.out.ext he)
          clear he GX GY GQ HE
          have GX := Lib.hid HJ.out.1
          have GY := Lib.hid HJ.out.2.1
          have GQ := Lib.hid HJ.out.2.2.1
          have HE := Lib.hid HJ.out.2.2.2
          go_wp2_with fail
          refine bodyPost_ret (results_tmp rfl _ _ _) rfl ?_
          exact ⟨rfl, HE.out⟩
        | true =>
          have HK : Hid (chkX x = 0) := Lib.hid (by unfold chkX; rw [hr]; rfl)
          have HRA := Lib.hid (rightX_facts hr).1
          have HLB := Lib.hid (fun W (h : Ext w W) => refLoadX_any _ _ _ x q W (HX.out.ext h) HQ.out hr)
          have HWP := Lib.hid (warm_pt hr ⟨q.addr, 0, 0⟩)
          clear hr
          rw [HK.out]
          have qq := BS.addr GQ.out
          go_wp2_with ((with_reducible refine wpList_loadX ?_ (.tmp 3) ?_ g1 (.slice A1 x.a.length c1) (.slice A2 x.s.length c2) (.slice A3 x.p.length c3) ?_ GX.out ?_); (exact rfl); (exact rfl); (exact rfl))
          refine (refTouchX_any _ _ _ x ⟨q.addr, 0, 0⟩ _ (HX.out.ext HE.out) HQA.out HRA.out).mono ?_
          rintro e w6 ⟨ta, ts, tp, rfl, hta, he⟩
          obtain ⟨D1, n1, e1, _, _⟩ := hta.1.len
          obtain ⟨D2, n2, e2, _, _⟩ := hta.2.1.len
          obtain ⟨D3, n3, e3, _, _⟩ := hta.2.2.len
          generalize (if ptE x.a ⟨q.addr, 0, 0⟩ = 0 then ({ x with a := ptL x.a ⟨q.addr, 0, 0⟩ } : Ax) else ax0) = ty at *
          subst e1 e2 e3
          clear hta qq
          have HJ := Lib.hid (HJ.out.ext he)
          clear he GX GY GQ HE
          have GX := Lib.hid HJ.out.1
          have GY := Lib.hid HJ.out.2.1
          have GQ := Lib.hid HJ.out.2.2.1
          have HE := Lib.hid HJ.out.2.2.2
          obtain ⟨okb, hok⟩ : ∃ b, decide (ptE x.a ⟨q.addr, 0, 0⟩ = 0) = b := ⟨_, rfl⟩
          obtain ⟨cb, hcb⟩ : ∃ b, ptB x.a ⟨q.addr, 0, 0⟩ = b := ⟨_, rfl⟩
          rw [hok, hcb] at HWP ⊢
          clear hok hcb
          obtain ⟨L0, hl0⟩ : ∃ n, loadX x q = n := ⟨_, rfl⟩
          rw [hl0] at HLA HLB HL0
          have HLL := Lib.hid (show (L0 == L0) = true from beq_self_eq_true L0)
          rw [HWP.out] at HWM
          clear hl0 HWP
          go_upto_region 11 with ((with_reducible refine wpList_storeX ?_ ?_ (.tmp 8) (.tmp 58) ?_ w6.heap.size (.slice none 0 0) (.slice none 0 0) (.slice none 0 0) (.slice D1 ty.a.length n1) (.slice D2 ty.s.length n2) (.slice D3 ty.p.length n3) ?_ ?_ rfl rfl rfl (Cs.new _ _ _ _ rfl) ?_); (exact rfl); (exact rfl); (exact rfl); (exact rfl); (exact rfl); intro w9 k9 g9; have G9 := Lib.hid (((Ext.refl w6).alloc (.cells #[.slice none 0 0, .slice none 0 0, .slice none 0 0] 26)).grown g9 (Nat.le_refl _)); clear k9 g9)
          have HJ := Lib.hid (HJ.out.ext G9.out)
          clear G9 GX GY GQ HE
          cases okb with
          | true =>
            rw [Bool.true_and] at HWM
            refine wp_named fun a0 ha0 => ?_
            obtain ⟨fr, hfr⟩ : ∃ fr : (Nat → Value) → Act, ∀ V, fr V = ((((((((((((((((((((((((a0.put (some 61) (V 0)).put (some 62) (V 1)).put (some 63) (V 2)).put (some 64) (V 3)).put (some 65) (V 4)).put (some 66) (V 5)).put (some 67) (V 6)).put (some 68) (V 7)).put (some 69) (V 8)).put (some 70) (V 9)).put (some 71) (V 10)).put (some 72) (V 11)).put (some 73) (V 12)).put (some 74) (V 13)).put (some 75) (V 14)).put (some 76) (V 15)).put (some 77) (V 16)).put (some 78) (V 17)).put (some 79) (V 18)).put (some 80) (V 19)).put (some 81) (V 20)).put (some 82) (V 21)).put (some 83) (V 22)).put (some 6) (V 23)) := ⟨fun V => ((((((((((((((((((((((((a0.put (some 61) (V 0)).put (some 62) (V 1)).put (some 63) (V 2)).put (some 64) (V 3)).put (some 65) (V 4)).put (some 66) (V 5)).put (some 67) (V 6)).put (some 68) (V 7)).put (some 69) (V 8)).put (some 70) (V 9)).put (some 71) (V 10)).put (some 72) (V 11)).put (some 73) (V 12)).put (some 74) (V 13)).put (some 75) (V 14)).put (some 76) (V 15)).put (some 77) (V 16)).put (some 78) (V 17)).put (some 79) (V 18)).put (some 80) (V 19)).put (some 81) (V 20)).put (some 82) (V 21)).put (some 83) (V 22)).put (some 6) (V 23)), fun _ => rfl⟩
            rw [ha0] at hfr
            simp only [Act.put, List.setIfInBounds_toArray, List.set_cons_zero, List.set_cons_succ] at hfr
            have HFR := Lib.hid hfr
            clear hfr
            refine wp_region_inv (by kernel_rfl) (by kernel_rfl) (fun L A W => ∃ V : Nat → Value, A = fr V ∧ Vals (fun j => ([some (.int .i64 0), some (.bool true), some (.bool true), some (.agg #[.slice A1 x.a.length c1, .slice A2 x.s.length c2, .slice A3 x.p.length c3]), some (.agg (cS q)), some (wv L0), some (.agg #[.slice A1 x.a.length c1, .slice A2 x.s.length c2, .slice A3 x.p.length c3]), some (.agg (cS q)), some (wv L0), some (.bool true), some (.bool true), some (.bool true), some (.agg #[.slice A1 x.a.length c1, .slice A2 x.s.length c2, .slice A3 x.p.length c3]), some (.pointer (some ⟨g3, 0, none⟩)), some (.int .u64 (q.addr : Nat)), some (.bool (!cb)), some (.bool true), some (.bool true), some (.bool cb), some (.bool (!cb)), some (.bool (!cb)), some (.bool true), some (.bool true), some (.bool true)] : List (Option Value)).getD j none) L V ∧ (TlJ w g1 g2 g3 #[.slice A1 x.a.length c1, .slice A2 x.s.length c2, .slice A3 x.p.length c3] #[.slice B1 y.a.length d1, .slice B2 y.s.length d2, .slice B3 y.p.length d3] q W)) ?_ ⟨?_, ?_, ?_, ?_, ?_, ?_, ?_, ?_, ?_, ?_, ?_, ?_, ?_, ?_, ?_, ?_, ?_, ?_, ?_, ?_, ?_, ?_, ?_, ?_, trivial⟩ ?_
            · refine ⟨fun j => a0.tmps.getD (([61, 62, 63, 64, 65, 66, 67, 68, 69, 70, 71, 72, 73, 74, 75, 76, 77, 78, 79, 80, 81, 82, 83, 6] : List Nat).getD j 0) undef, ?_, Vals.no _ _ _ (far_none _ _ rfl), HJ.out.ext (Ext.refl _).drew⟩
              rw [HFR.out, ha0]
              rfl
            all_goals clear ha0
            · rintro L A W K hL hC hW ⟨V, rfl, HV, s0⟩ hK
              have H := Lib.hid (show ∀ W', Ext W W' → K (fr (upd V 0 (.int .i64 0))) W' from fun W' he => hK _ _ ⟨upd V 0 (.int .i64 0), rfl, HV.up 0 _ (fun x hx => Option.some.inj hx), TlJ.ext s0 he⟩)
              clear hK hC hW hL HV s0
              rw [HFR.out]
              go_wp2_with fail
              show K _ _
              have := H.out _ (Ext.refl _)
              rw [HFR.out] at this
              exact this
            · rintro L A W K hL hC hW ⟨V, rfl, HV, s0⟩ hK
              have e0 : V 0 = .int .i64 0 := HV 0 _ rfl (hW 0 rfl)
              have H := Lib.hid (show ∀ W', Ext W W' → K (fr (upd V 1 (.bool true))) W' from fun W' he => hK _ _ ⟨upd V 1 (.bool true), rfl, HV.up 1 _ (fun x hx => Option.some.inj hx), TlJ.ext s0 he⟩)
              have HU := Lib.hid (show (upd V 1 (.bool true)) 0 = .int .i64 0 from e0)
              clear hK hC hW hL HV s0
              rw [HFR.out]
              rw [e0]
              clear e0
              go_wp2_with fail
              show K _ _
              have := H.out _ (Ext.refl _)
              rw [HFR.out] at this
              obtain u0 := HU.out
              rw [u0] at this
              exact this
            · rintro L A W K hL hC hW ⟨V, rfl, HV, s0⟩ hK
              have e1 : V 1 = .bool true := HV 1 _ rfl (hW 1 rfl)
              have H := Lib.hid (show ∀ W', Ext W W' → K (fr (upd V 2 (.bool true))) W' from fun W' he => hK _ _ ⟨upd V 2 (.bool true), rfl, HV.up 2 _ (fun x hx => Option.some.inj hx), TlJ.ext s0 he⟩)
              have HU := Lib.hid (show (upd V 2 (.bool true)) 1 = .bool true from e1)
              clear hK hC hW hL HV s0
              rw [HFR.out]
              rw [e1]
              clear e1
              go_wp2_with fail
              show K _ _
              have := H.out _ (Ext.refl _)
              rw [HFR.out] at this
              obtain u1 := HU.out
              rw [u1] at this
              exact this
            · rintro L A W K hL hC hW ⟨V, rfl, HV, s0⟩ hK
              have e2 : V 2 = .bool true := HV 2 _ rfl (hW 2 rfl)
              have hB := s0
              have H := Lib.hid (show ∀ W', Ext W W' → K (fr (upd V 3 (.agg #[.slice A1 x.a.length c1, .slice A2 x.s.length c2, .slice A3 x.p.length c3]))) W' from fun W' he => hK _ _ ⟨upd V 3 (.agg #[.slice A1 x.a.length c1, .slice A2 x.s.length c2, .slice A3 x.p.length c3]), rfl, HV.up 3 _ (fun x hx => Option.some.inj hx), TlJ.ext s0 he⟩)
              have HU := Lib.hid (show (upd V 3 (.agg #[.slice A1 x.a.length c1, .slice A2 x.s.length c2, .slice A3 x.p.length c3])) 2 = .bool true from e2)
              clear hK hC hW hL HV s0
              rw [HFR.out]
              rw [e2]
              clear e2
              have HWD := Lib.hid hB.1
              clear hB
              refine wpList_loadX rfl (.tmp 3) rfl g1 (.slice A1 x.a.length c1) (.slice A2 x.s.length c2) (.slice A3 x.p.length c3) rfl HWD.out ?_
              show K _ _
              have := H.out _ (Ext.refl _)
              rw [HFR.out] at this
              obtain u2 := HU.out
              rw [u2] at this
              exact this
            · rintro L A W K hL hC hW ⟨V, rfl, HV, s0⟩ hK
              have e2 : V 2 = .bool true := HV 2 _ rfl (hW 2 rfl)
              have hB := s0
              have H := Lib.hid (show ∀ W', Ext W W' → K (fr (upd V 4 (.agg (cS q)))) W' from fun W' he => hK _ _ ⟨upd V 4 (.agg (cS q)), rfl, HV.up 4 _ (fun x hx => Option.some.inj hx), TlJ.ext s0 he⟩)
              have HU := Lib.hid (show (upd V 4 (.agg (cS q))) 2 = .bool true from e2)
              clear hK hC hW hL HV s0
              rw [HFR.out]
              rw [e2]
              clear e2
              have HWD := Lib.hid (Cs.rg hB.2.2.1)
              clear hB
              refine wpList_loadS rfl (.tmp 5) rfl g3 0 q rfl HWD.out ?_
              show K _ _
              have := H.out _ (Ext.refl _)
              rw [HFR.out] at this
              obtain u2 := HU.out
              rw [u2] at this
              exact this
            · rintro L A W K hL hC hW ⟨V, rfl, HV, s0⟩ hK
              have e2 : V 2 = .bool true := HV 2 _ rfl (hW 2 rfl)
              have e3 : V 3 = .agg #[.slice A1 x.a.length c1, .slice A2 x.s.length c2, .slice A3 x.p.length c3] := HV 3 _ rfl (hW 3 rfl)
              have e4 : V 4 = .agg (cS q) := HV 4 _ rfl (hW 4 rfl)
              have hB := s0
              have H := Lib.hid (show ∀ W', Ext W W' → K (fr (upd V 5 (wv L0))) W' from fun W' he => hK _ _ ⟨upd V 5 (wv L0), rfl, HV.up 5 _ (fun x hx => Option.some.inj hx), TlJ.ext s0 he⟩)
              have HU := Lib.hid (show (upd V 5 (wv L0)) 2 = .bool true ∧ (upd V 5 (wv L0)) 3 = .agg #[.slice A1 x.a.length c1, .slice A2 x.s.length c2, .slice A3 x.p.length c3] ∧ (upd V 5 (wv L0)) 4 = .agg (cS q) from ⟨e2, e3, e4⟩)
              clear hK hC hW hL HV s0
              rw [HFR.out]
              rw [e2, e3, e4]
              clear e2 e3 e4
              have HBE := Lib.hid hB.2.2.2
              clear hB
              go_wp2_with fail
              refine (HLA.out _ HBE.out).mono ?_
              rintro e wx ⟨rfl, he⟩
              have := H.out _ he
              clear H
              go_wp2_with fail
              show K _ _
              rw [HFR.out] at this
              obtain ⟨u2, u3, u4⟩ := HU.out
              rw [u2, u3, u4] at this
              exact this
            · rintro L A W K hL hC hW ⟨V, rfl, HV, s0⟩ hK
              have e2 : V 2 = .bool true := HV 2 _ rfl (hW 2 rfl)
              have hB := s0
              have H := Lib.hid (show ∀ W', Ext W W' → K (fr (upd V 6 (.agg #[.slice A1 x.a.length c1, .slice A2 x.s.length c2, .slice A3 x.p.length c3]))) W' from fun W' he => hK _ _ ⟨upd V 6 (.agg #[.slice A1 x.a.length c1, .slice A2 x.s.length c2, .slice A3 x.p.length c3]), rfl, HV.up 6 _ (fun x hx => Option.some.inj hx), TlJ.ext s0 he⟩)
              have HU := Lib.hid (show (upd V 6 (.agg #[.slice A1 x.a.length c1, .slice A2 x.s.length c2, .slice A3 x.p.length c3])) 2 = .bool true from e2)
              clear hK hC hW hL HV s0
              rw [HFR.out]
              rw [e2]
              clear e2
              have HWD := Lib.hid hB.1
              clear hB
              refine wpList_loadX rfl (.tmp 3) rfl g1 (.slice A1 x.a.length c1) (.slice A2 x.s.length c2) (.slice A3 x.p.length c3) rfl HWD.out ?_
              show K _ _
              have := H.out _ (Ext.refl _)
              rw [HFR.out] at this
              obtain u2 := HU.out
              rw [u2] at this
              exact this
            · rintro L A W K hL hC hW ⟨V, rfl, HV, s0⟩ hK
              have e2 : V 2 = .bool true := HV 2 _ rfl (hW 2 rfl)
              have hB := s0
              have H := Lib.hid (show ∀ W', Ext W W' → K (fr (upd V 7 (.agg (cS q)))) W' from fun W' he => hK _ _ ⟨upd V 7 (.agg (cS q)), rfl, HV.up 7 _ (fun x hx => Option.some.inj hx), TlJ.ext s0 he⟩)
              have HU := Lib.hid (show (upd V 7 (.agg (cS q))) 2 = .bool true from e2)
              clear hK hC hW hL HV s0
              rw [HFR.out]
              rw [e2]
              clear e2
              have HWD := Lib.hid (Cs.rg hB.2.2.1)
              clear hB
              refine wpList_loadS rfl (.tmp 5) rfl g3 0 q rfl HWD.out ?_
              show K _ _
              have := H.out _ (Ext.refl _)
              rw [HFR.out] at this
              obtain u2 := HU.out
              rw [u2] at this
              exact this
            · rintro L A W K hL hC hW ⟨V, rfl, HV, s0⟩ hK
              have e2 : V 2 = .bool true := HV 2 _ rfl (hW 2 rfl)
              have e6 : V 6 = .agg #[.slice A1 x.a.length c1, .slice A2 x.s.length c2, .slice A3 x.p.length c3] := HV 6 _ rfl (hW 6 rfl)
              have e7 : V 7 = .agg (cS q) := HV 7 _ rfl (hW 7 rfl)
              have hB := s0
              have H := Lib.hid (show ∀ W', Ext W W' → K (fr (upd V 8 (wv L0))) W' from fun W' he => hK _ _ ⟨upd V 8 (wv L0), rfl, HV.up 8 _ (fun x hx => Option.some.inj hx), TlJ.ext s0 he⟩)
              have HU := Lib.hid (show (upd V 8 (wv L0)) 2 = .bool true ∧ (upd V 8 (wv L0)) 6 = .agg #[.slice A1 x.a.length c1, .slice A2 x.s.length c2, .slice A3 x.p.length c3] ∧ (upd V 8 (wv L0)) 7 = .agg (cS q) from ⟨e2, e6, e7⟩)
              clear hK hC hW hL HV s0
              rw [HFR.out]
              rw [e2, e6, e7]
              clear e2 e6 e7
              have HBE := Lib.hid hB.2.2.2
              clear hB
              go_wp2_with fail
              refine (HLB.out _ HBE.out).mono ?_
              rintro e wx ⟨rfl, he⟩
              have := H.out _ he
              clear H
              go_wp2_with fail
              show K _ _
              rw [HFR.out] at this
              obtain ⟨u2, u6, u7⟩ := HU.out
              rw [u2, u6, u7] at this
              exact this
            · rintro L A W K hL hC hW ⟨V, rfl, HV, s0⟩ hK
              have e2 : V 2 = .bool true := HV 2 _ rfl (hW 2 rfl)
              have e5 : V 5 = wv L0 := HV 5 _ rfl (hW 5 rfl)
              have e8 : V 8 = wv L0 := HV 8 _ rfl (hW 8 rfl)
              have hB := s0
              have H := Lib.hid (show ∀ W', Ext W W' → K (fr (upd V 9 (.bool true))) W' from fun W' he => hK _ _ ⟨upd V 9 (.bool true), rfl, HV.up 9 _ (fun x hx => Option.some.inj hx), TlJ.ext s0 he⟩)
              have HU := Lib.hid (show (upd V 9 (.bool true)) 2 = .bool true ∧ (upd V 9 (.bool true)) 5 = wv L0 ∧ (upd V 9 (.bool true)) 8 = wv L0 from ⟨e2, e5, e8⟩)
              clear hK hC hW hL HV s0
              rw [HFR.out]
              rw [e2, e5, e8]
              clear e2 e5 e8
              refine wpList_eql_word rfl (.tmp 66) (.tmp 69) rfl L0 L0 HL0.out HL0.out rfl rfl ?_
              rw [HLL.out]
              show K _ _
              have := H.out _ (Ext.refl _)
              rw [HFR.out] at this
              obtain ⟨u2, u5, u8⟩ := HU.out
              rw [u2, u5, u8] at this
              exact this
            · rintro L A W K hL hC hW ⟨V, rfl, HV, s0⟩ hK
              have e2 : V 2 = .bool true := HV 2 _ rfl (hW 2 rfl)
              have e9 : V 9 = .bool true := HV 9 _ rfl (hW 9 rfl)
              have H := Lib.hid (show ∀ W', Ext W W' → K (fr (upd V 10 (.bool true))) W' from fun W' he => hK _ _ ⟨upd V 10 (.bool true), rfl, HV.up 10 _ (fun x hx => Option.some.inj hx), TlJ.ext s0 he⟩)
              have HU := Lib.hid (show (upd V 10 (.bool true)) 2 = .bool true ∧ (upd V 10 (.bool true)) 9 = .bool true from ⟨e2, e9⟩)
              clear hK hC hW hL HV s0
              rw [HFR.out]
              rw [e2, e9]
              clear e2 e9
              go_wp2_with fail
              show K _ _
              have := H.out _ (Ext.refl _)
              rw [HFR.out] at this
              obtain ⟨u2, u9⟩ := HU.out
              rw [u2, u9] at this
              exact this
            · rintro L A W K hL hC hW ⟨V, rfl, HV, s0⟩ hK
              have e10 : V 10 = .bool true := HV 10 _ rfl (hW 10 rfl)
              have H := Lib.hid (show ∀ W', Ext W W' → K (fr (upd V 11 (.bool true))) W' from fun W' he => hK _ _ ⟨upd V 11 (.bool true), rfl, HV.up 11 _ (fun x hx => Option.some.inj hx), TlJ.ext s0 he⟩)
              have HU := Lib.hid (show (upd V 11 (.bool true)) 10 = .bool true from e10)
              clear hK hC hW hL HV s0
              rw [HFR.out]
              rw [e10]
              clear e10
              go_wp2_with fail
              show K _ _
              have := H.out _ (Ext.refl _)
              rw [HFR.out] at this
              obtain u10 := HU.out
              rw [u10] at this
              exact this
            · rintro L A W K hL hC hW ⟨V, rfl, HV, s0⟩ hK
              have e11 : V 11 = .bool true := HV 11 _ rfl (hW 11 rfl)
              have hB := s0
              have H := Lib.hid (show ∀ W', Ext W W' → K (fr (upd V 12 (.agg #[.slice A1 x.a.length c1, .slice A2 x.s.length c2, .slice A3 x.p.length c3]))) W' from fun W' he => hK _ _ ⟨upd V 12 (.agg #[.slice A1 x.a.length c1, .slice A2 x.s.length c2, .slice A3 x.p.length c3]), rfl, HV.up 12 _ (fun x hx => Option.some.inj hx), TlJ.ext s0 he⟩)
              have HU := Lib.hid (show (upd V 12 (.agg #[.slice A1 x.a.length c1, .slice A2 x.s.length c2, .slice A3 x.p.length c3])) 11 = .bool true from e11)
              clear hK hC hW hL HV s0
              rw [HFR.out]
              rw [e11]
              clear e11
              have HWD := Lib.hid hB.1
              clear hB
              refine wpList_loadX rfl (.tmp 3) rfl g1 (.slice A1 x.a.length c1) (.slice A2 x.s.length c2) (.slice A3 x.p.length c3) rfl HWD.out ?_
              show K _ _
              have := H.out _ (Ext.refl _)
              rw [HFR.out] at this
              obtain u11 := HU.out
              rw [u11] at this
              exact this
            · rintro L A W K hL hC hW ⟨V, rfl, HV, s0⟩ hK
              have e11 : V 11 = .bool true := HV 11 _ rfl (hW 11 rfl)
              have H := Lib.hid (show ∀ W', Ext W W' → K (fr (upd V 13 (.pointer (some ⟨g3, 0, none⟩)))) W' from fun W' he => hK _ _ ⟨upd V 13 (.pointer (some ⟨g3, 0, none⟩)), rfl, HV.up 13 _ (fun x hx => Option.some.inj hx), TlJ.ext s0 he⟩)
              have HU := Lib.hid (show (upd V 13 (.pointer (some ⟨g3, 0, none⟩))) 11 = .bool true from e11)
              clear hK hC hW hL HV s0
              rw [HFR.out]
              rw [e11]
              clear e11
              go_wp2_with fail
              show K _ _
              have := H.out _ (Ext.refl _)
              rw [HFR.out] at this
              obtain u11 := HU.out
              rw [u11] at this
              exact this
            · rintro L A W K hL hC hW ⟨V, rfl, HV, s0⟩ hK
              have e11 : V 11 = .bool true := HV 11 _ rfl (hW 11 rfl)
              have e13 : V 13 = .pointer (some ⟨g3, 0, none⟩) := HV 13 _ rfl (hW 13 rfl)
              have hB := s0
              have H := Lib.hid (show ∀ W', Ext W W' → K (fr (upd V 14 (.int .u64 (q.addr : Nat)))) W' from fun W' he => hK _ _ ⟨upd V 14 (.int .u64 (q.addr : Nat)), rfl, HV.up 14 _ (fun x hx => Option.some.inj hx), TlJ.ext s0 he⟩)
              have HU := Lib.hid (show (upd V 14 (.int .u64 (q.addr : Nat))) 11 = .bool true ∧ (upd V 14 (.int .u64 (q.addr : Nat))) 13 = .pointer (some ⟨g3, 0, none⟩) from ⟨e11, e13⟩)
              clear hK hC hW hL HV s0
              rw [HFR.out]
              rw [e11, e13]
              clear e11 e13
              have qq := BS.addr hB.2.2.1
              clear hB
              go_wp2_with fail
              show K _ _
              have := H.out _ (Ext.refl _)
              rw [HFR.out] at this
              obtain ⟨u11, u13⟩ := HU.out
              rw [u11, u13] at this
              exact this
            · rintro L A W K hL hC hW ⟨V, rfl, HV, s0⟩ hK
              have e11 : V 11 = .bool true := HV 11 _ rfl (hW 11 rfl)
              have e12 : V 12 = .agg #[.slice A1 x.a.length c1, .slice A2 x.s.length c2, .slice A3 x.p.length c3] := HV 12 _ rfl (hW 12 rfl)
              have e14 : V 14 = .int .u64 (q.addr : Nat) := HV 14 _ rfl (hW 14 rfl)
              have hB := s0
              have H := Lib.hid (show ∀ W', Ext W W' → K (fr (upd V 15 (.bool (!cb)))) W' from fun W' he => hK _ _ ⟨upd V 15 (.bool (!cb)), rfl, HV.up 15 _ (fun x hx => Option.some.inj hx), TlJ.ext s0 he⟩)
              have HU := Lib.hid (show (upd V 15 (.bool (!cb))) 11 = .bool true ∧ (upd V 15 (.bool (!cb))) 12 = .agg #[.slice A1 x.a.length c1, .slice A2 x.s.length c2, .slice A3 x.p.length c3] ∧ (upd V 15 (.bool (!cb))) 14 = .int .u64 (q.addr : Nat) from ⟨e11, e12, e14⟩)
              clear hK hC hW hL HV s0
              rw [HFR.out]
              rw [e11, e12, e14]
              clear e11 e12 e14
              have HBE := Lib.hid hB.2.2.2
              clear hB
              go_wp2_with fail
              refine (HWM.out _ HBE.out).mono ?_
              rintro e wx ⟨rfl, he⟩
              have := H.out _ he
              clear H
              go_wp2_with fail
              show K _ _
              rw [HFR.out] at this
              obtain ⟨u11, u12, u14⟩ := HU.out
              rw [u11, u12, u14] at this
              exact this
            · rintro L A W K hL hC hW ⟨V, rfl, HV, s0⟩ hK
              have e11 : V 11 = .bool true := HV 11 _ rfl (hW 11 rfl)
              have H := Lib.hid (show ∀ W', Ext W W' → K (fr (upd V 16 (.bool true))) W' from fun W' he => hK _ _ ⟨upd V 16 (.bool true), rfl, HV.up 16 _ (fun x hx => Option.some.inj hx), TlJ.ext s0 he⟩)
              have HU := Lib.hid (show (upd V 16 (.bool true)) 11 = .bool true from e11)
              clear hK hC hW hL HV s0
              rw [HFR.out]
              rw [e11]
              clear e11
              go_wp2_with fail
              show K _ _
              have := H.out _ (Ext.refl _)
              rw [HFR.out] at this
              obtain u11 := HU.out
              rw [u11] at this
              exact this
            · rintro L A W K hL hC hW ⟨V, rfl, HV, s0⟩ hK
              have e11 : V 11 = .bool true := HV 11 _ rfl (hW 11 rfl)
              have e16 : V 16 = .bool true := HV 16 _ rfl (hW 16 rfl)
              have H := Lib.hid (show ∀ W', Ext W W' → K (fr (upd V 17 (.bool true))) W' from fun W' he => hK _ _ ⟨upd V 17 (.bool true), rfl, HV.up 17 _ (fun x hx => Option.some.inj hx), TlJ.ext s0 he⟩)
              have HU := Lib.hid (show (upd V 17 (.bool true)) 11 = .bool true ∧ (upd V 17 (.bool true)) 16 = .bool true from ⟨e11, e16⟩)
              clear hK hC hW hL HV s0
              rw [HFR.out]
              rw [e11, e16]
              clear e11 e16
              go_wp2_with fail
              show K _ _
              have := H.out _ (Ext.refl _)
              rw [HFR.out] at this
              obtain ⟨u11, u16⟩ := HU.out
              rw [u11, u16] at this
              exact this
            · rintro L A W K hL hC hW ⟨V, rfl, HV, s0⟩ hK
              have e17 : V 17 = .bool true := HV 17 _ rfl (hW 17 rfl)
              have H := Lib.hid (show ∀ W', Ext W W' → K (fr (upd V 18 (.bool cb))) W' from fun W' he => hK _ _ ⟨upd V 18 (.bool cb), rfl, HV.up 18 _ (fun x hx => Option.some.inj hx), TlJ.ext s0 he⟩)
              have HU := Lib.hid (show (upd V 18 (.bool cb)) 17 = .bool true from e17)
              clear hK hC hW hL HV s0
              rw [HFR.out]
              rw [e17]
              clear e17
              go_wp2_with fail
              show K _ _
              have := H.out _ (Ext.refl _)
              rw [HFR.out] at this
              obtain u17 := HU.out
              rw [u17] at this
              exact this
            · rintro L A W K hL hC hW ⟨V, rfl, HV, s0⟩ hK
              have e17 : V 17 = .bool true := HV 17 _ rfl (hW 17 rfl)
              have e18 : V 18 = .bool cb := HV 18 _ rfl (hW 18 rfl)
              have H := Lib.hid (show ∀ W', Ext W W' → K (fr (upd V 19 (.bool (!cb)))) W' from fun W' he => hK _ _ ⟨upd V 19 (.bool (!cb)), rfl, HV.up 19 _ (fun x hx => Option.some.inj hx), TlJ.ext s0 he⟩)
              have HU := Lib.hid (show (upd V 19 (.bool (!cb))) 17 = .bool true ∧ (upd V 19 (.bool (!cb))) 18 = .bool cb from ⟨e17, e18⟩)
              clear hK hC hW hL HV s0
              rw [HFR.out]
              rw [e17, e18]
              clear e17 e18
              go_wp2_with fail
              show K _ _
              have := H.out _ (Ext.refl _)
              rw [HFR.out] at this
              obtain ⟨u17, u18⟩ := HU.out
              rw [u17, u18] at this
              exact this
            · rintro L A W K hL hC hW ⟨V, rfl, HV, s0⟩ hK
              have e11 : V 11 = .bool true := HV 11 _ rfl (hW 11 rfl)
              have e17 : V 17 = .bool true := HV 17 _ rfl (hW 17 rfl)
              have e19 : V 19 = .bool (!cb) := HV 19 _ rfl (hW 19 rfl)
              have H := Lib.hid (show ∀ W', Ext W W' → K (fr (upd V 20 (.bool (!cb)))) W' from fun W' he => hK _ _ ⟨upd V 20 (.bool (!cb)), rfl, HV.up 20 _ (fun x hx => Option.some.inj hx), TlJ.ext s0 he⟩)
              have HU := Lib.hid (show (upd V 20 (.bool (!cb))) 11 = .bool true ∧ (upd V 20 (.bool (!cb))) 17 = .bool true ∧ (upd V 20 (.bool (!cb))) 19 = .bool (!cb) from ⟨e11, e17, e19⟩)
              clear hK hC hW hL HV s0
              rw [HFR.out]
              rw [e11, e17, e19]
              clear e11 e17 e19
              go_wp2_with fail
              show K _ _
              have := H.out _ (Ext.refl _)
              rw [HFR.out] at this
              obtain ⟨u11, u17, u19⟩ := HU.out
              rw [u11, u17, u19] at this
              exact this
            · rintro L A W K hL hC hW ⟨V, rfl, HV, s0⟩ hK
              have e11 : V 11 = .bool true := HV 11 _ rfl (hW 11 rfl)
              have e15 : V 15 = .bool (!cb) := HV 15 _ rfl (hW 15 rfl)
              have e20 : V 20 = .bool (!cb) := HV 20 _ rfl (hW 20 rfl)
              have hB := s0
              have H := Lib.hid (show ∀ W', Ext W W' → K (fr (upd V 21 (.bool true))) W' from fun W' he => hK _ _ ⟨upd V 21 (.bool true), rfl, HV.up 21 _ (fun x hx => Option.some.inj hx), TlJ.ext s0 he⟩)
              have HU := Lib.hid (show (upd V 21 (.bool true)) 11 = .bool true ∧ (upd V 21 (.bool true)) 15 = .bool (!cb) ∧ (upd V 21 (.bool true)) 20 = .bool (!cb) from ⟨e11, e15, e20⟩)
              clear hK hC hW hL HV s0
              rw [HFR.out]
              rw [e11, e15, e20]
              clear e11 e15 e20
              have hbb : ((!cb) == (!cb)) = true := beq_self_eq_true _
              clear hB
              go_wp2_with fail
              show K _ _
              have := H.out _ (Ext.refl _)
              rw [HFR.out] at this
              obtain ⟨u11, u15, u20⟩ := HU.out
              rw [u11, u15, u20] at this
              exact this
            · rintro L A W K hL hC hW ⟨V, rfl, HV, s0⟩ hK
              have e11 : V 11 = .bool true := HV 11 _ rfl (hW 11 rfl)
              have e21 : V 21 = .bool true := HV 21 _ rfl (hW 21 rfl)
              have H := Lib.hid (show ∀ W', Ext W W' → K (fr (upd V 22 (.bool true))) W' from fun W' he => hK _ _ ⟨upd V 22 (.bool true), rfl, HV.up 22 _ (fun x hx => Option.some.inj hx), TlJ.ext s0 he⟩)
              have HU := Lib.hid (show (upd V 22 (.bool true)) 11 = .bool true ∧ (upd V 22 (.bool true)) 21 = .bool true from ⟨e11, e21⟩)
              clear hK hC hW hL HV s0
              rw [HFR.out]
              rw [e11, e21]
              clear e11 e21
              go_wp2_with fail
              show K _ _
              have := H.out _ (Ext.refl _)
              rw [HFR.out] at this
              obtain ⟨u11, u21⟩ := HU.out
              rw [u11, u21] at this
              exact this
            · rintro L A W K hL hC hW ⟨V, rfl, HV, s0⟩ hK
              have e22 : V 22 = .bool true := HV 22 _ rfl (hW 22 rfl)
              have H := Lib.hid (show ∀ W', Ext W W' → K (fr (upd V 23 (.bool true))) W' from fun W' he => hK _ _ ⟨upd V 23 (.bool true), rfl, HV.up 23 _ (fun x hx => Option.some.inj hx), TlJ.ext s0 he⟩)
              have HU := Lib.hid (show (upd V 23 (.bool true)) 22 = .bool true from e22)
              clear hK hC hW hL HV s0
              rw [HFR.out]
              rw [e22]
              clear e22
              go_wp2_with fail
              show K _ _
              have := H.out _ (Ext.refl _)
              rw [HFR.out] at this
              obtain u22 := HU.out
              rw [u22] at this
              exact this
            · rintro L A W hL ⟨V, rfl, HV, s0⟩
              have e0 : V 0 = .int .i64 0 := HV 0 _ rfl (hL 0 (by simp))
              have e1 : V 1 = .bool true := HV 1 _ rfl (hL 1 (by simp))
              have e2 : V 2 = .bool true := HV 2 _ rfl (hL 2 (by simp))
              have e3 : V 3 = .agg #[.slice A1 x.a.length c1, .slice A2 x.s.length c2, .slice A3 x.p.length c3] := HV 3 _ rfl (hL 3 (by simp))
              have e4 : V 4 = .agg (cS q) := HV 4 _ rfl (hL 4 (by simp))
              have e5 : V 5 = wv L0 := HV 5 _ rfl (hL 5 (by simp))
              have e6 : V 6 = .agg #[.slice A1 x.a.length c1, .slice A2 x.s.length c2, .slice A3 x.p.length c3] := HV 6 _ rfl (hL 6 (by simp))
              have e7 : V 7 = .agg (cS q) := HV 7 _ rfl (hL 7 (by simp))
              have e8 : V 8 = wv L0 := HV 8 _ rfl (hL 8 (by simp))
              have e9 : V 9 = .bool true := HV 9 _ rfl (hL 9 (by simp))
              have e10 : V 10 = .bool true := HV 10 _ rfl (hL 10 (by simp))
              have e11 : V 11 = .bool true := HV 11 _ rfl (hL 11 (by simp))
              have e12 : V 12 = .agg #[.slice A1 x.a.length c1, .slice A2 x.s.length c2, .slice A3 x.p.length c3] := HV 12 _ rfl (hL 12 (by simp))
              have e13 : V 13 = .pointer (some ⟨g3, 0, none⟩) := HV 13 _ rfl (hL 13 (by simp))
              have e14 : V 14 = .int .u64 (q.addr : Nat) := HV 14 _ rfl (hL 14 (by simp))
              have e15 : V 15 = .bool (!cb) := HV 15 _ rfl (hL 15 (by simp))
              have e16 : V 16 = .bool true := HV 16 _ rfl (hL 16 (by simp))
              have e17 : V 17 = .bool true := HV 17 _ rfl (hL 17 (by simp))
              have e18 : V 18 = .bool cb := HV 18 _ rfl (hL 18 (by simp))
              have e19 : V 19 = .bool (!cb) := HV 19 _ rfl (hL 19 (by simp))
              have e20 : V 20 = .bool (!cb) := HV 20 _ rfl (hL 20 (by simp))
              have e21 : V 21 = .bool true := HV 21 _ rfl (hL 21 (by simp))
              have e22 : V 22 = .bool true := HV 22 _ rfl (hL 22 (by simp))
              have e23 : V 23 = .bool true := HV 23 _ rfl (hL 23 (by simp))
              have hA := s0
              rw [HFR.out]
              rw [e0, e1, e2, e3, e4, e5, e6, e7, e8, e9, e10, e11, e12, e13, e14, e15, e16, e17, e18, e19, e20, e21, e22, e23]
              clear hL HV HFR e0 e1 e2 e3 e4 e5 e6 e7 e8 e9 e10 e11 e12 e13 e14 e15 e16 e17 e18 e19 e20 e21 e22 e23 s0
              have HE := Lib.hid hA.2.2.2
              clear hA
              go_wp2_with fail
              refine bodyPost_ret (results_tmp rfl _ _ _) rfl ?_
              exact ⟨rfl, HE.out⟩
          | false =>
            rw [Bool.false_and] at HWM
            refine wp_named fun a0 ha0 => ?_
            obtain ⟨fr, hfr⟩ : ∃ fr : (Nat → Value) → Act, ∀ V, fr V = ((((((((((((((((((((((((a0.put (some 61) (V 0)).put (some 62) (V 1)).put (some 63) (V 2)).put (some 64) (V 3)).put (some 65) (V 4)).put (some 66) (V 5)).put (some 67) (V 6)).put (some 68) (V 7)).put (some 69) (V 8)).put (some 70) (V 9)).put (some 71) (V 10)).put (some 72) (V 11)).put (some 73) (V 12)).put (some 74) (V 13)).put (some 75) (V 14)).put (some 76) (V 15)).put (some 77) (V 16)).put (some 78) (V 17)).put (some 79) (V 18)).put (some 80) (V 19)).put (some 81) (V 20)).put (some 82) (V 21)).put (some 83) (V 22)).put (some 6) (V 23)) := ⟨fun V => ((((((((((((((((((((((((a0.put (some 61) (V 0)).put (some 62) (V 1)).put (some 63) (V 2)).put (some 64) (V 3)).put (some 65) (V 4)).put (some 66) (V 5)).put (some 67) (V 6)).put (some 68) (V 7)).put (some 69) (V 8)).put (some 70) (V 9)).put (some 71) (V 10)).put (some 72) (V 11)).put (some 73) (V 12)).put (some 74) (V 13)).put (some 75) (V 14)).put (some 76) (V 15)).put (some 77) (V 16)).put (some 78) (V 17)).put (some 79) (V 18)).put (some 80) (V 19)).put (some 81) (V 20)).put (some 82) (V 21)).put (some 83) (V 22)).put (some 6) (V 23)), fun _ => rfl⟩
            rw [ha0] at hfr
            simp only [Act.put, List.setIfInBounds_toArray, List.set_cons_zero, List.set_cons_succ] at hfr
            have HFR := Lib.hid hfr
            clear hfr
            refine wp_region_inv (by kernel_rfl) (by kernel_rfl) (fun L A W => ∃ V : Nat → Value, A = fr V ∧ Vals (fun j => ([some (.int .i64 0), some (.bool true), some (.bool true), some (.agg #[.slice A1 x.a.length c1, .slice A2 x.s.length c2, .slice A3 x.p.length c3]), some (.agg (cS q)), some (wv L0), some (.agg #[.slice A1 x.a.length c1, .slice A2 x.s.length c2, .slice A3 x.p.length c3]), some (.agg (cS q)), some (wv L0), some (.bool true), some (.bool true), some (.bool true), some (.agg #[.slice A1 x.a.length c1, .slice A2 x.s.length c2, .slice A3 x.p.length c3]), some (.pointer (some ⟨g3, 0, none⟩)), some (.int .u64 (q.addr : Nat)), some (.bool false), some (.bool false), some (.bool false), some (undef), some (undef), some (.bool false), some (.bool true), some (.bool true), some (.bool true)] : List (Option Value)).getD j none) L V ∧ (TlJ w g1 g2 g3 #[.slice A1 x.a.length c1, .slice A2 x.s.length c2, .slice A3 x.p.length c3] #[.slice B1 y.a.length d1, .slice B2 y.s.length d2, .slice B3 y.p.length d3] q W)) ?_ ⟨?_, ?_, ?_, ?_, ?_, ?_, ?_, ?_, ?_, ?_, ?_, ?_, ?_, ?_, ?_, ?_, ?_, ?_, ?_, ?_, ?_, ?_, ?_, ?_, trivial⟩ ?_
            · refine ⟨fun j => a0.tmps.getD (([61, 62, 63, 64, 65, 66, 67, 68, 69, 70, 71, 72, 73, 74, 75, 76, 77, 78, 79, 80, 81, 82, 83, 6] : List Nat).getD j 0) undef, ?_, Vals.no _ _ _ (far_none _ _ rfl), HJ.out.ext (Ext.refl _).drew⟩
              rw [HFR.out, ha0]
              rfl
            all_goals clear ha0
            · rintro L A W K hL hC hW ⟨V, rfl, HV, s0⟩ hK
              have H := Lib.hid (show ∀ W', Ext W W' → K (fr (upd V 0 (.int .i64 0))) W' from fun W' he => hK _ _ ⟨upd V 0 (.int .i64 0), rfl, HV.up 0 _ (fun x hx => Option.some.inj hx), TlJ.ext s0 he⟩)
              clear hK hC hW hL HV s0
              rw [HFR.out]
              go_wp2_with fail
              show K _ _
              have := H.out _ (Ext.refl _)
              rw [HFR.out] at this
              exact this
            · rintro L A W K hL hC hW ⟨V, rfl, HV, s0⟩ hK
              have e0 : V 0 = .int .i64 0 := HV 0 _ rfl (hW 0 rfl)
              have H := Lib.hid (show ∀ W', Ext W W' → K (fr (upd V 1 (.bool true))) W' from fun W' he => hK _ _ ⟨upd V 1 (.bool true), rfl, HV.up 1 _ (fun x hx => Option.some.inj hx), TlJ.ext s0 he⟩)
              have HU := Lib.hid (show (upd V 1 (.bool true)) 0 = .int .i64 0 from e0)
              clear hK hC hW hL HV s0
              rw [HFR.out]
              rw [e0]
              clear e0
              go_wp2_with fail
              show K _ _
              have := H.out _ (Ext.refl _)
              rw [HFR.out] at this
              obtain u0 := HU.out
              rw [u0] at this
              exact this
            · rintro L A W K hL hC hW ⟨V, rfl, HV, s0⟩ hK
              have e1 : V 1 = .bool true := HV 1 _ rfl (hW 1 rfl)
              have H := Lib.hid (show ∀ W', Ext W W' → K (fr (upd V 2 (.bool true))) W' from fun W' he => hK _ _ ⟨upd V 2 (.bool true), rfl, HV.up 2 _ (fun x hx => Option.some.inj hx), TlJ.ext s0 he⟩)
              have HU := Lib.hid (show (upd V 2 (.bool true)) 1 = .bool true from e1)
              clear hK hC hW hL HV s0
              rw [HFR.out]
              rw [e1]
              clear e1
              go_wp2_with fail
              show K _ _
              have := H.out _ (Ext.refl _)
              rw [HFR.out] at this
              obtain u1 := HU.out
              rw [u1] at this
              exact this
            · rintro L A W K hL hC hW ⟨V, rfl, HV, s0⟩ hK
              have e2 : V 2 = .bool true := HV 2 _ rfl (hW 2 rfl)
              have hB := s0
              have H := Lib.hid (show ∀ W', Ext W W' → K (fr (upd V 3 (.agg #[.slice A1 x.a.length c1, .slice A2 x.s.length c2, .slice A3 x.p.length c3]))) W' from fun W' he => hK _ _ ⟨upd V 3 (.agg #[.slice A1 x.a.length c1, .slice A2 x.s.length c2, .slice A3 x.p.length c3]), rfl, HV.up 3 _ (fun x hx => Option.some.inj hx), TlJ.ext s0 he⟩)
              have HU := Lib.hid (show (upd V 3 (.agg #[.slice A1 x.a.length c1, .slice A2 x.s.length c2, .slice A3 x.p.length c3])) 2 = .bool true from e2)
              clear hK hC hW hL HV s0
              rw [HFR.out]
              rw [e2]
              clear e2
              have HWD := Lib.hid hB.1
              clear hB
              refine wpList_loadX rfl (.tmp 3) rfl g1 (.slice A1 x.a.length c1) (.slice A2 x.s.length c2) (.slice A3 x.p.length c3) rfl HWD.out ?_
              show K _ _
              have := H.out _ (Ext.refl _)
              rw [HFR.out] at this
              obtain u2 := HU.out
              rw [u2] at this
              exact this
            · rintro L A W K hL hC hW ⟨V, rfl, HV, s0⟩ hK
              have e2 : V 2 = .bool true := HV 2 _ rfl (hW 2 rfl)
              have hB := s0
              have H := Lib.hid (show ∀ W', Ext W W' → K (fr (upd V 4 (.agg (cS q)))) W' from fun W' he => hK _ _ ⟨upd V 4 (.agg (cS q)), rfl, HV.up 4 _ (fun x hx => Option.some.inj hx), TlJ.ext s0 he⟩)
              have HU := Lib.hid (show (upd V 4 (.agg (cS q))) 2 = .bool true from e2)
              clear hK hC hW hL HV s0
              rw [HFR.out]
              rw [e2]
              clear e2
              have HWD := Lib.hid (Cs.rg hB.2.2.1)
              clear hB
              refine wpList_loadS rfl (.tmp 5) rfl g3 0 q rfl HWD.out ?_
              show K _ _
              have := H.out _ (Ext.refl _)
              rw [HFR.out] at this
              obtain u2 := HU.out
              rw [u2] at this
              exact this
            · rintro L A W K hL hC hW ⟨V, rfl, HV, s0⟩ hK
              have e2 : V 2 = .bool true := HV 2 _ rfl (hW 2 rfl)
              have e3 : V 3 = .agg #[.slice A1 x.a.length c1, .slice A2 x.s.length c2, .slice A3 x.p.length c3] := HV 3 _ rfl (hW 3 rfl)
              have e4 : V 4 = .agg (cS q) := HV 4 _ rfl (hW 4 rfl)
              have hB := s0
              have H := Lib.hid (show ∀ W', Ext W W' → K (fr (upd V 5 (wv L0))) W' from fun W' he => hK _ _ ⟨upd V 5 (wv L0), rfl, HV.up 5 _ (fun x hx => Option.some.inj hx), TlJ.ext s0 he⟩)
              have HU := Lib.hid (show (upd V 5 (wv L0)) 2 = .bool true ∧ (upd V 5 (wv L0)) 3 = .agg #[.slice A1 x.a.length c1, .slice A2 x.s.length c2, .slice A3 x.p.length c3] ∧ (upd V 5 (wv L0)) 4 = .agg (cS q) from ⟨e2, e3, e4⟩)
              clear hK hC hW hL HV s0
              rw [HFR.out]
              rw [e2, e3, e4]
              clear e2 e3 e4
              have HBE := Lib.hid hB.2.2.2
              clear hB
              go_wp2_with fail
              refine (HLA.out _ HBE.out).mono ?_
              rintro e wx ⟨rfl, he⟩
              have := H.out _ he
              clear H
              go_wp2_with fail
              show K _ _
              rw [HFR.out] at this
              obtain ⟨u2, u3, u4⟩ := HU.out
              rw [u2, u3, u4] at this
              exact this
            · rintro L A W K hL hC hW ⟨V, rfl, HV, s0⟩ hK
              have e2 : V 2 = .bool true := HV 2 _ rfl (hW 2 rfl)
              have hB := s0
              have H := Lib.hid (show ∀ W', Ext W W' → K (fr (upd V 6 (.agg #[.slice A1 x.a.length c1, .slice A2 x.s.length c2, .slice A3 x.p.length c3]))) W' from fun W' he => hK _ _ ⟨upd V 6 (.agg #[.slice A1 x.a.length c1, .slice A2 x.s.length c2, .slice A3 x.p.length c3]), rfl, HV.up 6 _ (fun x hx => Option.some.inj hx), TlJ.ext s0 he⟩)
              have HU := Lib.hid (show (upd V 6 (.agg #[.slice A1 x.a.length c1, .slice A2 x.s.length c2, .slice A3 x.p.length c3])) 2 = .bool true from e2)
              clear hK hC hW hL HV s0
              rw [HFR.out]
              rw [e2]
              clear e2
              have HWD := Lib.hid hB.1
              clear hB
              refine wpList_loadX rfl (.tmp 3) rfl g1 (.slice A1 x.a.length c1) (.slice A2 x.s.length c2) (.slice A3 x.p.length c3) rfl HWD.out ?_
              show K _ _
              have := H.out _ (Ext.refl _)
              rw [HFR.out] at this
              obtain u2 := HU.out
              rw [u2] at this
              exact this
            · rintro L A W K hL hC hW ⟨V, rfl, HV, s0⟩ hK
              have e2 : V 2 = .bool true := HV 2 _ rfl (hW 2 rfl)
              have hB := s0
              have H := Lib.hid (show ∀ W', Ext W W' → K (fr (upd V 7 (.agg (cS q)))) W' from fun W' he => hK _ _ ⟨upd V 7 (.agg (cS q)), rfl, HV.up 7 _ (fun x hx => Option.some.inj hx), TlJ.ext s0 he⟩)
              have HU := Lib.hid (show (upd V 7 (.agg (cS q))) 2 = .bool true from e2)
              clear hK hC hW hL HV s0
              rw [HFR.out]
              rw [e2]
              clear e2
              have HWD := Lib.hid (Cs.rg hB.2.2.1)
              clear hB
              refine wpList_loadS rfl (.tmp 5) rfl g3 0 q rfl HWD.out ?_
              show K _ _
              have := H.out _ (Ext.refl _)
              rw [HFR.out] at this
              obtain u2 := HU.out
              rw [u2] at this
              exact this
            · rintro L A W K hL hC hW ⟨V, rfl, HV, s0⟩ hK
              have e2 : V 2 = .bool true := HV 2 _ rfl (hW 2 rfl)
              have e6 : V 6 = .agg #[.slice A1 x.a.length c1, .slice A2 x.s.length c2, .slice A3 x.p.length c3] := HV 6 _ rfl (hW 6 rfl)
              have e7 : V 7 = .agg (cS q) := HV 7 _ rfl (hW 7 rfl)
              have hB := s0
              have H := Lib.hid (show ∀ W', Ext W W' → K (fr (upd V 8 (wv L0))) W' from fun W' he => hK _ _ ⟨upd V 8 (wv L0), rfl, HV.up 8 _ (fun x hx => Option.some.inj hx), TlJ.ext s0 he⟩)
              have HU := Lib.hid (show (upd V 8 (wv L0)) 2 = .bool true ∧ (upd V 8 (wv L0)) 6 = .agg #[.slice A1 x.a.length c1, .slice A2 x.s.length c2, .slice A3 x.p.length c3] ∧ (upd V 8 (wv L0)) 7 = .agg (cS q) from ⟨e2, e6, e7⟩)
              clear hK hC hW hL HV s0
              rw [HFR.out]
              rw [e2, e6, e7]
              clear e2 e6 e7
              have HBE := Lib.hid hB.2.2.2
              clear hB
              go_wp2_with fail
              refine (HLB.out _ HBE.out).mono ?_
              rintro e wx ⟨rfl, he⟩
              have := H.out _ he
              clear H
              go_wp2_with fail
              show K _ _
              rw [HFR.out] at this
              obtain ⟨u2, u6, u7⟩ := HU.out
              rw [u2, u6, u7] at this
              exact this
            · rintro L A W K hL hC hW ⟨V, rfl, HV, s0⟩ hK
              have e2 : V 2 = .bool true := HV 2 _ rfl (hW 2 rfl)
              have e5 : V 5 = wv L0 := HV 5 _ rfl (hW 5 rfl)
              have e8 : V 8 = wv L0 := HV 8 _ rfl (hW 8 rfl)
              have hB := s0
              have H := Lib.hid (show ∀ W', Ext W W' → K (fr (upd V 9 (.bool true))) W' from fun W' he => hK _ _ ⟨upd V 9 (.bool true), rfl, HV.up 9 _ (fun x hx => Option.some.inj hx), TlJ.ext s0 he⟩)
              have HU := Lib.hid (show (upd V 9 (.bool true)) 2 = .bool true ∧ (upd V 9 (.bool true)) 5 = wv L0 ∧ (upd V 9 (.bool true)) 8 = wv L0 from ⟨e2, e5, e8⟩)
              clear hK hC hW hL HV s0
              rw [HFR.out]
              rw [e2, e5, e8]
              clear e2 e5 e8
              refine wpList_eql_word rfl (.tmp 66) (.tmp 69) rfl L0 L0 HL0.out HL0.out rfl rfl ?_
              rw [HLL.out]
              show K _ _
              have := H.out _ (Ext.refl _)
              rw [HFR.out] at this
              obtain ⟨u2, u5, u8⟩ := HU.out
              rw [u2, u5, u8] at this
              exact this
            · rintro L A W K hL hC hW ⟨V, rfl, HV, s0⟩ hK
              have e2 : V 2 = .bool true := HV 2 _ rfl (hW 2 rfl)
              have e9 : V 9 = .bool true := HV 9 _ rfl (hW 9 rfl)
              have H := Lib.hid (show ∀ W', Ext W W' → K (fr (upd V 10 (.bool true))) W' from fun W' he => hK _ _ ⟨upd V 10 (.bool true), rfl, HV.up 10 _ (fun x hx => Option.some.inj hx), TlJ.ext s0 he⟩)
              have HU := Lib.hid (show (upd V 10 (.bool true)) 2 = .bool true ∧ (upd V 10 (.bool true)) 9 = .bool true from ⟨e2, e9⟩)
              clear hK hC hW hL HV s0
              rw [HFR.out]
              rw [e2, e9]
              clear e2 e9
              go_wp2_with fail
              show K _ _
              have := H.out _ (Ext.refl _)
              rw [HFR.out] at this
              obtain ⟨u2, u9⟩ := HU.out
              rw [u2, u9] at this
              exact this
            · rintro L A W K hL hC hW ⟨V, rfl, HV, s0⟩ hK
              have e10 : V 10 = .bool true := HV 10 _ rfl (hW 10 rfl)
              have H := Lib.hid (show ∀ W', Ext W W' → K (fr (upd V 11 (.bool true))) W' from fun W' he => hK _ _ ⟨upd V 11 (.bool true), rfl, HV.up 11 _ (fun x hx => Option.some.inj hx), TlJ.ext s0 he⟩)
              have HU := Lib.hid (show (upd V 11 (.bool true)) 10 = .bool true from e10)
              clear hK hC hW hL HV s0
              rw [HFR.out]
              rw [e10]
              clear e10
              go_wp2_with fail
              show K _ _
              have := H.out _ (Ext.refl _)
              rw [HFR.out] at this
              obtain u10 := HU.out
              rw [u10] at this
              exact this
            · rintro L A W K hL hC hW ⟨V, rfl, HV, s0⟩ hK
              have e11 : V 11 = .bool true := HV 11 _ rfl (hW 11 rfl)
              have hB := s0
              have H := Lib.hid (show ∀ W', Ext W W' → K (fr (upd V 12 (.agg #[.slice A1 x.a.length c1, .slice A2 x.s.length c2, .slice A3 x.p.length c3]))) W' from fun W' he => hK _ _ ⟨upd V 12 (.agg #[.slice A1 x.a.length c1, .slice A2 x.s.length c2, .slice A3 x.p.length c3]), rfl, HV.up 12 _ (fun x hx => Option.some.inj hx), TlJ.ext s0 he⟩)
              have HU := Lib.hid (show (upd V 12 (.agg #[.slice A1 x.a.length c1, .slice A2 x.s.length c2, .slice A3 x.p.length c3])) 11 = .bool true from e11)
              clear hK hC hW hL HV s0
              rw [HFR.out]
              rw [e11]
              clear e11
              have HWD := Lib.hid hB.1
              clear hB
              refine wpList_loadX rfl (.tmp 3) rfl g1 (.slice A1 x.a.length c1) (.slice A2 x.s.length c2) (.slice A3 x.p.length c3) rfl HWD.out ?_
              show K _ _
              have := H.out _ (Ext.refl _)
              rw [HFR.out] at this
              obtain u11 := HU.out
              rw [u11] at this
              exact this
            · rintro L A W K hL hC hW ⟨V, rfl, HV, s0⟩ hK
              have e11 : V 11 = .bool true := HV 11 _ rfl (hW 11 rfl)
              have H := Lib.hid (show ∀ W', Ext W W' → K (fr (upd V 13 (.pointer (some ⟨g3, 0, none⟩)))) W' from fun W' he => hK _ _ ⟨upd V 13 (.pointer (some ⟨g3, 0, none⟩)), rfl, HV.up 13 _ (fun x hx => Option.some.inj hx), TlJ.ext s0 he⟩)
              have HU := Lib.hid (show (upd V 13 (.pointer (some ⟨g3, 0, none⟩))) 11 = .bool true from e11)
              clear hK hC hW hL HV s0
              rw [HFR.out]
              rw [e11]
              clear e11
              go_wp2_with fail
              show K _ _
              have := H.out _ (Ext.refl _)
              rw [HFR.out] at this
              obtain u11 := HU.out
              rw [u11] at this
              exact this
            · rintro L A W K hL hC hW ⟨V, rfl, HV, s0⟩ hK
              have e11 : V 11 = .bool true := HV 11 _ rfl (hW 11 rfl)
              have e13 : V 13 = .pointer (some ⟨g3, 0, none⟩) := HV 13 _ rfl (hW 13 rfl)
              have hB := s0
              have H := Lib.hid (show ∀ W', Ext W W' → K (fr (upd V 14 (.int .u64 (q.addr : Nat)))) W' from fun W' he => hK _ _ ⟨upd V 14 (.int .u64 (q.addr : Nat)), rfl, HV.up 14 _ (fun x hx => Option.some.inj hx), TlJ.ext s0 he⟩)
              have HU := Lib.hid (show (upd V 14 (.int .u64 (q.addr : Nat))) 11 = .bool true ∧ (upd V 14 (.int .u64 (q.addr : Nat))) 13 = .pointer (some ⟨g3, 0, none⟩) from ⟨e11, e13⟩)
              clear hK hC hW hL HV s0
              rw [HFR.out]
              rw [e11, e13]
              clear e11 e13
              have qq := BS.addr hB.2.2.1
              clear hB
              go_wp2_with fail
              show K _ _
              have := H.out _ (Ext.refl _)
              rw [HFR.out] at this
              obtain ⟨u11, u13⟩ := HU.out
              rw [u11, u13] at this
              exact this
            · rintro L A W K hL hC hW ⟨V, rfl, HV, s0⟩ hK
              have e11 : V 11 = .bool true := HV 11 _ rfl (hW 11 rfl)
              have e12 : V 12 = .agg #[.slice A1 x.a.length c1, .slice A2 x.s.length c2, .slice A3 x.p.length c3] := HV 12 _ rfl (hW 12 rfl)
              have e14 : V 14 = .int .u64 (q.addr : Nat) := HV 14 _ rfl (hW 14 rfl)
              have hB := s0
              have H := Lib.hid (show ∀ W', Ext W W' → K (fr (upd V 15 (.bool false))) W' from fun W' he => hK _ _ ⟨upd V 15 (.bool false), rfl, HV.up 15 _ (fun x hx => Option.some.inj hx), TlJ.ext s0 he⟩)
              have HU := Lib.hid (show (upd V 15 (.bool false)) 11 = .bool true ∧ (upd V 15 (.bool false)) 12 = .agg #[.slice A1 x.a.length c1, .slice A2 x.s.length c2, .slice A3 x.p.length c3] ∧ (upd V 15 (.bool false)) 14 = .int .u64 (q.addr : Nat) from ⟨e11, e12, e14⟩)
              clear hK hC hW hL HV s0
              rw [HFR.out]
              rw [e11, e12, e14]
              clear e11 e12 e14
              have HBE := Lib.hid hB.2.2.2
              clear hB
              go_wp2_with fail
              refine (HWM.out _ HBE.out).mono ?_
              rintro e wx ⟨rfl, he⟩
              have := H.out _ he
              clear H
              go_wp2_with fail
              show K _ _
              rw [HFR.out] at this
              obtain ⟨u11, u12, u14⟩ := HU.out
              rw [u11, u12, u14] at this
              exact this
            · rintro L A W K hL hC hW ⟨V, rfl, HV, s0⟩ hK
              have e11 : V 11 = .bool true := HV 11 _ rfl (hW 11 rfl)
              have H := Lib.hid (show ∀ W', Ext W W' → K (fr (upd V 16 (.bool false))) W' from fun W' he => hK _ _ ⟨upd V 16 (.bool false), rfl, HV.up 16 _ (fun x hx => Option.some.inj hx), TlJ.ext s0 he⟩)
              have HU := Lib.hid (show (upd V 16 (.bool false)) 11 = .bool true from e11)
              clear hK hC hW hL HV s0
              rw [HFR.out]
              rw [e11]
              clear e11
              go_wp2_with fail
              show K _ _
              have := H.out _ (Ext.refl _)
              rw [HFR.out] at this
              obtain u11 := HU.out
              rw [u11] at this
              exact this
            · rintro L A W K hL hC hW ⟨V, rfl, HV, s0⟩ hK
              have e11 : V 11 = .bool true := HV 11 _ rfl (hW 11 rfl)
              have e16 : V 16 = .bool false := HV 16 _ rfl (hW 16 rfl)
              have H := Lib.hid (show ∀ W', Ext W W' → K (fr (upd V 17 (.bool false))) W' from fun W' he => hK _ _ ⟨upd V 17 (.bool false), rfl, HV.up 17 _ (fun x hx => Option.some.inj hx), TlJ.ext s0 he⟩)
              have HU := Lib.hid (show (upd V 17 (.bool false)) 11 = .bool true ∧ (upd V 17 (.bool false)) 16 = .bool false from ⟨e11, e16⟩)
              clear hK hC hW hL HV s0
              rw [HFR.out]
              rw [e11, e16]
              clear e11 e16
              go_wp2_with fail
              show K _ _
              have := H.out _ (Ext.refl _)
              rw [HFR.out] at this
              obtain ⟨u11, u16⟩ := HU.out
              rw [u11, u16] at this
              exact this
            · rintro L A W K hL hC hW ⟨V, rfl, HV, s0⟩ hK
              have e17 : V 17 = .bool false := HV 17 _ rfl (hW 17 rfl)
              have H := Lib.hid (show ∀ W', Ext W W' → K (fr (upd V 18 (undef))) W' from fun W' he => hK _ _ ⟨upd V 18 (undef), rfl, HV.up 18 _ (fun x hx => Option.some.inj hx), TlJ.ext s0 he⟩)
              have HU := Lib.hid (show (upd V 18 (undef)) 17 = .bool false from e17)
              clear hK hC hW hL HV s0
              rw [HFR.out]
              rw [e17]
              clear e17
              go_wp2_with fail
              show K _ _
              have := H.out _ (Ext.refl _)
              rw [HFR.out] at this
              obtain u17 := HU.out
              rw [u17] at this
              exact this
            · rintro L A W K hL hC hW ⟨V, rfl, HV, s0⟩ hK
              have e17 : V 17 = .bool false := HV 17 _ rfl (hW 17 rfl)
              have e18 : V 18 = undef := HV 18 _ rfl (hW 18 rfl)
              have H := Lib.hid (show ∀ W', Ext W W' → K (fr (upd V 19 (undef))) W' from fun W' he => hK _ _ ⟨upd V 19 (undef), rfl, HV.up 19 _ (fun x hx => Option.some.inj hx), TlJ.ext s0 he⟩)
              have HU := Lib.hid (show (upd V 19 (undef)) 17 = .bool false ∧ (upd V 19 (undef)) 18 = undef from ⟨e17, e18⟩)
              clear hK hC hW hL HV s0
              rw [HFR.out]
              rw [e17, e18]
              clear e17 e18
              go_wp2_with fail
              show K _ _
              have := H.out _ (Ext.refl _)
              rw [HFR.out] at this
              obtain ⟨u17, u18⟩ := HU.out
              rw [u17, u18] at this
              exact this
            · rintro L A W K hL hC hW ⟨V, rfl, HV, s0⟩ hK
              have e11 : V 11 = .bool true := HV 11 _ rfl (hW 11 rfl)
              have e17 : V 17 = .bool false := HV 17 _ rfl (hW 17 rfl)
              have e19 : V 19 = undef := HV 19 _ rfl (hW 19 rfl)
              have H := Lib.hid (show ∀ W', Ext W W' → K (fr (upd V 20 (.bool false))) W' from fun W' he => hK _ _ ⟨upd V 20 (.bool false), rfl, HV.up 20 _ (fun x hx => Option.some.inj hx), TlJ.ext s0 he⟩)
              have HU := Lib.hid (show (upd V 20 (.bool false)) 11 = .bool true ∧ (upd V 20 (.bool false)) 17 = .bool false ∧ (upd V 20 (.bool false)) 19 = undef from ⟨e11, e17, e19⟩)
              clear hK hC hW hL HV s0
              rw [HFR.out]
              rw [e11, e17, e19]
              clear e11 e17 e19
              go_wp2_with fail
              show K _ _
              have := H.out _ (Ext.refl _)
              rw [HFR.out] at this
              obtain ⟨u11, u17, u19⟩ := HU.out
              rw [u11, u17, u19] at this
              exact this
            · rintro L A W K hL hC hW ⟨V, rfl, HV, s0⟩ hK
              have e11 : V 11 = .bool true := HV 11 _ rfl (hW 11 rfl)
              have e15 : V 15 = .bool false := HV 15 _ rfl (hW 15 rfl)
              have e20 : V 20 = .bool false := HV 20 _ rfl (hW 20 rfl)
              have H := Lib.hid (show ∀ W', Ext W W' → K (fr (upd V 21 (.bool true))) W' from fun W' he => hK _ _ ⟨upd V 21 (.bool true), rfl, HV.up 21 _ (fun x hx => Option.some.inj hx), TlJ.ext s0 he⟩)
              have HU := Lib.hid (show (upd V 21 (.bool true)) 11 = .bool true ∧ (upd V 21 (.bool true)) 15 = .bool false ∧ (upd V 21 (.bool true)) 20 = .bool false from ⟨e11, e15, e20⟩)
              clear hK hC hW hL HV s0
              rw [HFR.out]
              rw [e11, e15, e20]
              clear e11 e15 e20
              go_wp2_with fail
              show K _ _
              have := H.out _ (Ext.refl _)
              rw [HFR.out] at this
              obtain ⟨u11, u15, u20⟩ := HU.out
              rw [u11, u15, u20] at this
              exact this
            · rintro L A W K hL hC hW ⟨V, rfl, HV, s0⟩ hK
              have e11 : V 11 = .bool true := HV 11 _ rfl (hW 11 rfl)
              have e21 : V 21 = .bool true := HV 21 _ rfl (hW 21 rfl)
              have H := Lib.hid (show ∀ W', Ext W W' → K (fr (upd V 22 (.bool true))) W' from fun W' he => hK _ _ ⟨upd V 22 (.bool true), rfl, HV.up 22 _ (fun x hx => Option.some.inj hx), TlJ.ext s0 he⟩)
              have HU := Lib.hid (show (upd V 22 (.bool true)) 11 = .bool true ∧ (upd V 22 (.bool true)) 21 = .bool true from ⟨e11, e21⟩)
              clear hK hC hW hL HV s0
              rw [HFR.out]
              rw [e11, e21]
              clear e11 e21
              go_wp2_with fail
              show K _ _
              have := H.out _ (Ext.refl _)
              rw [HFR.out] at this
              obtain ⟨u11, u21⟩ := HU.out
              rw [u11, u21] at this
              exact this
            · rintro L A W K hL hC hW ⟨V, rfl, HV, s0⟩ hK
              have e22 : V 22 = .bool true := HV 22 _ rfl (hW 22 rfl)
              have H := Lib.hid (show ∀ W', Ext W W' → K (fr (upd V 23 (.bool true))) W' from fun W' he => hK _ _ ⟨upd V 23 (.bool true), rfl, HV.up 23 _ (fun x hx => Option.some.inj hx), TlJ.ext s0 he⟩)
              have HU := Lib.hid (show (upd V 23 (.bool true)) 22 = .bool true from e22)
              clear hK hC hW hL HV s0
              rw [HFR.out]
              rw [e22]
              clear e22
              go_wp2_with fail
              show K _ _
              have := H.out _ (Ext.refl _)
              rw [HFR.out] at this
              obtain u22 := HU.out
              rw [u22] at this
              exact this
            · rintro L A W hL ⟨V, rfl, HV, s0⟩
              have e0 : V 0 = .int .i64 0 := HV 0 _ rfl (hL 0 (by simp))
              have e1 : V 1 = .bool true := HV 1 _ rfl (hL 1 (by simp))
              have e2 : V 2 = .bool true := HV 2 _ rfl (hL 2 (by simp))
              have e3 : V 3 = .agg #[.slice A1 x.a.length c1, .slice A2 x.s.length c2, .slice A3 x.p.length c3] := HV 3 _ rfl (hL 3 (by simp))
              have e4 : V 4 = .agg (cS q) := HV 4 _ rfl (hL 4 (by simp))
              have e5 : V 5 = wv L0 := HV 5 _ rfl (hL 5 (by simp))
              have e6 : V 6 = .agg #[.slice A1 x.a.length c1, .slice A2 x.s.length c2, .slice A3 x.p.length c3] := HV 6 _ rfl (hL 6 (by simp))
              have e7 : V 7 = .agg (cS q) := HV 7 _ rfl (hL 7 (by simp))
              have e8 : V 8 = wv L0 := HV 8 _ rfl (hL 8 (by simp))
              have e9 : V 9 = .bool true := HV 9 _ rfl (hL 9 (by simp))
              have e10 : V 10 = .bool true := HV 10 _ rfl (hL 10 (by simp))
              have e11 : V 11 = .bool true := HV 11 _ rfl (hL 11 (by simp))
              have e12 : V 12 = .agg #[.slice A1 x.a.length c1, .slice A2 x.s.length c2, .slice A3 x.p.length c3] := HV 12 _ rfl (hL 12 (by simp))
              have e13 : V 13 = .pointer (some ⟨g3, 0, none⟩) := HV 13 _ rfl (hL 13 (by simp))
              have e14 : V 14 = .int .u64 (q.addr : Nat) := HV 14 _ rfl (hL 14 (by simp))
              have e15 : V 15 = .bool false := HV 15 _ rfl (hL 15 (by simp))
              have e16 : V 16 = .bool false := HV 16 _ rfl (hL 16 (by simp))
              have e17 : V 17 = .bool false := HV 17 _ rfl (hL 17 (by simp))
              have e18 : V 18 = undef := HV 18 _ rfl (hL 18 (by simp))
              have e19 : V 19 = undef := HV 19 _ rfl (hL 19 (by simp))
              have e20 : V 20 = .bool false := HV 20 _ rfl (hL 20 (by simp))
              have e21 : V 21 = .bool true := HV 21 _ rfl (hL 21 (by simp))
              have e22 : V 22 = .bool true := HV 22 _ rfl (hL 22 (by simp))
              have e23 : V 23 = .bool true := HV 23 _ rfl (hL 23 (by simp))
              have hA := s0
              rw [HFR.out]
              rw [e0, e1, e2, e3, e4, e5, e6, e7, e8, e9, e10, e11, e12, e13, e14, e15, e16, e17, e18, e19, e20, e21, e22, e23]
              clear hL HV HFR e0 e1 e2 e3 e4 e5 e6 e7 e8 e9 e10 e11 e12 e13 e14 e15 e16 e17 e18 e19 e20 e21 e22 e23 s0
              have HE := Lib.hid hA.2.2.2
              clear hA
              go_wp2_with fail
              refine bodyPost_ret (results_tmp rfl _ _ _) rfl ?_
              exact ⟨rfl, HE.out⟩
set_option maxRecDepth 100000 in
theorem accessTells_told (W : World) (args : Array Value) (h : Told Try.f3 W args) : Calls Try.prog 3 args W (RetT W) := by
  obtain ⟨H, enc, base, ds, p, hval, hA⟩ := h
  rw [Try.params3] at hA hval
  obtain ⟨v0, v1, v2, d0, d1, d2, p0, p1, p2, rfl, rfl, rfl, h0, h1, h2⟩ := trodAll_three hA
  obtain ⟨va, vs, vp, x, rfl, hx⟩ := access_came (hval 0 _ v0 rfl rfl) h0
  obtain ⟨ua, us, up, y, rfl, hy⟩ := access_came (hval 1 _ v1 rfl rfl) h1
  obtain ⟨q, rfl, hq⟩ := spotN_came (hval 2 _ v2 rfl rfl) h2
  exact accessTells_any va vs vp ua us up x y q W hx hy hq

set_option maxRecDepth 100000 in
theorem accessTells_spec (H : Type) : ∀ ds : List (DataW H), ds.length = Try.f3.params.toList.length → Rows.accessTellsSpec.fn H ds = { results := [.lit (.bool true)], args := ds }
  | [_, _, _], _ => rfl
  | [], h | [_], h | [_, _], h | _ :: _ :: _ :: _ :: _, h => by rw [Try.params3] at h; simp at h

set_option maxRecDepth 100000 in
theorem accessTells_holds : Rows.AccessTellsSaid :=
  OpenClaim.holds_of_wide 3 Try.f3 rfl rfl rfl rfl rfl rfl rfl ⟨rfl, rfl, rfl, rfl, rfl⟩ rfl rfl rfl rfl rfl (by kernel_rfl) Try.func3 (by kernel_rfl)
    (of_decide_eq_true (by kernel_rfl)) (by unfold Func.isWrapper; first | (rw [if_pos (by decide +kernel)]; kernel_rfl) | (rw [if_neg (by decide +kernel)]; exact ⟨rfl, rfl⟩))
    (fun os started H enc _ => law_lifted started (by kernel_rfl) Try.func3 rfl rfl (accessTells_spec H) (of_decide_eq_true (by kernel_rfl))
      (ChangeSpec.witness6 (enc := enc) (C := Try.checked) false ⟨#[], #[.agg #[.slice none 0 0, .slice none 0 0, .slice none 0 0], .agg #[.slice none 0 0, .slice none 0 0, .slice none 0 0], .agg #[.int .u64 0, .int .u64 0, .int .u64 0, .int .u64 0, .int .u64 0]], []⟩ 8 (by kernel_rfl) (by kernel_rfl) (by kernel_rfl) (by kernel_rfl)) accessTells_told)
end Go.Proofs.Ytjampleddeidaaa
