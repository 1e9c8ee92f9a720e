/- StateOne: states of which all addresses have the same are the same. -/
import Derived.Test.YtmojbekihbmdfaaStx
namespace Go.Proofs.Ytmojbekihbmdfaa
open Go.ChangeShapes Go.WideShapes Go.ChangeAt Go.RowKit Go.Shelf

def preF (la lb : List Ac) : Nat → Bool
  | 0 => true
  | 1 => la.all (okZ la lb)
  | _ => la.all (okZ la lb) && lb.all (okZ la lb)
def OfP (W : World) (q : Ac) (val : Value) : Prop := ∃ u v, val = .agg (acc q u v) ∧ Bs W u q.code ∧ Pks W v q.store
set_option maxRecDepth 100000 in
theorem OfP.ext {W W' : World} {q : Ac} {val : Value} (h : OfP W q val) (he : Ext W W') : OfP W' q val := by
  obtain ⟨u, v, h1, h2, h3⟩ := h
  exact ⟨u, v, h1, h2.ext he, h3.ext he⟩
set_option maxRecDepth 100000 in
theorem ofA_ok {W : World} {v : Value} {l : List Ac} (hr : rightL l = true) (h : Acs W v l) (a : Nat) (ha : a < 18446744073709551616) : (ofA l a).ok := by
  rw [ofA_right hr]
  exact accF_ok h a ha
set_option maxRecDepth 100000 in
theorem RegA.ext {w4 W W' : World} {P : Prop} (h : Ext w4 W ∧ P) (he : Ext W W') : Ext w4 W' ∧ P := ⟨h.1.trans he, h.2⟩
set_option maxRecDepth 100000 in
theorem ext_drewN' {a w : World} (h : Ext a w) (n : Nat) : Ext a (w.drewN n) := ⟨h.os, h.tape, h.output, h.size, fun i hi => Below.block h i hi⟩
set_option maxRecDepth 100000 in
theorem idxS0 (A C : Option Addr) (n c m d : Nat) (W : World) : (Instr.index 65 (.agg #[.slice A n c, .slice C m d]) (.int .i64 0)).run Try.prog W = .ok (.agg #[.slice A n c]) W := by kernel_rfl
set_option maxRecDepth 100000 in
theorem idxS1 (A C : Option Addr) (n c m d : Nat) (W : World) : (Instr.index 65 (.agg #[.slice A n c, .slice C m d]) (.int .i64 1)).run Try.prog W = .ok (.agg #[.slice C m d]) W := by kernel_rfl
set_option maxRecDepth 100000 in
set_option maxHeartbeats 8000000 in
theorem stateOne_any (s1 s2 : Value) (x y : List Ac) (w : World) (h1 : Acs w s1 x) (h2 : Acs w s2 y) : Calls Try.prog 8 #[.agg #[s1], .agg #[s2]] w (RetT w) := by
  have HX := Lib.hid h1
  have HY := Lib.hid h2
  obtain ⟨A1, c1, rfl, p1, p2⟩ := h1.len
  obtain ⟨A2, c2, rfl, q1, q2⟩ := h2.len
  obtain ⟨w0, hw0⟩ : ∃ w0, ((w.alloc (.cells #[.slice A1 x.length c1] 24)).alloc (.cells #[.slice A2 y.length c2] 24)) = w0 := ⟨_, rfl⟩
  have HW0 := Lib.hid hw0
  have HB0 : Hid (Cs w0 w.heap.size 24 #[.slice A1 x.length c1] ∧ Cs w0 (w.heap.size + 1) 24 #[.slice A2 y.length c2] ∧ Ext w w0) := by
    rw [← hw0]
    exact Lib.hid ⟨Cs.alloc (Cs.new _ _ _ _ rfl) _, Cs.new _ _ _ _ (by simp), ((Ext.refl w).alloc _).alloc _⟩
  clear h1 h2 hw0
  go_enter Try.func8, Try.ntmps8
  go_upto_region 1 with fail
  rw [HW0.out]
  clear HW0
  go_wp2_with fail
  refine (stateWakes_any _).mono ?_
  rintro e w1 ⟨rfl, he⟩
  have HB1 : Hid (Cs w1 w.heap.size 24 #[.slice A1 x.length c1] ∧ Cs w1 (w.heap.size + 1) 24 #[.slice A2 y.length c2] ∧ Ext w w1) := Lib.hid ⟨Cs.ext HB0.out.1 he, Cs.ext HB0.out.2.1 he, HB0.out.2.2.trans he⟩
  clear he HB0
  obtain ⟨la, hla⟩ : ∃ la, fewL x = la := ⟨_, rfl⟩
  obtain ⟨lb, hlb⟩ : ∃ lb, fewL y = lb := ⟨_, rfl⟩
  have HLA := Lib.hid hla
  have HLB := Lib.hid hlb
  have HLen : Hid (la.length ≤ 50 ∧ lb.length ≤ 50) := Lib.hid ⟨by rw [← hla]; exact fewL_len _, by rw [← hlb]; exact fewL_len _⟩
  clear hla hlb
  go_upto_region 3 with fail
  refine wp_named fun a0 ha0 => ?_
  obtain ⟨fr, hfr⟩ : ∃ fr : (Nat → Value) → Act, ∀ V, fr V = ((((((a0.put (some 14) (V 0)).put (some 15) (V 1)).put (some 16) (V 2)).put (some 17) (V 3)).put (some 5) (V 4)).put (some 6) (V 5)) := ⟨fun V => ((((((a0.put (some 14) (V 0)).put (some 15) (V 1)).put (some 16) (V 2)).put (some 17) (V 3)).put (some 5) (V 4)).put (some 6) (V 5)), fun _ => rfl⟩
  rw [ha0] at hfr
  simp only [Act.put, List.setIfInBounds_toArray, List.set_cons_zero, List.set_cons_succ] at hfr
  have HFR := Lib.hid hfr
  clear hfr
  refine wp_region_inv (by kernel_rfl) (by kernel_rfl) (fun L A W => ∃ V : Nat → Value, A = fr V ∧ Vals (fun j => ([some (.agg #[.slice A1 x.length c1]), none, some (.agg #[.slice A2 y.length c2]), none, none, none, none, none] : List (Option Value)).getD j none) L V ∧ (L 7 = true → L 5 = true) ∧ (L 6 = true → L 4 = true) ∧ OnI w1 la lb (L 1) (L 3) (L 4) (L 5) (L 6) (L 7) (V 1) (V 3) (V 4) (V 5) W) ?_ ⟨?_, ?_, ?_, ?_, ?_, ?_, ?_, ?_, trivial⟩ ?_
  · refine ⟨fun j => a0.tmps.getD (([14, 15, 16, 17, 5, 6, 0, 0] : List Nat).getD j 0) undef, ?_, Vals.no _ _ _ (far_none _ _ rfl), (by decide), (by decide), (Ext.refl _).drew, (fun h => absurd h (by decide)), (fun h => absurd h (by decide)), (fun h => absurd h (by decide)), (fun h => absurd h (by decide)), (fun h => absurd h (by decide)), (fun h => absurd h (by decide)), (fun h => absurd h (by decide))⟩
    rw [HFR.out, ha0]
    rfl
  all_goals clear ha0
  · rintro L A W K hL hC hW ⟨V, rfl, HV, l7, l6, s0⟩ hK
    have H := Lib.hid (show K (fr (upd V 0 (.agg #[.slice A1 x.length c1]))) W from hK _ _ ⟨(upd V 0 (.agg #[.slice A1 x.length c1])), rfl, HV.up 0 _ (fun x hx => Option.some.inj hx), (by unfold More; rw [if_neg (by decide), if_neg (by decide)]; exact l7), (by unfold More; rw [if_neg (by decide), if_neg (by decide)]; exact l6), by simpa [More, upd] using s0⟩)
    have hc := (Cs.ext HB1.out.1 s0.1).cell 0 _ rfl
    clear hK hC hW hL HV l7 l6 s0
    rw [HFR.out]
    go_wp2_with fail
    show K _ _
    have := H.out
    rw [HFR.out] at this
    exact this
  · rintro L A W K hL hC hW ⟨V, rfl, HV, l7, l6, s0⟩ hK
    have e0 : V 0 = .agg #[.slice A1 x.length c1] := HV 0 _ rfl (hW 0 rfl)
    have s0' : OnI w1 la lb (L 1) (L 3) (L 4) (L 5) (L 6) (L 7) (V 1) (V 3) (V 4) (V 5) W := s0
    rw [hC.no hL 6 _ rfl rfl] at s0'
    have H := Lib.hid (show ∀ v W', Ext W W' → StF w1.heap.size W' v la → K (fr (upd V 1 v)) W' from fun v W' he hv => hK _ _ ⟨(upd V 1 v), rfl, HV.up 1 _ (fun x hx => absurd hx (by intro h; cases h)), (by unfold More; rw [if_neg (by decide), if_neg (by decide)]; exact l7), (by unfold More; rw [if_neg (by decide), if_neg (by decide)]; exact l6), (by simpa [More, upd, hC.no hL 6 _ rfl rfl] using (OnI.call (s0') he hv))⟩)
    have HU := Lib.hid (show ∀ v, (upd V 1 v) 0 = .agg #[.slice A1 x.length c1] from fun v => e0)
    have HS0 := Lib.hid s0.1
    clear hK hC hW hL HV l7 l6 s0 s0'
    rw [HFR.out]
    rw [e0]
    clear e0
    go_wp2_with fail
    refine (stateFew_any _ _ _ (HX.out.ext (HB1.out.2.2.trans HS0.out))).mono ?_
    rintro e wx ⟨v', rfl, hr, he⟩
    have := H.out _ _ he ⟨v', rfl, by rw [HLA.out] at hr; exact hr.low HS0.out.size⟩
    clear H
    go_wp2_with fail
    show K _ _
    rw [HFR.out] at this
    obtain u0 := HU.out _
    rw [u0] at this
    exact this
  · rintro L A W K hL hC hW ⟨V, rfl, HV, l7, l6, s0⟩ hK
    have H := Lib.hid (show K (fr (upd V 2 (.agg #[.slice A2 y.length c2]))) W from hK _ _ ⟨(upd V 2 (.agg #[.slice A2 y.length c2])), rfl, HV.up 2 _ (fun x hx => Option.some.inj hx), (by unfold More; rw [if_neg (by decide), if_neg (by decide)]; exact l7), (by unfold More; rw [if_neg (by decide), if_neg (by decide)]; exact l6), by simpa [More, upd] using s0⟩)
    have hc := (Cs.ext HB1.out.2.1 s0.1).cell 0 _ rfl
    clear hK hC hW hL HV l7 l6 s0
    rw [HFR.out]
    go_wp2_with fail
    show K _ _
    have := H.out
    rw [HFR.out] at this
    exact this
  · rintro L A W K hL hC hW ⟨V, rfl, HV, l7, l6, s0⟩ hK
    have e2 : V 2 = .agg #[.slice A2 y.length c2] := HV 2 _ rfl (hW 2 rfl)
    have s0' : OnI w1 la lb (L 1) (L 3) (L 4) (L 5) (L 6) (L 7) (V 1) (V 3) (V 4) (V 5) W := s0
    rw [hC.no hL 7 _ rfl rfl] at s0'
    have H := Lib.hid (show ∀ v W', Ext W W' → StF w1.heap.size W' v lb → K (fr (upd V 3 v)) W' from fun v W' he hv => hK _ _ ⟨(upd V 3 v), rfl, HV.up 3 _ (fun x hx => absurd hx (by intro h; cases h)), (by unfold More; rw [if_neg (by decide), if_neg (by decide)]; exact l7), (by unfold More; rw [if_neg (by decide), if_neg (by decide)]; exact l6), (by simpa [More, upd, hC.no hL 7 _ rfl rfl] using (OnI.call (s0'.swap) he hv).swap)⟩)
    have HU := Lib.hid (show ∀ v, (upd V 3 v) 2 = .agg #[.slice A2 y.length c2] from fun v => e2)
    have HS0 := Lib.hid s0.1
    clear hK hC hW hL HV l7 l6 s0 s0'
    rw [HFR.out]
    rw [e2]
    clear e2
    go_wp2_with fail
    refine (stateFew_any _ _ _ (HY.out.ext (HB1.out.2.2.trans HS0.out))).mono ?_
    rintro e wx ⟨v', rfl, hr, he⟩
    have := H.out _ _ he ⟨v', rfl, by rw [HLB.out] at hr; exact hr.low HS0.out.size⟩
    clear H
    go_wp2_with fail
    show K _ _
    rw [HFR.out] at this
    obtain u2 := HU.out _
    rw [u2] at this
    exact this
  · rintro L A W K hL hC hW ⟨V, rfl, HV, l7, l6, s0⟩ hK
    have s0' : OnI w1 la lb (L 1) (L 3) (L 4) (L 5) (L 6) (L 7) (V 1) (V 3) (V 4) (V 5) W := s0
    rw [hC.no hL 6 _ rfl rfl] at s0'
    have H := Lib.hid (show K (fr (upd V 4 (.pointer (some ⟨W.heap.size, 0, none⟩)))) (W.alloc (.cells #[.slice none 0 0] 24)) from hK _ _ ⟨(upd V 4 (.pointer (some ⟨W.heap.size, 0, none⟩))), rfl, HV.up 4 _ (fun x hx => absurd hx (by intro h; cases h)), (by unfold More; rw [if_neg (by decide), if_neg (by decide)]; exact l7), (fun _ => by unfold More; exact if_pos rfl), by simpa [More, upd, hC.no hL 6 _ rfl rfl] using (OnI.alloc s0' (fun h => s0'.lt5 h))⟩)
    clear hK hC hW hL HV l7 l6 s0 s0'
    rw [HFR.out]
    go_wp2_with fail
    show K _ _
    have := H.out
    rw [HFR.out] at this
    exact this
  · rintro L A W K hL hC hW ⟨V, rfl, HV, l7, l6, s0⟩ hK
    have s0' : OnI w1 la lb (L 1) (L 3) (L 4) (L 5) (L 6) (L 7) (V 1) (V 3) (V 4) (V 5) W := s0
    rw [hC.no hL 7 _ rfl rfl] at s0'
    have H := Lib.hid (show K (fr (upd V 5 (.pointer (some ⟨W.heap.size, 0, none⟩)))) (W.alloc (.cells #[.slice none 0 0] 24)) from hK _ _ ⟨(upd V 5 (.pointer (some ⟨W.heap.size, 0, none⟩))), rfl, HV.up 5 _ (fun x hx => absurd hx (by intro h; cases h)), (fun _ => by unfold More; exact if_pos rfl), (by unfold More; rw [if_neg (by decide), if_neg (by decide)]; exact l6), by simpa [More, upd, hC.no hL 7 _ rfl rfl] using (OnI.alloc s0'.swap (fun h => s0'.swap.lt5 h)).swap⟩)
    clear hK hC hW hL HV l7 l6 s0 s0'
    rw [HFR.out]
    go_wp2_with fail
    show K _ _
    have := H.out
    rw [HFR.out] at this
    exact this
  · rintro L A W K hL hC hW ⟨V, rfl, HV, l7, l6, s0⟩ hK
    have s0' : OnI w1 la lb (L 1) (L 3) (L 4) (L 5) (L 6) (L 7) (V 1) (V 3) (V 4) (V 5) W := s0
    rw [hW 1 rfl, hW 4 rfl, hL] at s0'
    obtain ⟨y', g, eg, hlo, hcg⟩ := s0'.2.2.2.1 rfl rfl
    obtain ⟨xv, ev, hrw⟩ := s0'.2.1 rfl
    obtain ⟨As, cs', es⟩ := hrw.shape
    subst es
    rw [eg, ev] at s0'
    have HN := Lib.hid (OnI.store s0' l7)
    have H := Lib.hid (show ∀ W', OnI w1 la lb ((More L 6) 1) ((More L 6) 3) ((More L 6) 4) ((More L 6) 5) ((More L 6) 6) ((More L 6) 7) (V 1) (V 3) (V 4) (V 5) W' → K (fr V) W' from fun W' hN => hK _ _ ⟨V, rfl, HV.st 6 rfl, (by unfold More; rw [if_neg (by decide), if_neg (by decide)]; exact l7), (fun _ => by unfold More; rw [if_neg (by decide)]; exact hW 4 rfl), hN⟩)
    have HN2 := Lib.hid (show OnI w1 la lb ((More L 6) 1) ((More L 6) 3) ((More L 6) 4) ((More L 6) 5) ((More L 6) 6) ((More L 6) 7) (V 1) (V 3) (V 4) (V 5) (W.setCell ⟨g, 0, none⟩ (.slice As la.length cs')) by have := HN.out; rw [eg, ev]; simpa [More, hW 1 rfl, hW 4 rfl] using this)
    obtain ⟨yc, hyc⟩ : ∃ yc, W.cell? ⟨g, 0, none⟩ = some yc := ⟨_, hcg.cell 0 _ rfl⟩
    have hfz : W.frozen? ⟨g, 0, none⟩ = false := hcg.frozen 0
    have HU := Lib.hid (show V 4 = .pointer (some ⟨g, 0, none⟩) ∧ V 1 = .agg #[.slice As la.length cs'] from ⟨eg, ev⟩)
    clear hK hC hW hL HV l7 l6 s0 s0' HN hlo hcg hrw
    rw [HFR.out]
    rw [eg, ev]
    clear eg ev
    go_wp2_with fail
    show K _ _
    have := H.out _ HN2.out
    rw [HFR.out] at this
    rw [HU.out.1, HU.out.2] at this
    exact this
  · rintro L A W K hL hC hW ⟨V, rfl, HV, l7, l6, s0⟩ hK
    have s0' : OnI w1 la lb (L 1) (L 3) (L 4) (L 5) (L 6) (L 7) (V 1) (V 3) (V 4) (V 5) W := s0
    rw [hW 3 rfl, hW 5 rfl, hL] at s0'
    obtain ⟨y', g, eg, hlo, hcg⟩ := s0'.2.2.2.2.1 rfl rfl
    obtain ⟨xv, ev, hrw⟩ := s0'.2.2.1 rfl
    obtain ⟨As, cs', es⟩ := hrw.shape
    subst es
    rw [eg, ev] at s0'
    have HN := Lib.hid ((OnI.store s0'.swap l6).swap)
    have H := Lib.hid (show ∀ W', OnI w1 la lb ((More L 7) 1) ((More L 7) 3) ((More L 7) 4) ((More L 7) 5) ((More L 7) 6) ((More L 7) 7) (V 1) (V 3) (V 4) (V 5) W' → K (fr V) W' from fun W' hN => hK _ _ ⟨V, rfl, HV.st 7 rfl, (fun _ => by unfold More; rw [if_neg (by decide)]; exact hW 5 rfl), (by unfold More; rw [if_neg (by decide), if_neg (by decide)]; exact l6), hN⟩)
    have HN2 := Lib.hid (show OnI w1 la lb ((More L 7) 1) ((More L 7) 3) ((More L 7) 4) ((More L 7) 5) ((More L 7) 6) ((More L 7) 7) (V 1) (V 3) (V 4) (V 5) (W.setCell ⟨g, 0, none⟩ (.slice As lb.length cs')) by have := HN.out; rw [eg, ev]; simpa [More, hW 3 rfl, hW 5 rfl] using this)
    obtain ⟨yc, hyc⟩ : ∃ yc, W.cell? ⟨g, 0, none⟩ = some yc := ⟨_, hcg.cell 0 _ rfl⟩
    have hfz : W.frozen? ⟨g, 0, none⟩ = false := hcg.frozen 0
    have HU := Lib.hid (show V 5 = .pointer (some ⟨g, 0, none⟩) ∧ V 3 = .agg #[.slice As lb.length cs'] from ⟨eg, ev⟩)
    clear hK hC hW hL HV l7 l6 s0 s0' HN hlo hcg hrw
    rw [HFR.out]
    rw [eg, ev]
    clear eg ev
    go_wp2_with fail
    show K _ _
    have := H.out _ HN2.out
    rw [HFR.out] at this
    rw [HU.out.1, HU.out.2] at this
    exact this
  · rintro L A W hL ⟨V, rfl, HV, l7, l6, s0⟩
    rw [show L 1 = true from hL 1 (by simp), show L 3 = true from hL 3 (by simp), show L 4 = true from hL 4 (by simp), show L 5 = true from hL 5 (by simp), show L 6 = true from hL 6 (by simp), show L 7 = true from hL 7 (by simp)] at s0
    obtain ⟨z0, z1, z2, _, _, z5, z6, z7⟩ := s0
    obtain ⟨xa, ea, hra⟩ := z1 rfl
    obtain ⟨xb, eb, hrb⟩ := z2 rfl
    obtain ⟨xa', ea', g5, e5, hl5, hc5⟩ := z5 rfl
    obtain ⟨xb', eb', g6, e6, hl6, hc6⟩ := z6 rfl
    obtain rfl : xa = xa' := by rw [ea] at ea'; simpa using ea'
    obtain rfl : xb = xb' := by rw [eb] at eb'; simpa using eb'
    obtain ⟨Aa, ca, rfl⟩ := hra.shape
    obtain ⟨Ab', cb, rfl⟩ := hrb.shape
    have HA := Lib.hid hra.acs
    have HB := Lib.hid hrb.acs
    have HG5 := Lib.hid hc5
    have HG6 := Lib.hid hc6
    have HE2 := Lib.hid (HB1.out.2.2.trans z0)
    rw [HFR.out]
    rw [e5, e6]
    clear hL HV HFR l7 l6 z0 z1 z2 z5 z6 z7 ea eb ea' eb' e5 e6 hra hrb hc5 hc6 hl5 hl6
    have q5 := HG5.out.cell 0 _ rfl
    go_wp2_with fail
    refine (stateCheck_any _ la _ HA.out (by have := HLen.out; omega)).mono ?_
    rintro e w3 ⟨rfl, he⟩
    have HE3 := Lib.hid (HE2.out.trans he)
    have HG5 := Lib.hid (Cs.ext HG5.out he)
    have HG6 := Lib.hid (Cs.ext HG6.out he)
    have HA := Lib.hid (HA.out.ext he)
    have HB := Lib.hid (HB.out.ext he)
    clear he HE2 q5
    rw [show chkE la = if rightL la then 0 else 160 from rfl]
    cases hra : rightL la with
    | false =>
      clear hra
      go_wp2_with fail
      go_ret
      exact ⟨rfl, HE3.out⟩
    | true =>
      have HRa := Lib.hid hra
      clear hra
      have q6 := HG6.out.cell 0 _ rfl
      go_wp2_with fail
      refine (stateCheck_any _ lb _ HB.out (by have := HLen.out; omega)).mono ?_
      rintro e wC ⟨rfl, he⟩
      have HE5 := Lib.hid (HE3.out.trans he)
      have HG5 := Lib.hid (Cs.ext HG5.out he)
      have HG6 := Lib.hid (Cs.ext HG6.out he)
      have HA := Lib.hid (HA.out.ext he)
      have HB := Lib.hid (HB.out.ext he)
      clear he HE3 q6
      rw [show chkE lb = if rightL lb then 0 else 160 from rfl]
      cases hrb : rightL lb with
      | false =>
        clear hrb
        go_wp2_with fail
        go_ret
        exact ⟨rfl, HE5.out⟩
      | true =>
        have HRb := Lib.hid hrb
        clear hrb
        have q5 := HG5.out.cell 0 _ rfl
        have q6 := HG6.out.cell 0 _ rfl
        go_wp2_with fail
        clear q5 q6
        go_loopw [7, 29] (fun fv iv wr => ∃ i : Nat, i ≤ 2 ∧ iv = .int .i64 i ∧ fv = .bool (preF la lb i) ∧ Hid (Ext wC wr)) (fun _ iv _ => 2 - (intOf iv).toNat)
        case atStart => exact ⟨0, by omega, rfl, rfl, Lib.hid (Ext.refl _)⟩
        case round =>
          obtain ⟨i, hi, rfl, rfl, HE⟩ := hrel
          obtain rfl | rfl | rfl : i = 0 ∨ i = 1 ∨ i = 2 := by omega
          · obtain ⟨pre, hpre⟩ : ∃ pre, preF la lb 0 = pre := ⟨_, rfl⟩
            have HPRE := Lib.hid (show preF la lb 1 = (pre && la.all (okZ la lb)) by rw [← hpre]; unfold preF; first | rfl | simp)
            rw [hpre]
            clear hpre
            rw [show ((0 : Nat) : Int) = 0 from rfl]
            have ix0 := idxS0 Aa Ab' la.length ca lb.length cb
            
            
            go_wp2_with fail
            go_loopw [7, 35] (fun fv jv wi => ∃ k : Nat, k ≤ la.length ∧ jv = .int .i64 k ∧ fv = .bool (pre && (la.take k).all (okZ la lb)) ∧ Hid (Ext wC wi)) (fun _ jv _ => la.length - (intOf jv).toNat)
            case atStart => exact ⟨0, by omega, rfl, by simp, Lib.hid (HE.out.trans ((Ext.refl _).alloc _))⟩
            case round =>
              clear HE
              obtain ⟨k, hk, rfl, hfv, HE⟩ := hrel
              by_cases hlt : k < la.length
              · have hd : decide (k < la.length) = true := decide_eq_true hlt
                have h50 : la.length ≤ 50 := HLen.out.1
                have HAL := Lib.hid (all_snoc la (okZ la lb) k hlt)
                obtain ⟨b, o, u, v, rfl, hrg, hu, hv, hok⟩ := (HA.out.ext HE.out).at k hlt
                have HR := Lib.hid hrg
                have HU := Lib.hid hu
                have HV := Lib.hid hv
                have HOK := Lib.hid hok
                clear hrg hu hv hok
                obtain ⟨p, hp⟩ : ∃ p, la.getD k acz = p := ⟨_, rfl⟩
                rw [hp] at HR HU HV HOK HAL
                clear hp
                obtain ⟨fl, hfl⟩ : ∃ fl, (pre && (la.take k).all (okZ la lb)) = fl := ⟨_, rfl⟩
                have HFL := Lib.hid (show (pre && (la.take (k + 1)).all (okZ la lb)) = (fl && okZ la lb p) by rw [HAL.out, ← Bool.and_assoc, hfl])
                rw [hfl] at hfv
                subst hfv
                clear hfl HAL
                cases fl with
                | false =>
                  go_upto_region 13 with (first
                    | ((with_reducible refine wpList_load_ac ?_ (.tmp 37) ?_ b (o + k * 8) p u v ?_ ?_ ?_); (exact rfl); (exact rfl); (exact rfl); (exact HR.out))
                    | ((with_reducible refine wpList_store_ac ?_ ?_ (.tmp 11) (.tmp 38) ?_ wr.heap.size az0 p u v ?_ ?_ ?_ ?_ ?_ ?_ ?_); (exact rfl); (exact rfl); (exact rfl); (exact bs_one HU.out); (exact pks_one HV.out); (exact rfl); (exact rfl); (exact Cs.new _ _ _ _ rfl); (exact rfl); intro w4 k4 g4; have K4 := Lib.hid k4; have HX4 := Lib.hid (((Ext.refl wr).alloc _).grown g4 (Nat.le_refl _)); clear k4 g4))
                  have HFF := Lib.hid (show (pre && (la.take (k + 1)).all (okZ la lb)) = false by rw [HFL.out]; rfl)
                  go_quiet (fail)
                  go_wp2_with fail
                  exact ⟨⟨k + 1, by omega, by go_num, by rw [HFF.out], Lib.hid (ext_drewN' (HE.out.trans HX4.out) nq)⟩, by simp [intOf]; omega⟩
                | true =>
                  go_upto_region 13 with (first
                    | ((with_reducible refine wpList_load_ac ?_ (.tmp 37) ?_ b (o + k * 8) p u v ?_ ?_ ?_); (exact rfl); (exact rfl); (exact rfl); (exact HR.out))
                    | ((with_reducible refine wpList_store_ac ?_ ?_ (.tmp 11) (.tmp 38) ?_ wr.heap.size az0 p u v ?_ ?_ ?_ ?_ ?_ ?_ ?_); (exact rfl); (exact rfl); (exact rfl); (exact bs_one HU.out); (exact pks_one HV.out); (exact rfl); (exact rfl); (exact Cs.new _ _ _ _ rfl); (exact rfl); intro w4 k4 g4; have K4 := Lib.hid k4; have HX4 := Lib.hid (((Ext.refl wr).alloc _).grown g4 (Nat.le_refl _)); clear k4 g4))
                  have HE4 := Lib.hid (HE.out.trans HX4.out)
                  have HOA := Lib.hid (fun W (h : Ext w4 W) => stateOf_any _ la p.addr W (HA.out.ext (HE4.out.trans h)) HOK.out.1 (by have := HLen.out.1; omega))
                  have HOB := Lib.hid (fun W (h : Ext w4 W) => stateOf_any _ lb p.addr W (HB.out.ext (HE4.out.trans h)) HOK.out.1 (by have := HLen.out.2; omega))
                  have HQA := Lib.hid (ofA_ok HRa.out HA.out p.addr HOK.out.1)
                  have HQB := Lib.hid (ofA_ok HRb.out HB.out p.addr HOK.out.1)
                  have HFT : Hid ((pre && (la.take (k + 1)).all (okZ la lb)) = (ofA la p.addr).eqB (ofA lb p.addr)) := Lib.hid (by rw [HFL.out]; rfl)
                  generalize ofA la p.addr = qa at *
                  generalize ofA lb p.addr = qb at *
                  obtain ⟨B, hB'⟩ : ∃ B, wr.heap.size = B := ⟨_, rfl⟩
                  rw [hB'] at K4 ⊢
                  clear hB' HR HU HV HOK HX4 HFL
                  refine wp_named fun a0 ha0 => ?_
                  obtain ⟨fr, hfr⟩ : ∃ fr : (Nat → Value) → Act, ∀ V, fr V = (((((((((((((a0.put (some 39) (V 0)).put (some 40) (V 1)).put (some 41) (V 2)).put (some 42) (V 3)).put (some 43) (V 4)).put (some 44) (V 5)).put (some 45) (V 6)).put (some 46) (V 7)).put (some 47) (V 8)).put (some 48) (V 9)).put (some 49) (V 10)).put (some 50) (V 11)).put (some 7) (V 12)) := ⟨fun V => (((((((((((((a0.put (some 39) (V 0)).put (some 40) (V 1)).put (some 41) (V 2)).put (some 42) (V 3)).put (some 43) (V 4)).put (some 44) (V 5)).put (some 45) (V 6)).put (some 46) (V 7)).put (some 47) (V 8)).put (some 48) (V 9)).put (some 49) (V 10)).put (some 50) (V 11)).put (some 7) (V 12)), fun _ => rfl⟩
                  rw [ha0] at hfr
                  simp only [Act.put, List.setIfInBounds_toArray, List.set_cons_zero, List.set_cons_succ] at hfr
                  have HFR := Lib.hid hfr
                  clear hfr
                  refine wp_region_inv (by kernel_rfl) (by kernel_rfl) (fun L A W => ∃ V : Nat → Value, A = fr V ∧ Vals (fun j => ([some (.bool true), some (.bool true), some (.agg #[.slice (some ⟨b, o, none⟩) la.length ca]), some (.pointer (some ⟨B, 0, none⟩)), some (.int .u64 (p.addr : Nat)), none, some (.agg #[.slice Ab' lb.length cb]), some (.pointer (some ⟨B, 0, none⟩)), some (.int .u64 (p.addr : Nat)), none, some (.bool (qa.eqB qb)), some (.bool (qa.eqB qb)), some (.bool (qa.eqB qb))] : List (Option Value)).getD j none) L V ∧ (L 12 = false → Ext w4 W ∧ V 12 = .bool true) ∧ (L 12 = true → Ext w4 W) ∧ (L 12 = false → L 5 = true → OfP W qa (V 5)) ∧ (L 12 = false → L 9 = true → OfP W qb (V 9))) ?_ ⟨?_, ?_, ?_, ?_, ?_, ?_, ?_, ?_, ?_, ?_, ?_, ?_, ?_, trivial⟩ ?_
                  · refine ⟨fun j => a0.tmps.getD (([39, 40, 41, 42, 43, 44, 45, 46, 47, 48, 49, 50, 7] : List Nat).getD j 0) undef, ?_, Vals.no _ _ _ (far_none _ _ rfl), fun _ => ⟨(Ext.refl _).drew, by show a0.tmps.getD 7 undef = _; rw [ha0]; rfl⟩, fun h0 => absurd h0 (by decide), fun h0 h1 => absurd h1 (by decide), fun h0 h1 => absurd h1 (by decide)⟩
                    rw [HFR.out, ha0]
                    rfl
                  all_goals clear ha0
                  · rintro L A W K hL hC hW ⟨V, rfl, HV, s0, s1, f5, f9⟩ hK
                    have hB := s0 (hC.no (hC.no (hC.no hL 1 _ rfl rfl) 11 _ rfl rfl) 12 _ rfl rfl)
                    have e12 : V 12 = .bool true := hB.2
                    have H := Lib.hid (show ∀ W', Ext W W' → K (fr (upd V 0 (.bool true))) W' from fun W' he => hK _ _ ⟨upd V 0 (.bool true), rfl, HV.up 0 _ (fun x hx => Option.some.inj hx), fun h0 => RegA.ext (s0 (by unfold More at h0; rwa [if_neg (by decide)] at h0)) he, fun h0 => Ext.trans (s1 (more_ne h0 rfl)) he, fun h0 h1 => OfP.ext (f5 (by unfold More at h0; rwa [if_neg (by decide)] at h0) (more_ne h1 rfl)) he, fun h0 h1 => OfP.ext (f9 (by unfold More at h0; rwa [if_neg (by decide)] at h0) (more_ne h1 rfl)) he⟩)
                    have HU := Lib.hid (show (upd V 0 (.bool true)) 12 = .bool true from e12)
                    clear hK hC hW hL HV s0 s1 f5 f9
                    rw [HFR.out]
                    rw [e12]
                    clear e12
                    clear hB
                    go_wp2_with fail
                    show K _ _
                    have := H.out _ (Ext.refl _)
                    rw [HFR.out] at this
                    obtain u12 := HU.out
                    rw [u12] at this
                    exact this
                  · rintro L A W K hL hC hW ⟨V, rfl, HV, s0, s1, f5, f9⟩ hK
                    have e0 : V 0 = .bool true := HV 0 _ rfl (hW 0 rfl)
                    have H := Lib.hid (show ∀ W', Ext W W' → K (fr (upd V 1 (.bool true))) W' from fun W' he => hK _ _ ⟨upd V 1 (.bool true), rfl, HV.up 1 _ (fun x hx => Option.some.inj hx), fun h0 => RegA.ext (s0 (by unfold More at h0; rwa [if_neg (by decide)] at h0)) he, fun h0 => Ext.trans (s1 (more_ne h0 rfl)) he, fun h0 h1 => OfP.ext (f5 (by unfold More at h0; rwa [if_neg (by decide)] at h0) (more_ne h1 rfl)) he, fun h0 h1 => OfP.ext (f9 (by unfold More at h0; rwa [if_neg (by decide)] at h0) (more_ne h1 rfl)) he⟩)
                    have HU := Lib.hid (show (upd V 1 (.bool true)) 0 = .bool true from e0)
                    clear hK hC hW hL HV s0 s1 f5 f9
                    rw [HFR.out]
                    rw [e0]
                    clear e0
                    go_wp2_with fail
                    show K _ _
                    have := H.out _ (Ext.refl _)
                    rw [HFR.out] at this
                    obtain u0 := HU.out
                    rw [u0] at this
                    exact this
                  · rintro L A W K hL hC hW ⟨V, rfl, HV, s0, s1, f5, f9⟩ hK
                    have e1 : V 1 = .bool true := HV 1 _ rfl (hW 1 rfl)
                    have hB := s0 (hC.no (hC.no (hC.no (hC.no hL 5 _ rfl rfl) 10 _ rfl rfl) 11 _ rfl rfl) 12 _ rfl rfl)
                    have H := Lib.hid (show ∀ W', Ext W W' → K (fr (upd V 2 (.agg #[.slice (some ⟨b, o, none⟩) la.length ca]))) W' from fun W' he => hK _ _ ⟨upd V 2 (.agg #[.slice (some ⟨b, o, none⟩) la.length ca]), rfl, HV.up 2 _ (fun x hx => Option.some.inj hx), fun h0 => RegA.ext (s0 (by unfold More at h0; rwa [if_neg (by decide)] at h0)) he, fun h0 => Ext.trans (s1 (more_ne h0 rfl)) he, fun h0 h1 => OfP.ext (f5 (by unfold More at h0; rwa [if_neg (by decide)] at h0) (more_ne h1 rfl)) he, fun h0 h1 => OfP.ext (f9 (by unfold More at h0; rwa [if_neg (by decide)] at h0) (more_ne h1 rfl)) he⟩)
                    have HU := Lib.hid (show (upd V 2 (.agg #[.slice (some ⟨b, o, none⟩) la.length ca])) 1 = .bool true from e1)
                    clear hK hC hW hL HV s0 s1 f5 f9
                    rw [HFR.out]
                    rw [e1]
                    clear e1
                    have hcl := (Cs.ext HG5.out (HE4.out.trans hB.1)).cell 0 _ rfl
                    clear hB
                    go_wp2_with fail
                    show K _ _
                    have := H.out _ (Ext.refl _)
                    rw [HFR.out] at this
                    obtain u1 := HU.out
                    rw [u1] at this
                    exact this
                  · rintro L A W K hL hC hW ⟨V, rfl, HV, s0, s1, f5, f9⟩ hK
                    have e1 : V 1 = .bool true := HV 1 _ rfl (hW 1 rfl)
                    have H := Lib.hid (show ∀ W', Ext W W' → K (fr (upd V 3 (.pointer (some ⟨B, 0, none⟩)))) W' from fun W' he => hK _ _ ⟨upd V 3 (.pointer (some ⟨B, 0, none⟩)), rfl, HV.up 3 _ (fun x hx => Option.some.inj hx), fun h0 => RegA.ext (s0 (by unfold More at h0; rwa [if_neg (by decide)] at h0)) he, fun h0 => Ext.trans (s1 (more_ne h0 rfl)) he, fun h0 h1 => OfP.ext (f5 (by unfold More at h0; rwa [if_neg (by decide)] at h0) (more_ne h1 rfl)) he, fun h0 h1 => OfP.ext (f9 (by unfold More at h0; rwa [if_neg (by decide)] at h0) (more_ne h1 rfl)) he⟩)
                    have HU := Lib.hid (show (upd V 3 (.pointer (some ⟨B, 0, none⟩))) 1 = .bool true from e1)
                    clear hK hC hW hL HV s0 s1 f5 f9
                    rw [HFR.out]
                    rw [e1]
                    clear e1
                    go_wp2_with fail
                    show K _ _
                    have := H.out _ (Ext.refl _)
                    rw [HFR.out] at this
                    obtain u1 := HU.out
                    rw [u1] at this
                    exact this
                  · rintro L A W K hL hC hW ⟨V, rfl, HV, s0, s1, f5, f9⟩ hK
                    have e1 : V 1 = .bool true := HV 1 _ rfl (hW 1 rfl)
                    have e3 : V 3 = .pointer (some ⟨B, 0, none⟩) := HV 3 _ rfl (hW 3 rfl)
                    have hB := s0 (hC.no (hC.no (hC.no (hC.no hL 5 _ rfl rfl) 10 _ rfl rfl) 11 _ rfl rfl) 12 _ rfl rfl)
                    have H := Lib.hid (show ∀ W', Ext W W' → K (fr (upd V 4 (.int .u64 (p.addr : Nat)))) W' from fun W' he => hK _ _ ⟨upd V 4 (.int .u64 (p.addr : Nat)), rfl, HV.up 4 _ (fun x hx => Option.some.inj hx), fun h0 => RegA.ext (s0 (by unfold More at h0; rwa [if_neg (by decide)] at h0)) he, fun h0 => Ext.trans (s1 (more_ne h0 rfl)) he, fun h0 h1 => OfP.ext (f5 (by unfold More at h0; rwa [if_neg (by decide)] at h0) (more_ne h1 rfl)) he, fun h0 h1 => OfP.ext (f9 (by unfold More at h0; rwa [if_neg (by decide)] at h0) (more_ne h1 rfl)) he⟩)
                    have HU := Lib.hid (show (upd V 4 (.int .u64 (p.addr : Nat))) 1 = .bool true ∧ (upd V 4 (.int .u64 (p.addr : Nat))) 3 = .pointer (some ⟨B, 0, none⟩) from ⟨e1, e3⟩)
                    clear hK hC hW hL HV s0 s1 f5 f9
                    rw [HFR.out]
                    rw [e1, e3]
                    clear e1 e3
                    have hcl := (show Cs W B _ _ from K4.out.ext hB.1).cell 0 (.int .u64 (p.addr : Nat)) rfl
                    clear hB
                    go_wp2_with fail
                    show K _ _
                    have := H.out _ (Ext.refl _)
                    rw [HFR.out] at this
                    obtain ⟨u1, u3⟩ := HU.out
                    rw [u1, u3] at this
                    exact this
                  · rintro L A W K hL hC hW ⟨V, rfl, HV, s0, s1, f5, f9⟩ hK
                    have e1 : V 1 = .bool true := HV 1 _ rfl (hW 1 rfl)
                    have e2 : V 2 = .agg #[.slice (some ⟨b, o, none⟩) la.length ca] := HV 2 _ rfl (hW 2 rfl)
                    have e4 : V 4 = .int .u64 (p.addr : Nat) := HV 4 _ rfl (hW 4 rfl)
                    have hB := s0 (hC.no (hC.no (hC.no hL 10 _ rfl rfl) 11 _ rfl rfl) 12 _ rfl rfl)
                    have H := Lib.hid (show ∀ v W', Ext W W' → (OfP W' qa v) → K (fr (upd V 5 v)) W' from fun v W' he hp => hK _ _ ⟨upd V 5 v, rfl, HV.up 5 _ (fun x hx => absurd hx (by intro h; cases h)), fun h0 => RegA.ext (s0 (by unfold More at h0; rwa [if_neg (by decide)] at h0)) he, fun h0 => Ext.trans (s1 (more_ne h0 rfl)) he, fun h0 h1 => hp, fun h0 h1 => OfP.ext (f9 (by unfold More at h0; rwa [if_neg (by decide)] at h0) (more_ne h1 rfl)) he⟩)
                    have HU := Lib.hid (show ∀ v, (upd V 5 v) 1 = .bool true ∧ (upd V 5 v) 2 = .agg #[.slice (some ⟨b, o, none⟩) la.length ca] ∧ (upd V 5 v) 4 = .int .u64 (p.addr : Nat) from fun v => ⟨e1, e2, e4⟩)
                    clear hK hC hW hL HV s0 s1 f5 f9
                    rw [HFR.out]
                    rw [e1, e2, e4]
                    clear e1 e2 e4
                    have HB' := Lib.hid hB
                    clear hB
                    go_wp2_with fail
                    refine (HOA.out _ HB'.out.1).mono ?_
                    rintro e wx ⟨u', v', rfl, ho, he⟩
                    have := H.out _ _ he (⟨u', v', rfl, ho.1.bs, ho.2.pks⟩)
                    clear H
                    go_wp2_with fail
                    show K _ _
                    rw [HFR.out] at this
                    obtain ⟨u1, u2, u4⟩ := HU.out _
                    rw [u1, u2, u4] at this
                    exact this
                  · rintro L A W K hL hC hW ⟨V, rfl, HV, s0, s1, f5, f9⟩ hK
                    have e1 : V 1 = .bool true := HV 1 _ rfl (hW 1 rfl)
                    have hB := s0 (hC.no (hC.no (hC.no (hC.no hL 9 _ rfl rfl) 10 _ rfl rfl) 11 _ rfl rfl) 12 _ rfl rfl)
                    have H := Lib.hid (show ∀ W', Ext W W' → K (fr (upd V 6 (.agg #[.slice Ab' lb.length cb]))) W' from fun W' he => hK _ _ ⟨upd V 6 (.agg #[.slice Ab' lb.length cb]), rfl, HV.up 6 _ (fun x hx => Option.some.inj hx), fun h0 => RegA.ext (s0 (by unfold More at h0; rwa [if_neg (by decide)] at h0)) he, fun h0 => Ext.trans (s1 (more_ne h0 rfl)) he, fun h0 h1 => OfP.ext (f5 (by unfold More at h0; rwa [if_neg (by decide)] at h0) (more_ne h1 rfl)) he, fun h0 h1 => OfP.ext (f9 (by unfold More at h0; rwa [if_neg (by decide)] at h0) (more_ne h1 rfl)) he⟩)
                    have HU := Lib.hid (show (upd V 6 (.agg #[.slice Ab' lb.length cb])) 1 = .bool true from e1)
                    clear hK hC hW hL HV s0 s1 f5 f9
                    rw [HFR.out]
                    rw [e1]
                    clear e1
                    have hcl := (Cs.ext HG6.out (HE4.out.trans hB.1)).cell 0 _ rfl
                    clear hB
                    go_wp2_with fail
                    show K _ _
                    have := H.out _ (Ext.refl _)
                    rw [HFR.out] at this
                    obtain u1 := HU.out
                    rw [u1] at this
                    exact this
                  · rintro L A W K hL hC hW ⟨V, rfl, HV, s0, s1, f5, f9⟩ hK
                    have e1 : V 1 = .bool true := HV 1 _ rfl (hW 1 rfl)
                    have H := Lib.hid (show ∀ W', Ext W W' → K (fr (upd V 7 (.pointer (some ⟨B, 0, none⟩)))) W' from fun W' he => hK _ _ ⟨upd V 7 (.pointer (some ⟨B, 0, none⟩)), rfl, HV.up 7 _ (fun x hx => Option.some.inj hx), fun h0 => RegA.ext (s0 (by unfold More at h0; rwa [if_neg (by decide)] at h0)) he, fun h0 => Ext.trans (s1 (more_ne h0 rfl)) he, fun h0 h1 => OfP.ext (f5 (by unfold More at h0; rwa [if_neg (by decide)] at h0) (more_ne h1 rfl)) he, fun h0 h1 => OfP.ext (f9 (by unfold More at h0; rwa [if_neg (by decide)] at h0) (more_ne h1 rfl)) he⟩)
                    have HU := Lib.hid (show (upd V 7 (.pointer (some ⟨B, 0, none⟩))) 1 = .bool true from e1)
                    clear hK hC hW hL HV s0 s1 f5 f9
                    rw [HFR.out]
                    rw [e1]
                    clear e1
                    go_wp2_with fail
                    show K _ _
                    have := H.out _ (Ext.refl _)
                    rw [HFR.out] at this
                    obtain u1 := HU.out
                    rw [u1] at this
                    exact this
                  · rintro L A W K hL hC hW ⟨V, rfl, HV, s0, s1, f5, f9⟩ hK
                    have e1 : V 1 = .bool true := HV 1 _ rfl (hW 1 rfl)
                    have e7 : V 7 = .pointer (some ⟨B, 0, none⟩) := HV 7 _ rfl (hW 7 rfl)
                    have hB := s0 (hC.no (hC.no (hC.no (hC.no hL 9 _ rfl rfl) 10 _ rfl rfl) 11 _ rfl rfl) 12 _ rfl rfl)
                    have H := Lib.hid (show ∀ W', Ext W W' → K (fr (upd V 8 (.int .u64 (p.addr : Nat)))) W' from fun W' he => hK _ _ ⟨upd V 8 (.int .u64 (p.addr : Nat)), rfl, HV.up 8 _ (fun x hx => Option.some.inj hx), fun h0 => RegA.ext (s0 (by unfold More at h0; rwa [if_neg (by decide)] at h0)) he, fun h0 => Ext.trans (s1 (more_ne h0 rfl)) he, fun h0 h1 => OfP.ext (f5 (by unfold More at h0; rwa [if_neg (by decide)] at h0) (more_ne h1 rfl)) he, fun h0 h1 => OfP.ext (f9 (by unfold More at h0; rwa [if_neg (by decide)] at h0) (more_ne h1 rfl)) he⟩)
                    have HU := Lib.hid (show (upd V 8 (.int .u64 (p.addr : Nat))) 1 = .bool true ∧ (upd V 8 (.int .u64 (p.addr : Nat))) 7 = .pointer (some ⟨B, 0, none⟩) from ⟨e1, e7⟩)
                    clear hK hC hW hL HV s0 s1 f5 f9
                    rw [HFR.out]
                    rw [e1, e7]
                    clear e1 e7
                    have hcl := (show Cs W B _ _ from K4.out.ext hB.1).cell 0 (.int .u64 (p.addr : Nat)) rfl
                    clear hB
                    go_wp2_with fail
                    show K _ _
                    have := H.out _ (Ext.refl _)
                    rw [HFR.out] at this
                    obtain ⟨u1, u7⟩ := HU.out
                    rw [u1, u7] at this
                    exact this
                  · rintro L A W K hL hC hW ⟨V, rfl, HV, s0, s1, f5, f9⟩ hK
                    have e1 : V 1 = .bool true := HV 1 _ rfl (hW 1 rfl)
                    have e6 : V 6 = .agg #[.slice Ab' lb.length cb] := HV 6 _ rfl (hW 6 rfl)
                    have e8 : V 8 = .int .u64 (p.addr : Nat) := HV 8 _ rfl (hW 8 rfl)
                    have hB := s0 (hC.no (hC.no (hC.no hL 10 _ rfl rfl) 11 _ rfl rfl) 12 _ rfl rfl)
                    have H := Lib.hid (show ∀ v W', Ext W W' → (OfP W' qb v) → K (fr (upd V 9 v)) W' from fun v W' he hp => hK _ _ ⟨upd V 9 v, rfl, HV.up 9 _ (fun x hx => absurd hx (by intro h; cases h)), fun h0 => RegA.ext (s0 (by unfold More at h0; rwa [if_neg (by decide)] at h0)) he, fun h0 => Ext.trans (s1 (more_ne h0 rfl)) he, fun h0 h1 => OfP.ext (f5 (by unfold More at h0; rwa [if_neg (by decide)] at h0) (more_ne h1 rfl)) he, fun h0 h1 => hp⟩)
                    have HU := Lib.hid (show ∀ v, (upd V 9 v) 1 = .bool true ∧ (upd V 9 v) 6 = .agg #[.slice Ab' lb.length cb] ∧ (upd V 9 v) 8 = .int .u64 (p.addr : Nat) from fun v => ⟨e1, e6, e8⟩)
                    clear hK hC hW hL HV s0 s1 f5 f9
                    rw [HFR.out]
                    rw [e1, e6, e8]
                    clear e1 e6 e8
                    have HB' := Lib.hid hB
                    clear hB
                    go_wp2_with fail
                    refine (HOB.out _ HB'.out.1).mono ?_
                    rintro e wx ⟨u', v', rfl, ho, he⟩
                    have := H.out _ _ he (⟨u', v', rfl, ho.1.bs, ho.2.pks⟩)
                    clear H
                    go_wp2_with fail
                    show K _ _
                    rw [HFR.out] at this
                    obtain ⟨u1, u6, u8⟩ := HU.out _
                    rw [u1, u6, u8] at this
                    exact this
                  · rintro L A W K hL hC hW ⟨V, rfl, HV, s0, s1, f5, f9⟩ hK
                    have e1 : V 1 = .bool true := HV 1 _ rfl (hW 1 rfl)
                    have hB := s0 (hC.no (hC.no hL 11 _ rfl rfl) 12 _ rfl rfl)
                    have q5 := f5 (hC.no (hC.no hL 11 _ rfl rfl) 12 _ rfl rfl) (hW 5 rfl)
                    obtain ⟨u5, v5, e5, z5⟩ := q5
                    have q9 := f9 (hC.no (hC.no hL 11 _ rfl rfl) 12 _ rfl rfl) (hW 9 rfl)
                    obtain ⟨u9, v9, e9, z9⟩ := q9
                    have H := Lib.hid (show ∀ W', Ext W W' → K (fr (upd V 10 (.bool (qa.eqB qb)))) W' from fun W' he => hK _ _ ⟨upd V 10 (.bool (qa.eqB qb)), rfl, HV.up 10 _ (fun x hx => Option.some.inj hx), fun h0 => RegA.ext (s0 (by unfold More at h0; rwa [if_neg (by decide)] at h0)) he, fun h0 => Ext.trans (s1 (more_ne h0 rfl)) he, fun h0 h1 => OfP.ext (f5 (by unfold More at h0; rwa [if_neg (by decide)] at h0) (more_ne h1 rfl)) he, fun h0 h1 => OfP.ext (f9 (by unfold More at h0; rwa [if_neg (by decide)] at h0) (more_ne h1 rfl)) he⟩)
                    have HU := Lib.hid (show (upd V 10 (.bool (qa.eqB qb))) 1 = .bool true ∧ (upd V 10 (.bool (qa.eqB qb))) 5 = .agg (acc qa u5 v5) ∧ (upd V 10 (.bool (qa.eqB qb))) 9 = .agg (acc qb u9 v9) from ⟨e1, e5, e9⟩)
                    clear hK hC hW hL HV s0 s1 f5 f9
                    rw [HFR.out]
                    rw [e1, e5, e9]
                    clear e1 e5 e9
                    clear hB
                    have Z5 := Lib.hid z5
                    have Z9 := Lib.hid z9
                    clear z5 z9
                    go_wp2_with fail
                    refine (lawSame_any qa qb u5 v5 u9 v9 _ HQA.out HQB.out Z5.out.1 Z5.out.2 Z9.out.1 Z9.out.2).mono ?_
                    rintro e wx ⟨rfl, he⟩
                    have := H.out _ he
                    clear H
                    go_wp2_with fail
                    show K _ _
                    rw [HFR.out] at this
                    obtain ⟨u1, u5, u9⟩ := HU.out
                    rw [u1, u5, u9] at this
                    exact this
                  · rintro L A W K hL hC hW ⟨V, rfl, HV, s0, s1, f5, f9⟩ hK
                    have e1 : V 1 = .bool true := HV 1 _ rfl (hW 1 rfl)
                    have e10 : V 10 = .bool (qa.eqB qb) := HV 10 _ rfl (hW 10 rfl)
                    have H := Lib.hid (show ∀ W', Ext W W' → K (fr (upd V 11 (.bool (qa.eqB qb)))) W' from fun W' he => hK _ _ ⟨upd V 11 (.bool (qa.eqB qb)), rfl, HV.up 11 _ (fun x hx => Option.some.inj hx), fun h0 => RegA.ext (s0 (by unfold More at h0; rwa [if_neg (by decide)] at h0)) he, fun h0 => Ext.trans (s1 (more_ne h0 rfl)) he, fun h0 h1 => OfP.ext (f5 (by unfold More at h0; rwa [if_neg (by decide)] at h0) (more_ne h1 rfl)) he, fun h0 h1 => OfP.ext (f9 (by unfold More at h0; rwa [if_neg (by decide)] at h0) (more_ne h1 rfl)) he⟩)
                    have HU := Lib.hid (show (upd V 11 (.bool (qa.eqB qb))) 1 = .bool true ∧ (upd V 11 (.bool (qa.eqB qb))) 10 = .bool (qa.eqB qb) from ⟨e1, e10⟩)
                    clear hK hC hW hL HV s0 s1 f5 f9
                    rw [HFR.out]
                    rw [e1, e10]
                    clear e1 e10
                    go_wp2_with fail
                    show K _ _
                    have := H.out _ (Ext.refl _)
                    rw [HFR.out] at this
                    obtain ⟨u1, u10⟩ := HU.out
                    rw [u1, u10] at this
                    exact this
                  · rintro L A W K hL hC hW ⟨V, rfl, HV, s0, s1, f5, f9⟩ hK
                    have e11 : V 11 = .bool (qa.eqB qb) := HV 11 _ rfl (hW 11 rfl)
                    have hB := s0 hL
                    have H := Lib.hid (show ∀ W', (Ext w4 W') → K (fr (upd V 12 (.bool (qa.eqB qb)))) W' from fun W' hA => hK _ _ ⟨upd V 12 (.bool (qa.eqB qb)), rfl, HV.up 12 _ (fun x hx => Option.some.inj hx), fun h0 => absurd h0 (by unfold More; rw [if_pos rfl]; simp), fun h0 => hA, fun h0 h1 => absurd h0 (by unfold More; rw [if_pos rfl]; simp), fun h0 h1 => absurd h0 (by unfold More; rw [if_pos rfl]; simp)⟩)
                    have HU := Lib.hid (show (upd V 12 (.bool (qa.eqB qb))) 11 = .bool (qa.eqB qb) from e11)
                    clear hK hC hW hL HV s0 s1 f5 f9
                    rw [HFR.out]
                    rw [e11]
                    clear e11
                    have HA := Lib.hid hB.1
                    clear hB
                    go_wp2_with fail
                    show K _ _
                    have := H.out _ HA.out
                    rw [HFR.out] at this
                    obtain u11 := HU.out
                    rw [u11] at this
                    exact this
                  · rintro L A W hL ⟨V, rfl, HV, s0, s1, f5, f9⟩
                    have e0 : V 0 = .bool true := HV 0 _ rfl (hL 0 (by simp))
                    have e1 : V 1 = .bool true := HV 1 _ rfl (hL 1 (by simp))
                    have e2 : V 2 = .agg #[.slice (some ⟨b, o, none⟩) la.length ca] := HV 2 _ rfl (hL 2 (by simp))
                    have e3 : V 3 = .pointer (some ⟨B, 0, none⟩) := HV 3 _ rfl (hL 3 (by simp))
                    have e4 : V 4 = .int .u64 (p.addr : Nat) := HV 4 _ rfl (hL 4 (by simp))
                    have e6 : V 6 = .agg #[.slice Ab' lb.length cb] := HV 6 _ rfl (hL 6 (by simp))
                    have e7 : V 7 = .pointer (some ⟨B, 0, none⟩) := HV 7 _ rfl (hL 7 (by simp))
                    have e8 : V 8 = .int .u64 (p.addr : Nat) := HV 8 _ rfl (hL 8 (by simp))
                    have e10 : V 10 = .bool (qa.eqB qb) := HV 10 _ rfl (hL 10 (by simp))
                    have e11 : V 11 = .bool (qa.eqB qb) := HV 11 _ rfl (hL 11 (by simp))
                    have e12 : V 12 = .bool (qa.eqB qb) := HV 12 _ rfl (hL 12 (by simp))
                    have hA := s1 (hL 12 (by simp))
                    rw [HFR.out]
                    rw [e0, e1, e2, e3, e4, e6, e7, e8, e10, e11, e12]
                    clear hL HV HFR e0 e1 e2 e3 e4 e6 e7 e8 e10 e11 e12 s0 s1 f5 f9
                    have HA4 := Lib.hid hA
                    clear hA
                    go_wp2_with fail
                    exact ⟨⟨k + 1, by omega, by go_num, by rw [HFT.out], Lib.hid (HE4.out.trans HA4.out)⟩, by simp [intOf]; omega⟩
              · obtain rfl : k = la.length := by omega
                rw [List.take_length] at hfv
                have HFF := Lib.hid (show (pre && la.all (okZ la lb)) = preF la lb 1 from HPRE.out.symm)
                rw [HFF.out] at hfv
                subst hfv
                go_wp2_with fail
                exact ⟨⟨1, by omega, by go_num, rfl, HE⟩, by simp [intOf]⟩
          · obtain ⟨pre, hpre⟩ : ∃ pre, preF la lb 1 = pre := ⟨_, rfl⟩
            have HPRE := Lib.hid (show preF la lb 2 = (pre && lb.all (okZ la lb)) by rw [← hpre]; unfold preF; first | rfl | simp)
            rw [hpre]
            clear hpre
            rw [show ((1 : Nat) : Int) = 1 from rfl]
            have ix1 := idxS1 Aa Ab' la.length ca lb.length cb
            
            
            go_wp2_with fail
            go_loopw [7, 35] (fun fv jv wi => ∃ k : Nat, k ≤ lb.length ∧ jv = .int .i64 k ∧ fv = .bool (pre && (lb.take k).all (okZ la lb)) ∧ Hid (Ext wC wi)) (fun _ jv _ => lb.length - (intOf jv).toNat)
            case atStart => exact ⟨0, by omega, rfl, by simp, Lib.hid (HE.out.trans ((Ext.refl _).alloc _))⟩
            case round =>
              clear HE
              obtain ⟨k, hk, rfl, hfv, HE⟩ := hrel
              by_cases hlt : k < lb.length
              · have hd : decide (k < lb.length) = true := decide_eq_true hlt
                have h50 : lb.length ≤ 50 := HLen.out.2
                have HAL := Lib.hid (all_snoc lb (okZ la lb) k hlt)
                obtain ⟨b, o, u, v, rfl, hrg, hu, hv, hok⟩ := (HB.out.ext HE.out).at k hlt
                have HR := Lib.hid hrg
                have HU := Lib.hid hu
                have HV := Lib.hid hv
                have HOK := Lib.hid hok
                clear hrg hu hv hok
                obtain ⟨p, hp⟩ : ∃ p, lb.getD k acz = p := ⟨_, rfl⟩
                rw [hp] at HR HU HV HOK HAL
                clear hp
                obtain ⟨fl, hfl⟩ : ∃ fl, (pre && (lb.take k).all (okZ la lb)) = fl := ⟨_, rfl⟩
                have HFL := Lib.hid (show (pre && (lb.take (k + 1)).all (okZ la lb)) = (fl && okZ la lb p) by rw [HAL.out, ← Bool.and_assoc, hfl])
                rw [hfl] at hfv
                subst hfv
                clear hfl HAL
                cases fl with
                | false =>
                  go_upto_region 13 with (first
                    | ((with_reducible refine wpList_load_ac ?_ (.tmp 37) ?_ b (o + k * 8) p u v ?_ ?_ ?_); (exact rfl); (exact rfl); (exact rfl); (exact HR.out))
                    | ((with_reducible refine wpList_store_ac ?_ ?_ (.tmp 11) (.tmp 38) ?_ wr.heap.size az0 p u v ?_ ?_ ?_ ?_ ?_ ?_ ?_); (exact rfl); (exact rfl); (exact rfl); (exact bs_one HU.out); (exact pks_one HV.out); (exact rfl); (exact rfl); (exact Cs.new _ _ _ _ rfl); (exact rfl); intro w4 k4 g4; have K4 := Lib.hid k4; have HX4 := Lib.hid (((Ext.refl wr).alloc _).grown g4 (Nat.le_refl _)); clear k4 g4))
                  have HFF := Lib.hid (show (pre && (lb.take (k + 1)).all (okZ la lb)) = false by rw [HFL.out]; rfl)
                  go_quiet (fail)
                  go_wp2_with fail
                  exact ⟨⟨k + 1, by omega, by go_num, by rw [HFF.out], Lib.hid (ext_drewN' (HE.out.trans HX4.out) nq)⟩, by simp [intOf]; omega⟩
                | true =>
                  go_upto_region 13 with (first
                    | ((with_reducible refine wpList_load_ac ?_ (.tmp 37) ?_ b (o + k * 8) p u v ?_ ?_ ?_); (exact rfl); (exact rfl); (exact rfl); (exact HR.out))
                    | ((with_reducible refine wpList_store_ac ?_ ?_ (.tmp 11) (.tmp 38) ?_ wr.heap.size az0 p u v ?_ ?_ ?_ ?_ ?_ ?_ ?_); (exact rfl); (exact rfl); (exact rfl); (exact bs_one HU.out); (exact pks_one HV.out); (exact rfl); (exact rfl); (exact Cs.new _ _ _ _ rfl); (exact rfl); intro w4 k4 g4; have K4 := Lib.hid k4; have HX4 := Lib.hid (((Ext.refl wr).alloc _).grown g4 (Nat.le_refl _)); clear k4 g4))
                  have HE4 := Lib.hid (HE.out.trans HX4.out)
                  have HOA := Lib.hid (fun W (h : Ext w4 W) => stateOf_any _ la p.addr W (HA.out.ext (HE4.out.trans h)) HOK.out.1 (by have := HLen.out.1; omega))
                  have HOB := Lib.hid (fun W (h : Ext w4 W) => stateOf_any _ lb p.addr W (HB.out.ext (HE4.out.trans h)) HOK.out.1 (by have := HLen.out.2; omega))
                  have HQA := Lib.hid (ofA_ok HRa.out HA.out p.addr HOK.out.1)
                  have HQB := Lib.hid (ofA_ok HRb.out HB.out p.addr HOK.out.1)
                  have HFT : Hid ((pre && (lb.take (k + 1)).all (okZ la lb)) = (ofA la p.addr).eqB (ofA lb p.addr)) := Lib.hid (by rw [HFL.out]; rfl)
                  generalize ofA la p.addr = qa at *
                  generalize ofA lb p.addr = qb at *
                  obtain ⟨B, hB'⟩ : ∃ B, wr.heap.size = B := ⟨_, rfl⟩
                  rw [hB'] at K4 ⊢
                  clear hB' HR HU HV HOK HX4 HFL
                  refine wp_named fun a0 ha0 => ?_
                  obtain ⟨fr, hfr⟩ : ∃ fr : (Nat → Value) → Act, ∀ V, fr V = (((((((((((((a0.put (some 39) (V 0)).put (some 40) (V 1)).put (some 41) (V 2)).put (some 42) (V 3)).put (some 43) (V 4)).put (some 44) (V 5)).put (some 45) (V 6)).put (some 46) (V 7)).put (some 47) (V 8)).put (some 48) (V 9)).put (some 49) (V 10)).put (some 50) (V 11)).put (some 7) (V 12)) := ⟨fun V => (((((((((((((a0.put (some 39) (V 0)).put (some 40) (V 1)).put (some 41) (V 2)).put (some 42) (V 3)).put (some 43) (V 4)).put (some 44) (V 5)).put (some 45) (V 6)).put (some 46) (V 7)).put (some 47) (V 8)).put (some 48) (V 9)).put (some 49) (V 10)).put (some 50) (V 11)).put (some 7) (V 12)), fun _ => rfl⟩
                  rw [ha0] at hfr
                  simp only [Act.put, List.setIfInBounds_toArray, List.set_cons_zero, List.set_cons_succ] at hfr
                  have HFR := Lib.hid hfr
                  clear hfr
                  refine wp_region_inv (by kernel_rfl) (by kernel_rfl) (fun L A W => ∃ V : Nat → Value, A = fr V ∧ Vals (fun j => ([some (.bool true), some (.bool true), some (.agg #[.slice Aa la.length ca]), some (.pointer (some ⟨B, 0, none⟩)), some (.int .u64 (p.addr : Nat)), none, some (.agg #[.slice (some ⟨b, o, none⟩) lb.length cb]), some (.pointer (some ⟨B, 0, none⟩)), some (.int .u64 (p.addr : Nat)), none, some (.bool (qa.eqB qb)), some (.bool (qa.eqB qb)), some (.bool (qa.eqB qb))] : List (Option Value)).getD j none) L V ∧ (L 12 = false → Ext w4 W ∧ V 12 = .bool true) ∧ (L 12 = true → Ext w4 W) ∧ (L 12 = false → L 5 = true → OfP W qa (V 5)) ∧ (L 12 = false → L 9 = true → OfP W qb (V 9))) ?_ ⟨?_, ?_, ?_, ?_, ?_, ?_, ?_, ?_, ?_, ?_, ?_, ?_, ?_, trivial⟩ ?_
                  · refine ⟨fun j => a0.tmps.getD (([39, 40, 41, 42, 43, 44, 45, 46, 47, 48, 49, 50, 7] : List Nat).getD j 0) undef, ?_, Vals.no _ _ _ (far_none _ _ rfl), fun _ => ⟨(Ext.refl _).drew, by show a0.tmps.getD 7 undef = _; rw [ha0]; rfl⟩, fun h0 => absurd h0 (by decide), fun h0 h1 => absurd h1 (by decide), fun h0 h1 => absurd h1 (by decide)⟩
                    rw [HFR.out, ha0]
                    rfl
                  all_goals clear ha0
                  · rintro L A W K hL hC hW ⟨V, rfl, HV, s0, s1, f5, f9⟩ hK
                    have hB := s0 (hC.no (hC.no (hC.no hL 1 _ rfl rfl) 11 _ rfl rfl) 12 _ rfl rfl)
                    have e12 : V 12 = .bool true := hB.2
                    have H := Lib.hid (show ∀ W', Ext W W' → K (fr (upd V 0 (.bool true))) W' from fun W' he => hK _ _ ⟨upd V 0 (.bool true), rfl, HV.up 0 _ (fun x hx => Option.some.inj hx), fun h0 => RegA.ext (s0 (by unfold More at h0; rwa [if_neg (by decide)] at h0)) he, fun h0 => Ext.trans (s1 (more_ne h0 rfl)) he, fun h0 h1 => OfP.ext (f5 (by unfold More at h0; rwa [if_neg (by decide)] at h0) (more_ne h1 rfl)) he, fun h0 h1 => OfP.ext (f9 (by unfold More at h0; rwa [if_neg (by decide)] at h0) (more_ne h1 rfl)) he⟩)
                    have HU := Lib.hid (show (upd V 0 (.bool true)) 12 = .bool true from e12)
                    clear hK hC hW hL HV s0 s1 f5 f9
                    rw [HFR.out]
                    rw [e12]
                    clear e12
                    clear hB
                    go_wp2_with fail
                    show K _ _
                    have := H.out _ (Ext.refl _)
                    rw [HFR.out] at this
                    obtain u12 := HU.out
                    rw [u12] at this
                    exact this
                  · rintro L A W K hL hC hW ⟨V, rfl, HV, s0, s1, f5, f9⟩ hK
                    have e0 : V 0 = .bool true := HV 0 _ rfl (hW 0 rfl)
                    have H := Lib.hid (show ∀ W', Ext W W' → K (fr (upd V 1 (.bool true))) W' from fun W' he => hK _ _ ⟨upd V 1 (.bool true), rfl, HV.up 1 _ (fun x hx => Option.some.inj hx), fun h0 => RegA.ext (s0 (by unfold More at h0; rwa [if_neg (by decide)] at h0)) he, fun h0 => Ext.trans (s1 (more_ne h0 rfl)) he, fun h0 h1 => OfP.ext (f5 (by unfold More at h0; rwa [if_neg (by decide)] at h0) (more_ne h1 rfl)) he, fun h0 h1 => OfP.ext (f9 (by unfold More at h0; rwa [if_neg (by decide)] at h0) (more_ne h1 rfl)) he⟩)
                    have HU := Lib.hid (show (upd V 1 (.bool true)) 0 = .bool true from e0)
                    clear hK hC hW hL HV s0 s1 f5 f9
                    rw [HFR.out]
                    rw [e0]
                    clear e0
                    go_wp2_with fail
                    show K _ _
                    have := H.out _ (Ext.refl _)
                    rw [HFR.out] at this
                    obtain u0 := HU.out
                    rw [u0] at this
                    exact this
                  · rintro L A W K hL hC hW ⟨V, rfl, HV, s0, s1, f5, f9⟩ hK
                    have e1 : V 1 = .bool true := HV 1 _ rfl (hW 1 rfl)
                    have hB := s0 (hC.no (hC.no (hC.no (hC.no hL 5 _ rfl rfl) 10 _ rfl rfl) 11 _ rfl rfl) 12 _ rfl rfl)
                    have H := Lib.hid (show ∀ W', Ext W W' → K (fr (upd V 2 (.agg #[.slice Aa la.length ca]))) W' from fun W' he => hK _ _ ⟨upd V 2 (.agg #[.slice Aa la.length ca]), rfl, HV.up 2 _ (fun x hx => Option.some.inj hx), fun h0 => RegA.ext (s0 (by unfold More at h0; rwa [if_neg (by decide)] at h0)) he, fun h0 => Ext.trans (s1 (more_ne h0 rfl)) he, fun h0 h1 => OfP.ext (f5 (by unfold More at h0; rwa [if_neg (by decide)] at h0) (more_ne h1 rfl)) he, fun h0 h1 => OfP.ext (f9 (by unfold More at h0; rwa [if_neg (by decide)] at h0) (more_ne h1 rfl)) he⟩)
                    have HU := Lib.hid (show (upd V 2 (.agg #[.slice Aa la.length ca])) 1 = .bool true from e1)
                    clear hK hC hW hL HV s0 s1 f5 f9
                    rw [HFR.out]
                    rw [e1]
                    clear e1
                    have hcl := (Cs.ext HG5.out (HE4.out.trans hB.1)).cell 0 _ rfl
                    clear hB
                    go_wp2_with fail
                    show K _ _
                    have := H.out _ (Ext.refl _)
                    rw [HFR.out] at this
                    obtain u1 := HU.out
                    rw [u1] at this
                    exact this
                  · rintro L A W K hL hC hW ⟨V, rfl, HV, s0, s1, f5, f9⟩ hK
                    have e1 : V 1 = .bool true := HV 1 _ rfl (hW 1 rfl)
                    have H := Lib.hid (show ∀ W', Ext W W' → K (fr (upd V 3 (.pointer (some ⟨B, 0, none⟩)))) W' from fun W' he => hK _ _ ⟨upd V 3 (.pointer (some ⟨B, 0, none⟩)), rfl, HV.up 3 _ (fun x hx => Option.some.inj hx), fun h0 => RegA.ext (s0 (by unfold More at h0; rwa [if_neg (by decide)] at h0)) he, fun h0 => Ext.trans (s1 (more_ne h0 rfl)) he, fun h0 h1 => OfP.ext (f5 (by unfold More at h0; rwa [if_neg (by decide)] at h0) (more_ne h1 rfl)) he, fun h0 h1 => OfP.ext (f9 (by unfold More at h0; rwa [if_neg (by decide)] at h0) (more_ne h1 rfl)) he⟩)
                    have HU := Lib.hid (show (upd V 3 (.pointer (some ⟨B, 0, none⟩))) 1 = .bool true from e1)
                    clear hK hC hW hL HV s0 s1 f5 f9
                    rw [HFR.out]
                    rw [e1]
                    clear e1
                    go_wp2_with fail
                    show K _ _
                    have := H.out _ (Ext.refl _)
                    rw [HFR.out] at this
                    obtain u1 := HU.out
                    rw [u1] at this
                    exact this
                  · rintro L A W K hL hC hW ⟨V, rfl, HV, s0, s1, f5, f9⟩ hK
                    have e1 : V 1 = .bool true := HV 1 _ rfl (hW 1 rfl)
                    have e3 : V 3 = .pointer (some ⟨B, 0, none⟩) := HV 3 _ rfl (hW 3 rfl)
                    have hB := s0 (hC.no (hC.no (hC.no (hC.no hL 5 _ rfl rfl) 10 _ rfl rfl) 11 _ rfl rfl) 12 _ rfl rfl)
                    have H := Lib.hid (show ∀ W', Ext W W' → K (fr (upd V 4 (.int .u64 (p.addr : Nat)))) W' from fun W' he => hK _ _ ⟨upd V 4 (.int .u64 (p.addr : Nat)), rfl, HV.up 4 _ (fun x hx => Option.some.inj hx), fun h0 => RegA.ext (s0 (by unfold More at h0; rwa [if_neg (by decide)] at h0)) he, fun h0 => Ext.trans (s1 (more_ne h0 rfl)) he, fun h0 h1 => OfP.ext (f5 (by unfold More at h0; rwa [if_neg (by decide)] at h0) (more_ne h1 rfl)) he, fun h0 h1 => OfP.ext (f9 (by unfold More at h0; rwa [if_neg (by decide)] at h0) (more_ne h1 rfl)) he⟩)
                    have HU := Lib.hid (show (upd V 4 (.int .u64 (p.addr : Nat))) 1 = .bool true ∧ (upd V 4 (.int .u64 (p.addr : Nat))) 3 = .pointer (some ⟨B, 0, none⟩) from ⟨e1, e3⟩)
                    clear hK hC hW hL HV s0 s1 f5 f9
                    rw [HFR.out]
                    rw [e1, e3]
                    clear e1 e3
                    have hcl := (show Cs W B _ _ from K4.out.ext hB.1).cell 0 (.int .u64 (p.addr : Nat)) rfl
                    clear hB
                    go_wp2_with fail
                    show K _ _
                    have := H.out _ (Ext.refl _)
                    rw [HFR.out] at this
                    obtain ⟨u1, u3⟩ := HU.out
                    rw [u1, u3] at this
                    exact this
                  · rintro L A W K hL hC hW ⟨V, rfl, HV, s0, s1, f5, f9⟩ hK
                    have e1 : V 1 = .bool true := HV 1 _ rfl (hW 1 rfl)
                    have e2 : V 2 = .agg #[.slice Aa la.length ca] := HV 2 _ rfl (hW 2 rfl)
                    have e4 : V 4 = .int .u64 (p.addr : Nat) := HV 4 _ rfl (hW 4 rfl)
                    have hB := s0 (hC.no (hC.no (hC.no hL 10 _ rfl rfl) 11 _ rfl rfl) 12 _ rfl rfl)
                    have H := Lib.hid (show ∀ v W', Ext W W' → (OfP W' qa v) → K (fr (upd V 5 v)) W' from fun v W' he hp => hK _ _ ⟨upd V 5 v, rfl, HV.up 5 _ (fun x hx => absurd hx (by intro h; cases h)), fun h0 => RegA.ext (s0 (by unfold More at h0; rwa [if_neg (by decide)] at h0)) he, fun h0 => Ext.trans (s1 (more_ne h0 rfl)) he, fun h0 h1 => hp, fun h0 h1 => OfP.ext (f9 (by unfold More at h0; rwa [if_neg (by decide)] at h0) (more_ne h1 rfl)) he⟩)
                    have HU := Lib.hid (show ∀ v, (upd V 5 v) 1 = .bool true ∧ (upd V 5 v) 2 = .agg #[.slice Aa la.length ca] ∧ (upd V 5 v) 4 = .int .u64 (p.addr : Nat) from fun v => ⟨e1, e2, e4⟩)
                    clear hK hC hW hL HV s0 s1 f5 f9
                    rw [HFR.out]
                    rw [e1, e2, e4]
                    clear e1 e2 e4
                    have HB' := Lib.hid hB
                    clear hB
                    go_wp2_with fail
                    refine (HOA.out _ HB'.out.1).mono ?_
                    rintro e wx ⟨u', v', rfl, ho, he⟩
                    have := H.out _ _ he (⟨u', v', rfl, ho.1.bs, ho.2.pks⟩)
                    clear H
                    go_wp2_with fail
                    show K _ _
                    rw [HFR.out] at this
                    obtain ⟨u1, u2, u4⟩ := HU.out _
                    rw [u1, u2, u4] at this
                    exact this
                  · rintro L A W K hL hC hW ⟨V, rfl, HV, s0, s1, f5, f9⟩ hK
                    have e1 : V 1 = .bool true := HV 1 _ rfl (hW 1 rfl)
                    have hB := s0 (hC.no (hC.no (hC.no (hC.no hL 9 _ rfl rfl) 10 _ rfl rfl) 11 _ rfl rfl) 12 _ rfl rfl)
                    have H := Lib.hid (show ∀ W', Ext W W' → K (fr (upd V 6 (.agg #[.slice (some ⟨b, o, none⟩) lb.length cb]))) W' from fun W' he => hK _ _ ⟨upd V 6 (.agg #[.slice (some ⟨b, o, none⟩) lb.length cb]), rfl, HV.up 6 _ (fun x hx => Option.some.inj hx), fun h0 => RegA.ext (s0 (by unfold More at h0; rwa [if_neg (by decide)] at h0)) he, fun h0 => Ext.trans (s1 (more_ne h0 rfl)) he, fun h0 h1 => OfP.ext (f5 (by unfold More at h0; rwa [if_neg (by decide)] at h0) (more_ne h1 rfl)) he, fun h0 h1 => OfP.ext (f9 (by unfold More at h0; rwa [if_neg (by decide)] at h0) (more_ne h1 rfl)) he⟩)
                    have HU := Lib.hid (show (upd V 6 (.agg #[.slice (some ⟨b, o, none⟩) lb.length cb])) 1 = .bool true from e1)
                    clear hK hC hW hL HV s0 s1 f5 f9
                    rw [HFR.out]
                    rw [e1]
                    clear e1
                    have hcl := (Cs.ext HG6.out (HE4.out.trans hB.1)).cell 0 _ rfl
                    clear hB
                    go_wp2_with fail
                    show K _ _
                    have := H.out _ (Ext.refl _)
                    rw [HFR.out] at this
                    obtain u1 := HU.out
                    rw [u1] at this
                    exact this
                  · rintro L A W K hL hC hW ⟨V, rfl, HV, s0, s1, f5, f9⟩ hK
                    have e1 : V 1 = .bool true := HV 1 _ rfl (hW 1 rfl)
                    have H := Lib.hid (show ∀ W', Ext W W' → K (fr (upd V 7 (.pointer (some ⟨B, 0, none⟩)))) W' from fun W' he => hK _ _ ⟨upd V 7 (.pointer (some ⟨B, 0, none⟩)), rfl, HV.up 7 _ (fun x hx => Option.some.inj hx), fun h0 => RegA.ext (s0 (by unfold More at h0; rwa [if_neg (by decide)] at h0)) he, fun h0 => Ext.trans (s1 (more_ne h0 rfl)) he, fun h0 h1 => OfP.ext (f5 (by unfold More at h0; rwa [if_neg (by decide)] at h0) (more_ne h1 rfl)) he, fun h0 h1 => OfP.ext (f9 (by unfold More at h0; rwa [if_neg (by decide)] at h0) (more_ne h1 rfl)) he⟩)
                    have HU := Lib.hid (show (upd V 7 (.pointer (some ⟨B, 0, none⟩))) 1 = .bool true from e1)
                    clear hK hC hW hL HV s0 s1 f5 f9
                    rw [HFR.out]
                    rw [e1]
                    clear e1
                    go_wp2_with fail
                    show K _ _
                    have := H.out _ (Ext.refl _)
                    rw [HFR.out] at this
                    obtain u1 := HU.out
                    rw [u1] at this
                    exact this
                  · rintro L A W K hL hC hW ⟨V, rfl, HV, s0, s1, f5, f9⟩ hK
                    have e1 : V 1 = .bool true := HV 1 _ rfl (hW 1 rfl)
                    have e7 : V 7 = .pointer (some ⟨B, 0, none⟩) := HV 7 _ rfl (hW 7 rfl)
                    have hB := s0 (hC.no (hC.no (hC.no (hC.no hL 9 _ rfl rfl) 10 _ rfl rfl) 11 _ rfl rfl) 12 _ rfl rfl)
                    have H := Lib.hid (show ∀ W', Ext W W' → K (fr (upd V 8 (.int .u64 (p.addr : Nat)))) W' from fun W' he => hK _ _ ⟨upd V 8 (.int .u64 (p.addr : Nat)), rfl, HV.up 8 _ (fun x hx => Option.some.inj hx), fun h0 => RegA.ext (s0 (by unfold More at h0; rwa [if_neg (by decide)] at h0)) he, fun h0 => Ext.trans (s1 (more_ne h0 rfl)) he, fun h0 h1 => OfP.ext (f5 (by unfold More at h0; rwa [if_neg (by decide)] at h0) (more_ne h1 rfl)) he, fun h0 h1 => OfP.ext (f9 (by unfold More at h0; rwa [if_neg (by decide)] at h0) (more_ne h1 rfl)) he⟩)
                    have HU := Lib.hid (show (upd V 8 (.int .u64 (p.addr : Nat))) 1 = .bool true ∧ (upd V 8 (.int .u64 (p.addr : Nat))) 7 = .pointer (some ⟨B, 0, none⟩) from ⟨e1, e7⟩)
                    clear hK hC hW hL HV s0 s1 f5 f9
                    rw [HFR.out]
                    rw [e1, e7]
                    clear e1 e7
                    have hcl := (show Cs W B _ _ from K4.out.ext hB.1).cell 0 (.int .u64 (p.addr : Nat)) rfl
                    clear hB
                    go_wp2_with fail
                    show K _ _
                    have := H.out _ (Ext.refl _)
                    rw [HFR.out] at this
                    obtain ⟨u1, u7⟩ := HU.out
                    rw [u1, u7] at this
                    exact this
                  · rintro L A W K hL hC hW ⟨V, rfl, HV, s0, s1, f5, f9⟩ hK
                    have e1 : V 1 = .bool true := HV 1 _ rfl (hW 1 rfl)
                    have e6 : V 6 = .agg #[.slice (some ⟨b, o, none⟩) lb.length cb] := HV 6 _ rfl (hW 6 rfl)
                    have e8 : V 8 = .int .u64 (p.addr : Nat) := HV 8 _ rfl (hW 8 rfl)
                    have hB := s0 (hC.no (hC.no (hC.no hL 10 _ rfl rfl) 11 _ rfl rfl) 12 _ rfl rfl)
                    have H := Lib.hid (show ∀ v W', Ext W W' → (OfP W' qb v) → K (fr (upd V 9 v)) W' from fun v W' he hp => hK _ _ ⟨upd V 9 v, rfl, HV.up 9 _ (fun x hx => absurd hx (by intro h; cases h)), fun h0 => RegA.ext (s0 (by unfold More at h0; rwa [if_neg (by decide)] at h0)) he, fun h0 => Ext.trans (s1 (more_ne h0 rfl)) he, fun h0 h1 => OfP.ext (f5 (by unfold More at h0; rwa [if_neg (by decide)] at h0) (more_ne h1 rfl)) he, fun h0 h1 => hp⟩)
                    have HU := Lib.hid (show ∀ v, (upd V 9 v) 1 = .bool true ∧ (upd V 9 v) 6 = .agg #[.slice (some ⟨b, o, none⟩) lb.length cb] ∧ (upd V 9 v) 8 = .int .u64 (p.addr : Nat) from fun v => ⟨e1, e6, e8⟩)
                    clear hK hC hW hL HV s0 s1 f5 f9
                    rw [HFR.out]
                    rw [e1, e6, e8]
                    clear e1 e6 e8
                    have HB' := Lib.hid hB
                    clear hB
                    go_wp2_with fail
                    refine (HOB.out _ HB'.out.1).mono ?_
                    rintro e wx ⟨u', v', rfl, ho, he⟩
                    have := H.out _ _ he (⟨u', v', rfl, ho.1.bs, ho.2.pks⟩)
                    clear H
                    go_wp2_with fail
                    show K _ _
                    rw [HFR.out] at this
                    obtain ⟨u1, u6, u8⟩ := HU.out _
                    rw [u1, u6, u8] at this
                    exact this
                  · rintro L A W K hL hC hW ⟨V, rfl, HV, s0, s1, f5, f9⟩ hK
                    have e1 : V 1 = .bool true := HV 1 _ rfl (hW 1 rfl)
                    have hB := s0 (hC.no (hC.no hL 11 _ rfl rfl) 12 _ rfl rfl)
                    have q5 := f5 (hC.no (hC.no hL 11 _ rfl rfl) 12 _ rfl rfl) (hW 5 rfl)
                    obtain ⟨u5, v5, e5, z5⟩ := q5
                    have q9 := f9 (hC.no (hC.no hL 11 _ rfl rfl) 12 _ rfl rfl) (hW 9 rfl)
                    obtain ⟨u9, v9, e9, z9⟩ := q9
                    have H := Lib.hid (show ∀ W', Ext W W' → K (fr (upd V 10 (.bool (qa.eqB qb)))) W' from fun W' he => hK _ _ ⟨upd V 10 (.bool (qa.eqB qb)), rfl, HV.up 10 _ (fun x hx => Option.some.inj hx), fun h0 => RegA.ext (s0 (by unfold More at h0; rwa [if_neg (by decide)] at h0)) he, fun h0 => Ext.trans (s1 (more_ne h0 rfl)) he, fun h0 h1 => OfP.ext (f5 (by unfold More at h0; rwa [if_neg (by decide)] at h0) (more_ne h1 rfl)) he, fun h0 h1 => OfP.ext (f9 (by unfold More at h0; rwa [if_neg (by decide)] at h0) (more_ne h1 rfl)) he⟩)
                    have HU := Lib.hid (show (upd V 10 (.bool (qa.eqB qb))) 1 = .bool true ∧ (upd V 10 (.bool (qa.eqB qb))) 5 = .agg (acc qa u5 v5) ∧ (upd V 10 (.bool (qa.eqB qb))) 9 = .agg (acc qb u9 v9) from ⟨e1, e5, e9⟩)
                    clear hK hC hW hL HV s0 s1 f5 f9
                    rw [HFR.out]
                    rw [e1, e5, e9]
                    clear e1 e5 e9
                    clear hB
                    have Z5 := Lib.hid z5
                    have Z9 := Lib.hid z9
                    clear z5 z9
                    go_wp2_with fail
                    refine (lawSame_any qa qb u5 v5 u9 v9 _ HQA.out HQB.out Z5.out.1 Z5.out.2 Z9.out.1 Z9.out.2).mono ?_
                    rintro e wx ⟨rfl, he⟩
                    have := H.out _ he
                    clear H
                    go_wp2_with fail
                    show K _ _
                    rw [HFR.out] at this
                    obtain ⟨u1, u5, u9⟩ := HU.out
                    rw [u1, u5, u9] at this
                    exact this
                  · rintro L A W K hL hC hW ⟨V, rfl, HV, s0, s1, f5, f9⟩ hK
                    have e1 : V 1 = .bool true := HV 1 _ rfl (hW 1 rfl)
                    have e10 : V 10 = .bool (qa.eqB qb) := HV 10 _ rfl (hW 10 rfl)
                    have H := Lib.hid (show ∀ W', Ext W W' → K (fr (upd V 11 (.bool (qa.eqB qb)))) W' from fun W' he => hK _ _ ⟨upd V 11 (.bool (qa.eqB qb)), rfl, HV.up 11 _ (fun x hx => Option.some.inj hx), fun h0 => RegA.ext (s0 (by unfold More at h0; rwa [if_neg (by decide)] at h0)) he, fun h0 => Ext.trans (s1 (more_ne h0 rfl)) he, fun h0 h1 => OfP.ext (f5 (by unfold More at h0; rwa [if_neg (by decide)] at h0) (more_ne h1 rfl)) he, fun h0 h1 => OfP.ext (f9 (by unfold More at h0; rwa [if_neg (by decide)] at h0) (more_ne h1 rfl)) he⟩)
                    have HU := Lib.hid (show (upd V 11 (.bool (qa.eqB qb))) 1 = .bool true ∧ (upd V 11 (.bool (qa.eqB qb))) 10 = .bool (qa.eqB qb) from ⟨e1, e10⟩)
                    clear hK hC hW hL HV s0 s1 f5 f9
                    rw [HFR.out]
                    rw [e1, e10]
                    clear e1 e10
                    go_wp2_with fail
                    show K _ _
                    have := H.out _ (Ext.refl _)
                    rw [HFR.out] at this
                    obtain ⟨u1, u10⟩ := HU.out
                    rw [u1, u10] at this
                    exact this
                  · rintro L A W K hL hC hW ⟨V, rfl, HV, s0, s1, f5, f9⟩ hK
                    have e11 : V 11 = .bool (qa.eqB qb) := HV 11 _ rfl (hW 11 rfl)
                    have hB := s0 hL
                    have H := Lib.hid (show ∀ W', (Ext w4 W') → K (fr (upd V 12 (.bool (qa.eqB qb)))) W' from fun W' hA => hK _ _ ⟨upd V 12 (.bool (qa.eqB qb)), rfl, HV.up 12 _ (fun x hx => Option.some.inj hx), fun h0 => absurd h0 (by unfold More; rw [if_pos rfl]; simp), fun h0 => hA, fun h0 h1 => absurd h0 (by unfold More; rw [if_pos rfl]; simp), fun h0 h1 => absurd h0 (by unfold More; rw [if_pos rfl]; simp)⟩)
                    have HU := Lib.hid (show (upd V 12 (.bool (qa.eqB qb))) 11 = .bool (qa.eqB qb) from e11)
                    clear hK hC hW hL HV s0 s1 f5 f9
                    rw [HFR.out]
                    rw [e11]
                    clear e11
                    have HA := Lib.hid hB.1
                    clear hB
                    go_wp2_with fail
                    show K _ _
                    have := H.out _ HA.out
                    rw [HFR.out] at this
                    obtain u11 := HU.out
                    rw [u11] at this
                    exact this
                  · rintro L A W hL ⟨V, rfl, HV, s0, s1, f5, f9⟩
                    have e0 : V 0 = .bool true := HV 0 _ rfl (hL 0 (by simp))
                    have e1 : V 1 = .bool true := HV 1 _ rfl (hL 1 (by simp))
                    have e2 : V 2 = .agg #[.slice Aa la.length ca] := HV 2 _ rfl (hL 2 (by simp))
                    have e3 : V 3 = .pointer (some ⟨B, 0, none⟩) := HV 3 _ rfl (hL 3 (by simp))
                    have e4 : V 4 = .int .u64 (p.addr : Nat) := HV 4 _ rfl (hL 4 (by simp))
                    have e6 : V 6 = .agg #[.slice (some ⟨b, o, none⟩) lb.length cb] := HV 6 _ rfl (hL 6 (by simp))
                    have e7 : V 7 = .pointer (some ⟨B, 0, none⟩) := HV 7 _ rfl (hL 7 (by simp))
                    have e8 : V 8 = .int .u64 (p.addr : Nat) := HV 8 _ rfl (hL 8 (by simp))
                    have e10 : V 10 = .bool (qa.eqB qb) := HV 10 _ rfl (hL 10 (by simp))
                    have e11 : V 11 = .bool (qa.eqB qb) := HV 11 _ rfl (hL 11 (by simp))
                    have e12 : V 12 = .bool (qa.eqB qb) := HV 12 _ rfl (hL 12 (by simp))
                    have hA := s1 (hL 12 (by simp))
                    rw [HFR.out]
                    rw [e0, e1, e2, e3, e4, e6, e7, e8, e10, e11, e12]
                    clear hL HV HFR e0 e1 e2 e3 e4 e6 e7 e8 e10 e11 e12 s0 s1 f5 f9
                    have HA4 := Lib.hid hA
                    clear hA
                    go_wp2_with fail
                    exact ⟨⟨k + 1, by omega, by go_num, by rw [HFT.out], Lib.hid (HE4.out.trans HA4.out)⟩, by simp [intOf]; omega⟩
              · obtain rfl : k = lb.length := by omega
                rw [List.take_length] at hfv
                have HFF := Lib.hid (show (pre && lb.all (okZ la lb)) = preF la lb 2 from HPRE.out.symm)
                rw [HFF.out] at hfv
                subst hfv
                go_wp2_with fail
                exact ⟨⟨2, by omega, by go_num, rfl, HE⟩, by simp [intOf]⟩
          · have HFIN := Lib.hid (show preF la lb 2 = eqL la lb from alike_eq HRa.out HRb.out)
            rw [HFIN.out]
            have q5 := (Cs.ext HG5.out HE.out).cell 0 _ rfl
            have q6 := (Cs.ext HG6.out HE.out).cell 0 _ rfl
            obtain ⟨rs, hrs⟩ : ∃ rs, eqL la lb = rs := ⟨_, rfl⟩
            have HRS := Lib.hid hrs
            rw [hrs]
            clear hrs
            go_wp2_with fail
            refine (stateSame_any _ _ la lb _ (HA.out.ext HE.out) (HB.out.ext HE.out)).mono ?_
            rintro e w9 ⟨rfl, he⟩
            have HE9 := Lib.hid (HE5.out.trans (HE.out.trans he))
            clear he
            rw [HRS.out]
            have heq : (rs == rs) = true := by simp
            go_wp2_with fail
            go_ret
            exact ⟨by simp, HE9.out⟩

set_option maxRecDepth 100000 in
theorem stateOne_told (W : World) (args : Array Value) (h : Told Try.f8 W args) : Calls Try.prog 8 args W (RetT W) := by
  obtain ⟨H, enc, base, ds, p, hval, hA⟩ := h
  rw [Try.params8] at hA hval
  obtain ⟨v0, v1, d0, d1, p0, p1, rfl, rfl, rfl, h0, h1⟩ := trodAll_two hA
  obtain ⟨s0, x0, rfl, hx0⟩ := state_came (hval 0 _ v0 rfl rfl) h0
  obtain ⟨s1, x1, rfl, hx1⟩ := state_came (hval 1 _ v1 rfl rfl) h1
  exact stateOne_any s0 s1 x0 x1 W hx0 hx1

set_option maxRecDepth 100000 in
theorem stateOne_spec (H : Type) : ∀ ds : List (DataW H), ds.length = Try.f8.params.toList.length → Rows.stateOneSpec.fn H ds = { results := [.lit (.bool true)], args := ds }
  | [_, _], _ => rfl
  | [], h | [_], h | _ :: _ :: _ :: _, h => by rw [Try.params8] at h; simp at h

set_option maxRecDepth 100000 in
theorem stateOne_holds : Rows.StateOneSaid :=
  OpenClaim.holds_of_wide 8 Try.f8 rfl rfl rfl rfl rfl rfl rfl ⟨rfl, rfl, rfl, rfl, rfl⟩ rfl rfl rfl rfl rfl (by kernel_rfl) Try.func8 (by kernel_rfl)
    (of_decide_eq_true (by kernel_rfl)) (by unfold Func.isWrapper; first | (rw [if_pos (by decide +kernel)]; kernel_rfl) | (rw [if_neg (by decide +kernel)]; exact ⟨rfl, rfl⟩))
    (fun os started H enc _ => law_lifted started (by kernel_rfl) Try.func8 rfl rfl (stateOne_spec H) (of_decide_eq_true (by kernel_rfl))
      (ChangeSpec.witness6 (enc := enc) (C := Try.checked) false ⟨#[], #[.agg #[.slice none 0 0], .agg #[.slice none 0 0]], []⟩ 8 (by kernel_rfl) (by kernel_rfl) (by kernel_rfl) (by kernel_rfl)) stateOne_told)
end Go.Proofs.Ytmojbekihbmdfaa
