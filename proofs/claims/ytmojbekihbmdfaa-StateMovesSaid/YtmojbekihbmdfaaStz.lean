/- StateMoves: what one has less the other one has more; moved back it is what it was. -/
import Derived.Test.YtmojbekihbmdfaaOpn
namespace Go.Proofs.Ytmojbekihbmdfaa
open Go.ChangeShapes Go.WideShapes Go.ChangeAt Go.RowKit Go.Shelf

set_option maxRecDepth 100000 in
theorem und_no {a n : Nat} (h : n ≤ a) : und a n = false := by unfold und; exact decide_eq_false (by omega)
set_option maxRecDepth 100000 in
theorem ovr_no {a n : Nat} (h : a + n < M256) : ovr a n = false := by unfold ovr; exact decide_eq_false (by omega)
set_option maxRecDepth 100000 in
theorem Cs.range0 {W : World} {g : Nat} {t : TypeId} {cs : Array Value} (h : Cs W g t cs) : W.rangeAt g 0 cs.toList := fun j x hx => by
  rw [Nat.zero_add]
  exact Cs.cell h j x (by rwa [Array.getElem?_toList] at hx)
set_option maxRecDepth 100000 in
theorem wpList_neq_same {ops : Array Oper} {rest : List Oper} {o : Oper} {a : Act} {w : World} {Q : Exit → Act → World → Prop} (hgd : Region.wanted o (yielded ops a.tmps) = true) (x y : Operand) (ho : o.op = .binOp .neq 31 x y 31)
    (n : Nat) (hn : n < M256) (hx : a.eval x = wv n) (hy : a.eval y = wv n) (h : wpList Try.prog ops Q rest (a.put o.dst (.bool false)) w) : wpList Try.prog ops Q (o :: rest) a w :=
  wpList_neq_word hgd x y ho n n hn hn hx hy (by simpa using h)
set_option maxRecDepth 100000 in
theorem cmp_lt {a b : Nat} (h : a < b) : cmpN a b = -1 := by unfold cmpN; rw [if_pos h]
set_option maxRecDepth 100000 in
set_option maxHeartbeats 16000000 in
theorem stateMoves_any (s1 : Value) (x : List Ac) (o : Opn) (uo vo : Value) (w : World) (h1 : Acs w s1 x) (hok : o.ok) (_hu : Bs w uo o.ac.code) (_hv : Pks w vo o.ac.store) : Calls Try.prog 7 #[.agg #[s1], .agg (opc o uo vo)] w (RetT w) := by
  have HX := Lib.hid h1
  have HO := Lib.hid hok
  obtain ⟨A1, c1, rfl, p1, p2⟩ := h1.len
  obtain ⟨w0, hw0⟩ : ∃ w0, ((w.alloc (.cells #[.slice A1 x.length c1] 24)).alloc (.cells (opc o uo vo) 39)) = w0 := ⟨_, rfl⟩
  have HW0 := Lib.hid hw0
  have HB0 : Hid (Cs w0 w.heap.size 24 #[.slice A1 x.length c1] ∧ Cs w0 (w.heap.size + 1) 39 (opc o uo vo) ∧ Ext w w0) := by
    rw [← hw0]
    exact Lib.hid ⟨Cs.alloc (Cs.new _ _ _ _ rfl) _, Cs.new _ _ _ _ (by simp), ((Ext.refl w).alloc _).alloc _⟩
  clear h1 hok hw0
  go_enter Try.func7, Try.ntmps7
  go_upto_region 1 with fail
  rw [HW0.out]
  clear HW0
  go_wp2_with fail
  refine (stateWakes_any _).mono ?_
  rintro e wk ⟨rfl, he⟩
  have HG3 := Lib.hid (Cs.ext HB0.out.2.1 he)
  have HE := Lib.hid (HB0.out.2.2.trans he)
  have HG2 := Lib.hid (Cs.ext HB0.out.1 he)
  have q2 := HG2.out.cell 0 _ rfl
  clear he HB0
  obtain ⟨g3, hg3⟩ : ∃ g3, w.heap.size + 1 = g3 := ⟨_, rfl⟩
  obtain ⟨g2, hg2⟩ : ∃ g2, w.heap.size = g2 := ⟨_, rfl⟩
  have HG := Lib.hid (And.intro hg2 hg3)
  rw [hg3] at HG3 ⊢
  rw [hg2] at HG2 q2 ⊢
  clear hg2 hg3
  go_wp2_with fail
  refine (stateFew_any _ _ _ (HX.out.ext HE.out)).mono ?_
  rintro e w3 ⟨vs, rfl, hr, he⟩
  have HE3 := Lib.hid (HE.out.trans he)
  have HG3 := Lib.hid (Cs.ext HG3.out he)
  have HS := Lib.hid (fewL_sz x)
  have HL := Lib.hid (fewL_len x)
  obtain ⟨l, hl⟩ : ∃ l, fewL x = l := ⟨_, rfl⟩
  rw [hl] at hr HS HL
  obtain ⟨As, cs, rfl⟩ := hr.shape
  have HA := Lib.hid hr.acs
  have HOK := Lib.hid (Acs.okL hr.acs)
  clear he hr hl HE HG2 q2
  go_upto_region 4 with fail
  obtain ⟨w4, hw4⟩ : ∃ w4, w3.alloc (.cells #[.slice As l.length cs] 24) = w4 := ⟨_, rfl⟩
  have HG5 : Hid (Cs w4 w3.heap.size 24 #[.slice As l.length cs]) := Lib.hid (by rw [← hw4]; exact Cs.new _ _ _ _ rfl)
  have HX4 : Hid (Ext w3 w4) := Lib.hid (by rw [← hw4]; exact (Ext.refl _).alloc _)
  have HE4 := Lib.hid (HE3.out.trans HX4.out)
  have HG3 := Lib.hid (Cs.ext HG3.out HX4.out)
  have HA := Lib.hid (HA.out.ext HX4.out)
  rw [hw4]
  obtain ⟨g5, hg5⟩ : ∃ g5, w3.heap.size = g5 := ⟨_, rfl⟩
  rw [hg5] at HG5 ⊢
  clear hw4 hg5 HX4 HE3
  refine wp_named fun a0 ha0 => ?_
  obtain ⟨fr, hfr⟩ : ∃ fr : (Nat → Value) → Act, ∀ V, fr V = ((((((((((a0.put (some 21) (V 0)).put (some 22) (V 1)).put (some 23) (V 2)).put (some 24) (V 3)).put (some 25) (V 4)).put (some 26) (V 5)).put (some 27) (V 6)).put (some 28) (V 7)).put (some 6) (V 8)).put (some 7) (V 9)) := ⟨fun V => ((((((((((a0.put (some 21) (V 0)).put (some 22) (V 1)).put (some 23) (V 2)).put (some 24) (V 3)).put (some 25) (V 4)).put (some 26) (V 5)).put (some 27) (V 6)).put (some 28) (V 7)).put (some 6) (V 8)).put (some 7) (V 9)), fun _ => rfl⟩
  rw [ha0] at hfr
  simp only [Act.put, List.setIfInBounds_toArray, List.set_cons_zero, List.set_cons_succ] at hfr
  have HFR := Lib.hid hfr
  clear hfr
  refine wp_region_inv (by kernel_rfl) (by kernel_rfl) (fun L A W => ∃ V : Nat → Value, A = fr V ∧ Vals (fun j => ([some (.agg #[.slice As l.length cs]), some (.pointer (some ⟨g3, 1, none⟩)), some (.int .u64 (o.a : Nat)), none, some (.agg #[.slice As l.length cs]), some (.pointer (some ⟨g3, 2, none⟩)), some (.int .u64 (o.b : Nat)), none, none, none, none, none] : List (Option Value)).getD j none) L V ∧ (L 10 = true → L 8 = true) ∧ (L 11 = true → L 9 = true) ∧ PrI 37 (az0) w4.heap.size (AcP w4.heap.size (ofA l o.a)) (AcP w4.heap.size (ofA l o.b)) w4 (L 3) (L 7) (L 8) (L 9) (L 10) (L 11) (V 3) (V 7) (V 8) (V 9) W) ?_ ⟨?_, ?_, ?_, ?_, ?_, ?_, ?_, ?_, ?_, ?_, ?_, ?_, trivial⟩ ?_
  · refine ⟨fun j => a0.tmps.getD (([21, 22, 23, 24, 25, 26, 27, 28, 6, 7, 0, 0] : List Nat).getD j 0) undef, ?_, Vals.no _ _ _ (far_none _ _ rfl), (by decide), (by decide), (Ext.refl _).drew, (fun h => absurd h (by decide)), (fun h => absurd h (by decide)), (fun h => absurd h (by decide)), (fun h => absurd h (by decide)), (fun h => absurd h (by decide)), (fun h => absurd h (by decide)), (fun h => absurd h (by decide))⟩
    rw [HFR.out, ha0]
    rfl
  all_goals clear ha0
  · rintro L A W K hL hC hW ⟨V, rfl, HV, l1, l2, s0⟩ hK
    have H := Lib.hid (show K (fr (upd V 0 (.agg #[.slice As l.length cs]))) W from hK _ _ ⟨upd V 0 (.agg #[.slice As l.length cs]), rfl, HV.up 0 _ (fun x hx => Option.some.inj hx), (by unfold More; rw [if_neg (by decide), if_neg (by decide)]; exact l1), (by unfold More; rw [if_neg (by decide), if_neg (by decide)]; exact l2), by simpa [More, upd] using s0⟩)
    have hE := s0.1
    have hcl := (Cs.ext HG5.out hE).cell 0 _ rfl
    clear hK hC hW hL HV l1 l2 s0 hE
    rw [HFR.out]
    go_wp2_with fail
    show K _ _
    have := H.out
    rw [HFR.out] at this
    exact this
  · rintro L A W K hL hC hW ⟨V, rfl, HV, l1, l2, s0⟩ hK
    have H := Lib.hid (show K (fr (upd V 1 (.pointer (some ⟨g3, 1, none⟩)))) W from hK _ _ ⟨upd V 1 (.pointer (some ⟨g3, 1, none⟩)), rfl, HV.up 1 _ (fun x hx => Option.some.inj hx), (by unfold More; rw [if_neg (by decide), if_neg (by decide)]; exact l1), (by unfold More; rw [if_neg (by decide), if_neg (by decide)]; exact l2), by simpa [More, upd] using s0⟩)
    clear hK hC hW hL HV l1 l2 s0
    rw [HFR.out]
    go_wp2_with fail
    show K _ _
    have := H.out
    rw [HFR.out] at this
    exact this
  · rintro L A W K hL hC hW ⟨V, rfl, HV, l1, l2, s0⟩ hK
    have e1 : V 1 = .pointer (some ⟨g3, 1, none⟩) := HV 1 _ rfl (hW 1 rfl)
    have H := Lib.hid (show K (fr (upd V 2 (.int .u64 (o.a : Nat)))) W from hK _ _ ⟨upd V 2 (.int .u64 (o.a : Nat)), rfl, HV.up 2 _ (fun x hx => Option.some.inj hx), (by unfold More; rw [if_neg (by decide), if_neg (by decide)]; exact l1), (by unfold More; rw [if_neg (by decide), if_neg (by decide)]; exact l2), by simpa [More, upd] using s0⟩)
    have HU := Lib.hid (show (upd V 2 (.int .u64 (o.a : Nat))) 1 = .pointer (some ⟨g3, 1, none⟩) from e1)
    have hE := s0.1
    have hcl := (Cs.ext HG3.out hE).cell 1 _ rfl
    clear hK hC hW hL HV l1 l2 s0 hE
    rw [HFR.out]
    rw [e1]
    clear e1
    go_wp2_with fail
    show K _ _
    have := H.out
    rw [HFR.out] at this
    obtain u1 := HU.out
    rw [u1] at this
    exact this
  · rintro L A W K hL hC hW ⟨V, rfl, HV, l1, l2, s0⟩ hK
    have e0 : V 0 = .agg #[.slice As l.length cs] := HV 0 _ rfl (hW 0 rfl)
    have e2 : V 2 = .int .u64 (o.a : Nat) := HV 2 _ rfl (hW 2 rfl)
    have s0' : PrI 37 (az0) w4.heap.size (AcP w4.heap.size (ofA l o.a)) (AcP w4.heap.size (ofA l o.b)) w4 (L 3) (L 7) (L 8) (L 9) (L 10) (L 11) (V 3) (V 7) (V 8) (V 9) W := s0
    rw [(hC.no hL 10 _ rfl rfl)] at s0'
    have H := Lib.hid (show ∀ v W', Ext W W' → (AcP w4.heap.size (ofA l o.a)) W' v → K (fr (upd V 3 v)) W' from fun v W' he hv => hK _ _ ⟨upd V 3 v, rfl, HV.up 3 _ (fun x hx => absurd hx (by intro h; cases h)), (by unfold More; rw [if_neg (by decide), if_neg (by decide)]; exact l1), (by unfold More; rw [if_neg (by decide), if_neg (by decide)]; exact l2), by simpa [More, upd, (hC.no hL 10 _ rfl rfl)] using (PrI.call (AcP.pk _ _) (AcP.pk _ _) s0' he hv)⟩)
    have HU := Lib.hid (show ∀ v, (upd V 3 v) 0 = .agg #[.slice As l.length cs] ∧ (upd V 3 v) 2 = .int .u64 (o.a : Nat) from fun v => ⟨e0, e2⟩)
    have hE := s0.1
    have HS0 := Lib.hid hE
    clear hK hC hW hL HV l1 l2 s0 s0' hE
    rw [HFR.out]
    rw [e0, e2]
    clear e0 e2
    go_wp2_with fail
    have hE := HS0.out
    refine (stateOf_any _ _ o.a _ (HA.out.ext hE) HO.out.2.1 (by have := HL.out; omega)).mono ?_
    rintro e wx ⟨u', v', rfl, ho, he⟩
    have := H.out _ _ he (AcP.low ho HS0.out.size)
    clear H
    go_wp2_with fail
    show K _ _
    rw [HFR.out] at this
    obtain ⟨u0, u2⟩ := HU.out _
    rw [u0, u2] at this
    exact this
  · rintro L A W K hL hC hW ⟨V, rfl, HV, l1, l2, s0⟩ hK
    have H := Lib.hid (show K (fr (upd V 4 (.agg #[.slice As l.length cs]))) W from hK _ _ ⟨upd V 4 (.agg #[.slice As l.length cs]), rfl, HV.up 4 _ (fun x hx => Option.some.inj hx), (by unfold More; rw [if_neg (by decide), if_neg (by decide)]; exact l1), (by unfold More; rw [if_neg (by decide), if_neg (by decide)]; exact l2), by simpa [More, upd] using s0⟩)
    have hE := s0.1
    have hcl := (Cs.ext HG5.out hE).cell 0 _ rfl
    clear hK hC hW hL HV l1 l2 s0 hE
    rw [HFR.out]
    go_wp2_with fail
    show K _ _
    have := H.out
    rw [HFR.out] at this
    exact this
  · rintro L A W K hL hC hW ⟨V, rfl, HV, l1, l2, s0⟩ hK
    have H := Lib.hid (show K (fr (upd V 5 (.pointer (some ⟨g3, 2, none⟩)))) W from hK _ _ ⟨upd V 5 (.pointer (some ⟨g3, 2, none⟩)), rfl, HV.up 5 _ (fun x hx => Option.some.inj hx), (by unfold More; rw [if_neg (by decide), if_neg (by decide)]; exact l1), (by unfold More; rw [if_neg (by decide), if_neg (by decide)]; exact l2), by simpa [More, upd] using s0⟩)
    clear hK hC hW hL HV l1 l2 s0
    rw [HFR.out]
    go_wp2_with fail
    show K _ _
    have := H.out
    rw [HFR.out] at this
    exact this
  · rintro L A W K hL hC hW ⟨V, rfl, HV, l1, l2, s0⟩ hK
    have e5 : V 5 = .pointer (some ⟨g3, 2, none⟩) := HV 5 _ rfl (hW 5 rfl)
    have H := Lib.hid (show K (fr (upd V 6 (.int .u64 (o.b : Nat)))) W from hK _ _ ⟨upd V 6 (.int .u64 (o.b : Nat)), rfl, HV.up 6 _ (fun x hx => Option.some.inj hx), (by unfold More; rw [if_neg (by decide), if_neg (by decide)]; exact l1), (by unfold More; rw [if_neg (by decide), if_neg (by decide)]; exact l2), by simpa [More, upd] using s0⟩)
    have HU := Lib.hid (show (upd V 6 (.int .u64 (o.b : Nat))) 5 = .pointer (some ⟨g3, 2, none⟩) from e5)
    have hE := s0.1
    have hcl := (Cs.ext HG3.out hE).cell 2 _ rfl
    clear hK hC hW hL HV l1 l2 s0 hE
    rw [HFR.out]
    rw [e5]
    clear e5
    go_wp2_with fail
    show K _ _
    have := H.out
    rw [HFR.out] at this
    obtain u5 := HU.out
    rw [u5] at this
    exact this
  · rintro L A W K hL hC hW ⟨V, rfl, HV, l1, l2, s0⟩ hK
    have e4 : V 4 = .agg #[.slice As l.length cs] := HV 4 _ rfl (hW 4 rfl)
    have e6 : V 6 = .int .u64 (o.b : Nat) := HV 6 _ rfl (hW 6 rfl)
    have s0' : PrI 37 (az0) w4.heap.size (AcP w4.heap.size (ofA l o.a)) (AcP w4.heap.size (ofA l o.b)) w4 (L 3) (L 7) (L 8) (L 9) (L 10) (L 11) (V 3) (V 7) (V 8) (V 9) W := s0
    rw [(hC.no hL 11 _ rfl rfl)] at s0'
    have H := Lib.hid (show ∀ v W', Ext W W' → (AcP w4.heap.size (ofA l o.b)) W' v → K (fr (upd V 7 v)) W' from fun v W' he hv => hK _ _ ⟨upd V 7 v, rfl, HV.up 7 _ (fun x hx => absurd hx (by intro h; cases h)), (by unfold More; rw [if_neg (by decide), if_neg (by decide)]; exact l1), (by unfold More; rw [if_neg (by decide), if_neg (by decide)]; exact l2), by simpa [More, upd, (hC.no hL 11 _ rfl rfl)] using (PrI.call (AcP.pk _ _) (AcP.pk _ _) s0'.swap he hv).swap⟩)
    have HU := Lib.hid (show ∀ v, (upd V 7 v) 4 = .agg #[.slice As l.length cs] ∧ (upd V 7 v) 6 = .int .u64 (o.b : Nat) from fun v => ⟨e4, e6⟩)
    have hE := s0.1
    have HS0 := Lib.hid hE
    clear hK hC hW hL HV l1 l2 s0 s0' hE
    rw [HFR.out]
    rw [e4, e6]
    clear e4 e6
    go_wp2_with fail
    have hE := HS0.out
    refine (stateOf_any _ _ o.b _ (HA.out.ext hE) HO.out.2.2.1 (by have := HL.out; omega)).mono ?_
    rintro e wx ⟨u', v', rfl, ho, he⟩
    have := H.out _ _ he (AcP.low ho HS0.out.size)
    clear H
    go_wp2_with fail
    show K _ _
    rw [HFR.out] at this
    obtain ⟨u4, u6⟩ := HU.out _
    rw [u4, u6] at this
    exact this
  · rintro L A W K hL hC hW ⟨V, rfl, HV, l1, l2, s0⟩ hK
    have s0' : PrI 37 (az0) w4.heap.size (AcP w4.heap.size (ofA l o.a)) (AcP w4.heap.size (ofA l o.b)) w4 (L 3) (L 7) (L 8) (L 9) (L 10) (L 11) (V 3) (V 7) (V 8) (V 9) W := s0
    rw [(hC.no hL 10 _ rfl rfl)] at s0'
    have H := Lib.hid (show K (fr (upd V 8 (.pointer (some ⟨W.heap.size, 0, none⟩)))) (W.alloc (.cells (az0) 37)) from hK _ _ ⟨upd V 8 (.pointer (some ⟨W.heap.size, 0, none⟩)), rfl, HV.up 8 _ (fun x hx => absurd hx (by intro h; cases h)), (fun _ => by unfold More; exact if_pos rfl), (by unfold More; rw [if_neg (by decide), if_neg (by decide)]; exact l2), by simpa [More, upd, (hC.no hL 10 _ rfl rfl)] using (PrI.alloc (AcP.pk _ _) (AcP.pk _ _) (Nat.le_refl _) s0')⟩)
    clear hK hC hW hL HV l1 l2 s0 s0'
    rw [HFR.out]
    go_wp2_with fail
    show K _ _
    have := H.out
    rw [HFR.out] at this
    exact this
  · rintro L A W K hL hC hW ⟨V, rfl, HV, l1, l2, s0⟩ hK
    have s0' : PrI 37 (az0) w4.heap.size (AcP w4.heap.size (ofA l o.a)) (AcP w4.heap.size (ofA l o.b)) w4 (L 3) (L 7) (L 8) (L 9) (L 10) (L 11) (V 3) (V 7) (V 8) (V 9) W := s0
    rw [(hC.no hL 11 _ rfl rfl)] at s0'
    have H := Lib.hid (show K (fr (upd V 9 (.pointer (some ⟨W.heap.size, 0, none⟩)))) (W.alloc (.cells (az0) 37)) from hK _ _ ⟨upd V 9 (.pointer (some ⟨W.heap.size, 0, none⟩)), rfl, HV.up 9 _ (fun x hx => absurd hx (by intro h; cases h)), (by unfold More; rw [if_neg (by decide), if_neg (by decide)]; exact l1), (fun _ => by unfold More; exact if_pos rfl), by simpa [More, upd, (hC.no hL 11 _ rfl rfl)] using (PrI.alloc (AcP.pk _ _) (AcP.pk _ _) (Nat.le_refl _) s0'.swap).swap⟩)
    clear hK hC hW hL HV l1 l2 s0 s0'
    rw [HFR.out]
    go_wp2_with fail
    show K _ _
    have := H.out
    rw [HFR.out] at this
    exact this
  · rintro L A W K hL hC hW ⟨V, rfl, HV, l1, l2, s0⟩ hK
    have s0' : PrI 37 (az0) w4.heap.size (AcP w4.heap.size (ofA l o.a)) (AcP w4.heap.size (ofA l o.b)) w4 (L 3) (L 7) (L 8) (L 9) (L 10) (L 11) (V 3) (V 7) (V 8) (V 9) W := s0
    rw [hW 3 rfl, hW 8 rfl, hL] at s0'
    obtain ⟨g, eg, hlo, hcg⟩ := s0'.2.2.2.1 rfl rfl
    obtain ⟨cs, ev, hcn, hone⟩ := Pk.agg (AcP.pk _ _) (s0'.2.1 rfl)
    rw [eg, ev] at s0'
    have HN := Lib.hid (fun (W' : World) (hc : Cs W' g 37 cs) (hg : W.grownBy W' (some g)) => (PrI.store (AcP.pk _ _) (AcP.pk _ _) (Nat.le_refl _) s0' l2 hc hg))
    have H := Lib.hid (show ∀ W', Cs W' g 37 cs → W.grownBy W' (some g) → K (fr V) W' from fun W' hc hg => hK _ _ ⟨V, rfl, HV.st 10 rfl, (fun _ => by unfold More; rw [if_neg (by decide)]; exact hW 8 rfl), (by unfold More; rw [if_neg (by decide), if_neg (by decide)]; exact l2), by rw [eg, ev]; simpa [More, hW 3 rfl, hW 8 rfl] using HN.out W' hc hg⟩)
    have HCG := Lib.hid hcg
    have HU := Lib.hid (show V 8 = .pointer (some ⟨g, 0, none⟩) ∧ V 3 = .agg cs from ⟨eg, ev⟩)
    clear hK hC hW hL HV l1 l2 s0 s0' HN hlo hcg
    rw [HFR.out]
    rw [eg, ev]
    clear eg ev
    refine wpList_store_agg rfl rfl 37 (.tmp 6) (.tmp 24) rfl acinfo g (az0) cs hone rfl rfl HCG.out (by first | rfl | simp [wc]) hcn ?_
    intro W' hc hg
    show K _ _
    have := H.out _ hc hg
    rw [HFR.out] at this
    rw [HU.out.1, HU.out.2] at this
    exact this
  · rintro L A W K hL hC hW ⟨V, rfl, HV, l1, l2, s0⟩ hK
    have s0' : PrI 37 (az0) w4.heap.size (AcP w4.heap.size (ofA l o.a)) (AcP w4.heap.size (ofA l o.b)) w4 (L 3) (L 7) (L 8) (L 9) (L 10) (L 11) (V 3) (V 7) (V 8) (V 9) W := s0
    rw [hW 7 rfl, hW 9 rfl, hL] at s0'
    obtain ⟨g, eg, hlo, hcg⟩ := s0'.2.2.2.2.1 rfl rfl
    obtain ⟨cs, ev, hcn, hone⟩ := Pk.agg (AcP.pk _ _) (s0'.2.2.1 rfl)
    rw [eg, ev] at s0'
    have HN := Lib.hid (fun (W' : World) (hc : Cs W' g 37 cs) (hg : W.grownBy W' (some g)) => (PrI.store (AcP.pk _ _) (AcP.pk _ _) (Nat.le_refl _) s0'.swap l1 hc hg).swap)
    have H := Lib.hid (show ∀ W', Cs W' g 37 cs → W.grownBy W' (some g) → K (fr V) W' from fun W' hc hg => hK _ _ ⟨V, rfl, HV.st 11 rfl, (by unfold More; rw [if_neg (by decide), if_neg (by decide)]; exact l1), (fun _ => by unfold More; rw [if_neg (by decide)]; exact hW 9 rfl), by rw [eg, ev]; simpa [More, hW 7 rfl, hW 9 rfl] using HN.out W' hc hg⟩)
    have HCG := Lib.hid hcg
    have HU := Lib.hid (show V 9 = .pointer (some ⟨g, 0, none⟩) ∧ V 7 = .agg cs from ⟨eg, ev⟩)
    clear hK hC hW hL HV l1 l2 s0 s0' HN hlo hcg
    rw [HFR.out]
    rw [eg, ev]
    clear eg ev
    refine wpList_store_agg rfl rfl 37 (.tmp 7) (.tmp 28) rfl acinfo g (az0) cs hone rfl rfl HCG.out (by first | rfl | simp [wc]) hcn ?_
    intro W' hc hg
    show K _ _
    have := H.out _ hc hg
    rw [HFR.out] at this
    rw [HU.out.1, HU.out.2] at this
    exact this
  · rintro L A W hL ⟨V, rfl, HV, l1, l2, s0⟩
    rw [show L 3 = true from hL 3 (by simp), show L 7 = true from hL 7 (by simp), show L 8 = true from hL 8 (by simp), show L 9 = true from hL 9 (by simp), show L 10 = true from hL 10 (by simp), show L 11 = true from hL 11 (by simp)] at s0
    obtain ⟨z0, z1, z2, z3, z4, z5, z6, z7⟩ := s0
    clear l1 l2
    obtain ⟨ua, va, ea, hoa⟩ := z1 rfl
    obtain ⟨cx, ex, g1x, eg1, hb1, hc1⟩ := z5 rfl
    obtain rfl : cx = acc (ofA l o.a) ua va := by have ey := ex.symm.trans ea; injection ey
    clear ex
    obtain ⟨ub, vb, eb, hob⟩ := z2 rfl
    obtain ⟨cx, ex, g2x, eg2, hb2, hc2⟩ := z6 rfl
    obtain rfl : cx = acc (ofA l o.b) ub vb := by have ey := ex.symm.trans eb; injection ey
    clear ex
    have hne12 : g1x ≠ g2x := fun e => z7 rfl rfl (by rw [eg1, eg2, e])
    rw [HFR.out]
    rw [eg1, eg2]
    clear hL HV HFR z1 z2 z5 z6 z7 eg1 eg2
    have HE5 := Lib.hid (HE4.out.trans z0)
    have HQA := Lib.hid hc1
    have HQB := Lib.hid hc2
    have HRA := Lib.hid (And.intro hoa.1.bs hoa.2.pks)
    have HRB := Lib.hid (And.intro hob.1.bs hob.2.pks)
    replace HG3 := Lib.hid (Cs.ext HG3.out z0)
    replace HG5 := Lib.hid (Cs.ext HG5.out z0)
    replace HA := Lib.hid (HA.out.ext z0)
    clear z0 hc1 hc2 hoa hob ea eb hb1 hb2 HE4 z3 z4
    have q5 := HG5.out.cell 0 _ rfl
    have qa : W.cell? ⟨g3, 1, none⟩ = some (.int .u64 (o.a : Nat)) := HG3.out.cell 1 _ rfl
    have qb : W.cell? ⟨g3, 2, none⟩ = some (.int .u64 (o.b : Nat)) := HG3.out.cell 2 _ rfl
    have HWN := Lib.hid (op_word HG3.out)
    go_wp2_with ((with_reducible refine wpList_load_wordIn ?_ (.tmp 35) ?_ g3 3 (o.n) ?_ ?_ ?_); (exact rfl); (exact rfl); (exact rfl); (exact HWN.out))
    refine (stateMove_any _ l o.a o.b o.n _ HA.out (by have := HL.out; omega) (fun q hq => by have := HS.out q hq; omega) HO.out.2.2.2.1 HO.out.2.1 HO.out.2.2.1).mono ?_
    rintro e w5 ⟨vn, rfl, hrn, he⟩
    have HE6 := Lib.hid (HE5.out.trans he)
    replace HG3 := Lib.hid (Cs.ext HG3.out he)
    replace HG5 := Lib.hid (Cs.ext HG5.out he)
    replace HA := Lib.hid (HA.out.ext he)
    replace HQA := Lib.hid (Cs.ext HQA.out he)
    replace HQB := Lib.hid (Cs.ext HQB.out he)
    replace HRA := Lib.hid (And.intro (HRA.out.1.ext he) (HRA.out.2.ext he))
    replace HRB := Lib.hid (And.intro (HRB.out.1.ext he) (HRB.out.2.ext he))
    have HMV := Lib.hid (move_no (f := o.a) (a := o.b) (n := o.n) HOK.out HO.out.2.1 HO.out.2.2.1)
    clear he q5 qa qb HWN HE5
    rcases HMV.out with ⟨hr1, hm⟩ | ⟨hr1, h0, hm⟩ | ⟨hr1, hf, ha, hlt, hm⟩ | ⟨hr1, hf, ha, hle, hn0, hroom, hm⟩ | ⟨hr1, hf, ha, hle, hroom⟩
    · rw [hm] at hrn ⊢
      clear hm HMV
      dsimp only at hrn ⊢
      obtain ⟨An, cn, rfl⟩ := hrn.shape
      simp only [List.length_nil] at hrn ⊢
      clear hrn
      go_upto_region 6 with fail
      obtain ⟨w6, hw6⟩ : ∃ w6, w5.alloc (.cells #[.slice An 0 cn] 24) = w6 := ⟨_, rfl⟩
      have HX6 : Hid (Ext w5 w6) := Lib.hid (by rw [← hw6]; exact (Ext.refl _).alloc _)
      have HE7 := Lib.hid (HE6.out.trans HX6.out)
      replace HG3 := Lib.hid (Cs.ext HG3.out HX6.out)
      replace HG5 := Lib.hid (Cs.ext HG5.out HX6.out)
      replace HA := Lib.hid (HA.out.ext HX6.out)
      replace HQA := Lib.hid (Cs.ext HQA.out HX6.out)
      replace HQB := Lib.hid (Cs.ext HQB.out HX6.out)
      rw [hw6]
      clear hw6 HX6 HE6 HRA HRB
      go_wp2_with fail
      go_ret
      exact ⟨rfl, HE7.out⟩
    · rw [hm] at hrn ⊢
      clear hm HMV
      dsimp only at hrn ⊢
      obtain ⟨An, cn, rfl⟩ := hrn.shape
      simp only [List.length_nil] at hrn ⊢
      clear hrn
      go_upto_region 6 with fail
      obtain ⟨w6, hw6⟩ : ∃ w6, w5.alloc (.cells #[.slice An 0 cn] 24) = w6 := ⟨_, rfl⟩
      have HX6 : Hid (Ext w5 w6) := Lib.hid (by rw [← hw6]; exact (Ext.refl _).alloc _)
      have HE7 := Lib.hid (HE6.out.trans HX6.out)
      replace HG3 := Lib.hid (Cs.ext HG3.out HX6.out)
      replace HG5 := Lib.hid (Cs.ext HG5.out HX6.out)
      replace HA := Lib.hid (HA.out.ext HX6.out)
      replace HQA := Lib.hid (Cs.ext HQA.out HX6.out)
      replace HQB := Lib.hid (Cs.ext HQB.out HX6.out)
      rw [hw6]
      clear hw6 HX6 HE6 HRA HRB
      have qa : w6.cell? ⟨g3, 1, none⟩ = some (.int .u64 (o.a : Nat)) := HG3.out.cell 1 _ rfl
      have qb : w6.cell? ⟨g3, 2, none⟩ = some (.int .u64 (o.b : Nat)) := HG3.out.cell 2 _ rfl
      by_cases ha0 : o.a = 0
      · rw [ha0] at qa
        clear h0 ha0
        go_wp2_with fail
        go_ret
        exact ⟨rfl, HE7.out⟩
      · have hb0 : o.b = 0 := by rcases h0 with h | h; exact absurd h ha0; exact h
        rw [hb0] at qb
        have ha1 : ((o.a : Int) == 0) = false := by simpa using ha0
        clear h0 hb0
        go_wp2_with fail
        go_ret
        exact ⟨rfl, HE7.out⟩
    · rw [hm] at hrn ⊢
      clear hm HMV
      dsimp only at hrn ⊢
      obtain ⟨An, cn, rfl⟩ := hrn.shape
      simp only [List.length_nil] at hrn ⊢
      clear hrn
      go_upto_region 6 with fail
      obtain ⟨w6, hw6⟩ : ∃ w6, w5.alloc (.cells #[.slice An 0 cn] 24) = w6 := ⟨_, rfl⟩
      have HX6 : Hid (Ext w5 w6) := Lib.hid (by rw [← hw6]; exact (Ext.refl _).alloc _)
      have HE7 := Lib.hid (HE6.out.trans HX6.out)
      replace HG3 := Lib.hid (Cs.ext HG3.out HX6.out)
      replace HG5 := Lib.hid (Cs.ext HG5.out HX6.out)
      replace HA := Lib.hid (HA.out.ext HX6.out)
      replace HQA := Lib.hid (Cs.ext HQA.out HX6.out)
      replace HQB := Lib.hid (Cs.ext HQB.out HX6.out)
      rw [hw6]
      clear hw6 HX6 HE6 HRA HRB
      have HBA := Lib.hid (Ab.bal HQA.out)
      have HWN := Lib.hid (op_word HG3.out)
      have HOB := Lib.hid (show (ofA l o.a).bal < M256 by rw [ofA_right hr1]; exact (HOK.out.acc HO.out.2.1).2.1)
      have HLT := Lib.hid (show (ofA l o.a).bal < o.n by rw [ofA_right hr1]; exact hlt)
      clear hlt hf ha
      go_wp2_with (first
        | ((with_reducible refine wpList_load_wordIn ?_ (.tmp 62) ?_ g1x 1 ((ofA l o.a).bal) ?_ ?_ ?_); (exact rfl); (exact rfl); (exact rfl); (exact HBA.out))
        | ((with_reducible refine wpList_load_wordIn ?_ (.tmp 64) ?_ g3 3 (o.n) ?_ ?_ ?_); (exact rfl); (exact rfl); (exact rfl); (exact HWN.out)))
      refine (cmp_any _ _ _ HOB.out HO.out.2.2.2.1).mono ?_
      rintro e w7 ⟨rfl, he⟩
      rw [cmp_lt HLT.out]
      go_wp2_with fail
      go_ret
      exact ⟨rfl, HE7.out.trans he⟩
    · rw [hm] at hrn ⊢
      clear hm HMV
      dsimp only at hrn ⊢
      obtain ⟨An, cn, rfl⟩ := hrn.shape
      simp only [List.length_nil] at hrn ⊢
      clear hrn
      go_upto_region 6 with fail
      obtain ⟨w6, hw6⟩ : ∃ w6, w5.alloc (.cells #[.slice An 0 cn] 24) = w6 := ⟨_, rfl⟩
      have HX6 : Hid (Ext w5 w6) := Lib.hid (by rw [← hw6]; exact (Ext.refl _).alloc _)
      have HE7 := Lib.hid (HE6.out.trans HX6.out)
      replace HG3 := Lib.hid (Cs.ext HG3.out HX6.out)
      replace HG5 := Lib.hid (Cs.ext HG5.out HX6.out)
      replace HA := Lib.hid (HA.out.ext HX6.out)
      replace HQA := Lib.hid (Cs.ext HQA.out HX6.out)
      replace HQB := Lib.hid (Cs.ext HQB.out HX6.out)
      rw [hw6]
      clear hw6 HX6 HE6 HRA HRB
      have q5 := HG5.out.cell 0 _ rfl
      have qb : w6.cell? ⟨g3, 2, none⟩ = some (.int .u64 (o.b : Nat)) := HG3.out.cell 2 _ rfl
      have HRM := Lib.hid (show rmB l o.b = false by unfold rmB; rw [hroom, Bool.and_false])
      clear hf ha hle hn0 hroom
      go_wp2_with fail
      refine (stateRoom_any _ l o.b _ HA.out HO.out.2.2.1 (by have := HL.out; omega)).mono ?_
      rintro e w7 ⟨rfl, he⟩
      rw [HRM.out]
      go_wp2_with fail
      go_ret
      exact ⟨rfl, HE7.out.trans he⟩
    · have HRT := Lib.hid ((rt_iff HOK.out).1 hr1)
      obtain ⟨m, hm, hmr, hmk, hms, hmv⟩ := move_ok HRT.out HOK.out hf ha HO.out.2.1 HO.out.2.2.1 hle hroom
      rw [hm] at hrn ⊢
      clear hm HMV
      dsimp only at hrn ⊢
      obtain ⟨An, cn, rfl⟩ := hrn.shape
      have HMR := Lib.hid hmr
      have HMK := Lib.hid hmk
      have HMV := Lib.hid hmv
      have HML := Lib.hid hmr.len
      have HOA := Lib.hid (ofA_right hr1)
      have HOM := Lib.hid (ofA_right ((rt_iff hmk).2 hmr))
      have HC := Lib.hid (And.intro hf (And.intro ha hle))
      have HM := Lib.hid hrn.acs
      go_upto_region 6 with fail
      obtain ⟨w6, hw6⟩ : ∃ w6, w5.alloc (.cells #[.slice An m.length cn] 24) = w6 := ⟨_, rfl⟩
      have HX6 : Hid (Ext w5 w6) := Lib.hid (by rw [← hw6]; exact (Ext.refl _).alloc _)
      have HG8 : Hid (Cs w6 w5.heap.size 24 #[.slice An m.length cn]) := Lib.hid (by rw [← hw6]; exact Cs.new _ _ _ _ rfl)
      have HE7 := Lib.hid (HE6.out.trans HX6.out)
      replace HG3 := Lib.hid (Cs.ext HG3.out HX6.out)
      replace HG5 := Lib.hid (Cs.ext HG5.out HX6.out)
      replace HA := Lib.hid (HA.out.ext HX6.out)
      replace HQA := Lib.hid (Cs.ext HQA.out HX6.out)
      replace HQB := Lib.hid (Cs.ext HQB.out HX6.out)
      replace HM := Lib.hid (HM.out.ext HX6.out)
      replace HRA := Lib.hid (And.intro (HRA.out.1.ext HX6.out) (HRA.out.2.ext HX6.out))
      replace HRB := Lib.hid (And.intro (HRB.out.1.ext HX6.out) (HRB.out.2.ext HX6.out))
      rw [hw6]
      obtain ⟨g8, hg8⟩ : ∃ g8, w5.heap.size = g8 := ⟨_, rfl⟩
      rw [hg8] at HG8 ⊢
      clear hw6 HX6 HE6 hg8 hrn hms hmv hmk hmr hf ha hle hroom
      go_upto_region 8 with fail
      refine wp_named fun a0 ha0 => ?_
      obtain ⟨fr, hfr⟩ : ∃ fr : (Nat → Value) → Act, ∀ V, fr V = ((((((((((a0.put (some 81) (V 0)).put (some 82) (V 1)).put (some 83) (V 2)).put (some 84) (V 3)).put (some 85) (V 4)).put (some 86) (V 5)).put (some 87) (V 6)).put (some 88) (V 7)).put (some 10) (V 8)).put (some 11) (V 9)) := ⟨fun V => ((((((((((a0.put (some 81) (V 0)).put (some 82) (V 1)).put (some 83) (V 2)).put (some 84) (V 3)).put (some 85) (V 4)).put (some 86) (V 5)).put (some 87) (V 6)).put (some 88) (V 7)).put (some 10) (V 8)).put (some 11) (V 9)), fun _ => rfl⟩
      rw [ha0] at hfr
      simp only [Act.put, List.setIfInBounds_toArray, List.set_cons_zero, List.set_cons_succ] at hfr
      have HFR := Lib.hid hfr
      clear hfr
      refine wp_region_inv (by kernel_rfl) (by kernel_rfl) (fun L A W => ∃ V : Nat → Value, A = fr V ∧ Vals (fun j => ([some (.agg #[.slice An m.length cn]), some (.pointer (some ⟨g3, 1, none⟩)), some (.int .u64 (o.a : Nat)), none, some (.agg #[.slice An m.length cn]), some (.pointer (some ⟨g3, 2, none⟩)), some (.int .u64 (o.b : Nat)), none, none, none, none, none] : List (Option Value)).getD j none) L V ∧ (L 10 = true → L 8 = true) ∧ (L 11 = true → L 9 = true) ∧ PrI 37 (az0) w6.heap.size (AcP w6.heap.size (ofA m o.a)) (AcP w6.heap.size (ofA m o.b)) w6 (L 3) (L 7) (L 8) (L 9) (L 10) (L 11) (V 3) (V 7) (V 8) (V 9) W) ?_ ⟨?_, ?_, ?_, ?_, ?_, ?_, ?_, ?_, ?_, ?_, ?_, ?_, trivial⟩ ?_
      · refine ⟨fun j => a0.tmps.getD (([81, 82, 83, 84, 85, 86, 87, 88, 10, 11, 0, 0] : List Nat).getD j 0) undef, ?_, Vals.no _ _ _ (far_none _ _ rfl), (by decide), (by decide), (Ext.refl _).drew, (fun h => absurd h (by decide)), (fun h => absurd h (by decide)), (fun h => absurd h (by decide)), (fun h => absurd h (by decide)), (fun h => absurd h (by decide)), (fun h => absurd h (by decide)), (fun h => absurd h (by decide))⟩
        rw [HFR.out, ha0]
        rfl
      all_goals clear ha0
      · rintro L A W K hL hC hW ⟨V, rfl, HV, l1, l2, s0⟩ hK
        have H := Lib.hid (show K (fr (upd V 0 (.agg #[.slice An m.length cn]))) W from hK _ _ ⟨upd V 0 (.agg #[.slice An m.length cn]), rfl, HV.up 0 _ (fun x hx => Option.some.inj hx), (by unfold More; rw [if_neg (by decide), if_neg (by decide)]; exact l1), (by unfold More; rw [if_neg (by decide), if_neg (by decide)]; exact l2), by simpa [More, upd] using s0⟩)
        have hE := s0.1
        have hcl := (Cs.ext HG8.out hE).cell 0 _ rfl
        clear hK hC hW hL HV l1 l2 s0 hE
        rw [HFR.out]
        go_wp2_with fail
        show K _ _
        have := H.out
        rw [HFR.out] at this
        exact this
      · rintro L A W K hL hC hW ⟨V, rfl, HV, l1, l2, s0⟩ hK
        have H := Lib.hid (show K (fr (upd V 1 (.pointer (some ⟨g3, 1, none⟩)))) W from hK _ _ ⟨upd V 1 (.pointer (some ⟨g3, 1, none⟩)), rfl, HV.up 1 _ (fun x hx => Option.some.inj hx), (by unfold More; rw [if_neg (by decide), if_neg (by decide)]; exact l1), (by unfold More; rw [if_neg (by decide), if_neg (by decide)]; exact l2), by simpa [More, upd] using s0⟩)
        clear hK hC hW hL HV l1 l2 s0
        rw [HFR.out]
        go_wp2_with fail
        show K _ _
        have := H.out
        rw [HFR.out] at this
        exact this
      · rintro L A W K hL hC hW ⟨V, rfl, HV, l1, l2, s0⟩ hK
        have e1 : V 1 = .pointer (some ⟨g3, 1, none⟩) := HV 1 _ rfl (hW 1 rfl)
        have H := Lib.hid (show K (fr (upd V 2 (.int .u64 (o.a : Nat)))) W from hK _ _ ⟨upd V 2 (.int .u64 (o.a : Nat)), rfl, HV.up 2 _ (fun x hx => Option.some.inj hx), (by unfold More; rw [if_neg (by decide), if_neg (by decide)]; exact l1), (by unfold More; rw [if_neg (by decide), if_neg (by decide)]; exact l2), by simpa [More, upd] using s0⟩)
        have HU := Lib.hid (show (upd V 2 (.int .u64 (o.a : Nat))) 1 = .pointer (some ⟨g3, 1, none⟩) from e1)
        have hE := s0.1
        have hcl := (Cs.ext HG3.out hE).cell 1 _ rfl
        clear hK hC hW hL HV l1 l2 s0 hE
        rw [HFR.out]
        rw [e1]
        clear e1
        go_wp2_with fail
        show K _ _
        have := H.out
        rw [HFR.out] at this
        obtain u1 := HU.out
        rw [u1] at this
        exact this
      · rintro L A W K hL hC hW ⟨V, rfl, HV, l1, l2, s0⟩ hK
        have e0 : V 0 = .agg #[.slice An m.length cn] := HV 0 _ rfl (hW 0 rfl)
        have e2 : V 2 = .int .u64 (o.a : Nat) := HV 2 _ rfl (hW 2 rfl)
        have s0' : PrI 37 (az0) w6.heap.size (AcP w6.heap.size (ofA m o.a)) (AcP w6.heap.size (ofA m o.b)) w6 (L 3) (L 7) (L 8) (L 9) (L 10) (L 11) (V 3) (V 7) (V 8) (V 9) W := s0
        rw [(hC.no hL 10 _ rfl rfl)] at s0'
        have H := Lib.hid (show ∀ v W', Ext W W' → (AcP w6.heap.size (ofA m o.a)) W' v → K (fr (upd V 3 v)) W' from fun v W' he hv => hK _ _ ⟨upd V 3 v, rfl, HV.up 3 _ (fun x hx => absurd hx (by intro h; cases h)), (by unfold More; rw [if_neg (by decide), if_neg (by decide)]; exact l1), (by unfold More; rw [if_neg (by decide), if_neg (by decide)]; exact l2), by simpa [More, upd, (hC.no hL 10 _ rfl rfl)] using (PrI.call (AcP.pk _ _) (AcP.pk _ _) s0' he hv)⟩)
        have HU := Lib.hid (show ∀ v, (upd V 3 v) 0 = .agg #[.slice An m.length cn] ∧ (upd V 3 v) 2 = .int .u64 (o.a : Nat) from fun v => ⟨e0, e2⟩)
        have hE := s0.1
        have HS0 := Lib.hid hE
        clear hK hC hW hL HV l1 l2 s0 s0' hE
        rw [HFR.out]
        rw [e0, e2]
        clear e0 e2
        go_wp2_with fail
        have hE := HS0.out
        refine (stateOf_any _ _ o.a _ (HM.out.ext hE) HO.out.2.1 (by have := HML.out; omega)).mono ?_
        rintro e wx ⟨u', v', rfl, ho, he⟩
        have := H.out _ _ he (AcP.low ho HS0.out.size)
        clear H
        go_wp2_with fail
        show K _ _
        rw [HFR.out] at this
        obtain ⟨u0, u2⟩ := HU.out _
        rw [u0, u2] at this
        exact this
      · rintro L A W K hL hC hW ⟨V, rfl, HV, l1, l2, s0⟩ hK
        have H := Lib.hid (show K (fr (upd V 4 (.agg #[.slice An m.length cn]))) W from hK _ _ ⟨upd V 4 (.agg #[.slice An m.length cn]), rfl, HV.up 4 _ (fun x hx => Option.some.inj hx), (by unfold More; rw [if_neg (by decide), if_neg (by decide)]; exact l1), (by unfold More; rw [if_neg (by decide), if_neg (by decide)]; exact l2), by simpa [More, upd] using s0⟩)
        have hE := s0.1
        have hcl := (Cs.ext HG8.out hE).cell 0 _ rfl
        clear hK hC hW hL HV l1 l2 s0 hE
        rw [HFR.out]
        go_wp2_with fail
        show K _ _
        have := H.out
        rw [HFR.out] at this
        exact this
      · rintro L A W K hL hC hW ⟨V, rfl, HV, l1, l2, s0⟩ hK
        have H := Lib.hid (show K (fr (upd V 5 (.pointer (some ⟨g3, 2, none⟩)))) W from hK _ _ ⟨upd V 5 (.pointer (some ⟨g3, 2, none⟩)), rfl, HV.up 5 _ (fun x hx => Option.some.inj hx), (by unfold More; rw [if_neg (by decide), if_neg (by decide)]; exact l1), (by unfold More; rw [if_neg (by decide), if_neg (by decide)]; exact l2), by simpa [More, upd] using s0⟩)
        clear hK hC hW hL HV l1 l2 s0
        rw [HFR.out]
        go_wp2_with fail
        show K _ _
        have := H.out
        rw [HFR.out] at this
        exact this
      · rintro L A W K hL hC hW ⟨V, rfl, HV, l1, l2, s0⟩ hK
        have e5 : V 5 = .pointer (some ⟨g3, 2, none⟩) := HV 5 _ rfl (hW 5 rfl)
        have H := Lib.hid (show K (fr (upd V 6 (.int .u64 (o.b : Nat)))) W from hK _ _ ⟨upd V 6 (.int .u64 (o.b : Nat)), rfl, HV.up 6 _ (fun x hx => Option.some.inj hx), (by unfold More; rw [if_neg (by decide), if_neg (by decide)]; exact l1), (by unfold More; rw [if_neg (by decide), if_neg (by decide)]; exact l2), by simpa [More, upd] using s0⟩)
        have HU := Lib.hid (show (upd V 6 (.int .u64 (o.b : Nat))) 5 = .pointer (some ⟨g3, 2, none⟩) from e5)
        have hE := s0.1
        have hcl := (Cs.ext HG3.out hE).cell 2 _ rfl
        clear hK hC hW hL HV l1 l2 s0 hE
        rw [HFR.out]
        rw [e5]
        clear e5
        go_wp2_with fail
        show K _ _
        have := H.out
        rw [HFR.out] at this
        obtain u5 := HU.out
        rw [u5] at this
        exact this
      · rintro L A W K hL hC hW ⟨V, rfl, HV, l1, l2, s0⟩ hK
        have e4 : V 4 = .agg #[.slice An m.length cn] := HV 4 _ rfl (hW 4 rfl)
        have e6 : V 6 = .int .u64 (o.b : Nat) := HV 6 _ rfl (hW 6 rfl)
        have s0' : PrI 37 (az0) w6.heap.size (AcP w6.heap.size (ofA m o.a)) (AcP w6.heap.size (ofA m o.b)) w6 (L 3) (L 7) (L 8) (L 9) (L 10) (L 11) (V 3) (V 7) (V 8) (V 9) W := s0
        rw [(hC.no hL 11 _ rfl rfl)] at s0'
        have H := Lib.hid (show ∀ v W', Ext W W' → (AcP w6.heap.size (ofA m o.b)) W' v → K (fr (upd V 7 v)) W' from fun v W' he hv => hK _ _ ⟨upd V 7 v, rfl, HV.up 7 _ (fun x hx => absurd hx (by intro h; cases h)), (by unfold More; rw [if_neg (by decide), if_neg (by decide)]; exact l1), (by unfold More; rw [if_neg (by decide), if_neg (by decide)]; exact l2), by simpa [More, upd, (hC.no hL 11 _ rfl rfl)] using (PrI.call (AcP.pk _ _) (AcP.pk _ _) s0'.swap he hv).swap⟩)
        have HU := Lib.hid (show ∀ v, (upd V 7 v) 4 = .agg #[.slice An m.length cn] ∧ (upd V 7 v) 6 = .int .u64 (o.b : Nat) from fun v => ⟨e4, e6⟩)
        have hE := s0.1
        have HS0 := Lib.hid hE
        clear hK hC hW hL HV l1 l2 s0 s0' hE
        rw [HFR.out]
        rw [e4, e6]
        clear e4 e6
        go_wp2_with fail
        have hE := HS0.out
        refine (stateOf_any _ _ o.b _ (HM.out.ext hE) HO.out.2.2.1 (by have := HML.out; omega)).mono ?_
        rintro e wx ⟨u', v', rfl, ho, he⟩
        have := H.out _ _ he (AcP.low ho HS0.out.size)
        clear H
        go_wp2_with fail
        show K _ _
        rw [HFR.out] at this
        obtain ⟨u4, u6⟩ := HU.out _
        rw [u4, u6] at this
        exact this
      · rintro L A W K hL hC hW ⟨V, rfl, HV, l1, l2, s0⟩ hK
        have s0' : PrI 37 (az0) w6.heap.size (AcP w6.heap.size (ofA m o.a)) (AcP w6.heap.size (ofA m o.b)) w6 (L 3) (L 7) (L 8) (L 9) (L 10) (L 11) (V 3) (V 7) (V 8) (V 9) W := s0
        rw [(hC.no hL 10 _ rfl rfl)] at s0'
        have H := Lib.hid (show K (fr (upd V 8 (.pointer (some ⟨W.heap.size, 0, none⟩)))) (W.alloc (.cells (az0) 37)) from hK _ _ ⟨upd V 8 (.pointer (some ⟨W.heap.size, 0, none⟩)), rfl, HV.up 8 _ (fun x hx => absurd hx (by intro h; cases h)), (fun _ => by unfold More; exact if_pos rfl), (by unfold More; rw [if_neg (by decide), if_neg (by decide)]; exact l2), by simpa [More, upd, (hC.no hL 10 _ rfl rfl)] using (PrI.alloc (AcP.pk _ _) (AcP.pk _ _) (Nat.le_refl _) s0')⟩)
        clear hK hC hW hL HV l1 l2 s0 s0'
        rw [HFR.out]
        go_wp2_with fail
        show K _ _
        have := H.out
        rw [HFR.out] at this
        exact this
      · rintro L A W K hL hC hW ⟨V, rfl, HV, l1, l2, s0⟩ hK
        have s0' : PrI 37 (az0) w6.heap.size (AcP w6.heap.size (ofA m o.a)) (AcP w6.heap.size (ofA m o.b)) w6 (L 3) (L 7) (L 8) (L 9) (L 10) (L 11) (V 3) (V 7) (V 8) (V 9) W := s0
        rw [(hC.no hL 11 _ rfl rfl)] at s0'
        have H := Lib.hid (show K (fr (upd V 9 (.pointer (some ⟨W.heap.size, 0, none⟩)))) (W.alloc (.cells (az0) 37)) from hK _ _ ⟨upd V 9 (.pointer (some ⟨W.heap.size, 0, none⟩)), rfl, HV.up 9 _ (fun x hx => absurd hx (by intro h; cases h)), (by unfold More; rw [if_neg (by decide), if_neg (by decide)]; exact l1), (fun _ => by unfold More; exact if_pos rfl), by simpa [More, upd, (hC.no hL 11 _ rfl rfl)] using (PrI.alloc (AcP.pk _ _) (AcP.pk _ _) (Nat.le_refl _) s0'.swap).swap⟩)
        clear hK hC hW hL HV l1 l2 s0 s0'
        rw [HFR.out]
        go_wp2_with fail
        show K _ _
        have := H.out
        rw [HFR.out] at this
        exact this
      · rintro L A W K hL hC hW ⟨V, rfl, HV, l1, l2, s0⟩ hK
        have s0' : PrI 37 (az0) w6.heap.size (AcP w6.heap.size (ofA m o.a)) (AcP w6.heap.size (ofA m o.b)) w6 (L 3) (L 7) (L 8) (L 9) (L 10) (L 11) (V 3) (V 7) (V 8) (V 9) W := s0
        rw [hW 3 rfl, hW 8 rfl, hL] at s0'
        obtain ⟨g, eg, hlo, hcg⟩ := s0'.2.2.2.1 rfl rfl
        obtain ⟨cs, ev, hcn, hone⟩ := Pk.agg (AcP.pk _ _) (s0'.2.1 rfl)
        rw [eg, ev] at s0'
        have HN := Lib.hid (fun (W' : World) (hc : Cs W' g 37 cs) (hg : W.grownBy W' (some g)) => (PrI.store (AcP.pk _ _) (AcP.pk _ _) (Nat.le_refl _) s0' l2 hc hg))
        have H := Lib.hid (show ∀ W', Cs W' g 37 cs → W.grownBy W' (some g) → K (fr V) W' from fun W' hc hg => hK _ _ ⟨V, rfl, HV.st 10 rfl, (fun _ => by unfold More; rw [if_neg (by decide)]; exact hW 8 rfl), (by unfold More; rw [if_neg (by decide), if_neg (by decide)]; exact l2), by rw [eg, ev]; simpa [More, hW 3 rfl, hW 8 rfl] using HN.out W' hc hg⟩)
        have HCG := Lib.hid hcg
        have HU := Lib.hid (show V 8 = .pointer (some ⟨g, 0, none⟩) ∧ V 3 = .agg cs from ⟨eg, ev⟩)
        clear hK hC hW hL HV l1 l2 s0 s0' HN hlo hcg
        rw [HFR.out]
        rw [eg, ev]
        clear eg ev
        refine wpList_store_agg rfl rfl 37 (.tmp 10) (.tmp 84) rfl acinfo g (az0) cs hone rfl rfl HCG.out (by first | rfl | simp [wc]) hcn ?_
        intro W' hc hg
        show K _ _
        have := H.out _ hc hg
        rw [HFR.out] at this
        rw [HU.out.1, HU.out.2] at this
        exact this
      · rintro L A W K hL hC hW ⟨V, rfl, HV, l1, l2, s0⟩ hK
        have s0' : PrI 37 (az0) w6.heap.size (AcP w6.heap.size (ofA m o.a)) (AcP w6.heap.size (ofA m o.b)) w6 (L 3) (L 7) (L 8) (L 9) (L 10) (L 11) (V 3) (V 7) (V 8) (V 9) W := s0
        rw [hW 7 rfl, hW 9 rfl, hL] at s0'
        obtain ⟨g, eg, hlo, hcg⟩ := s0'.2.2.2.2.1 rfl rfl
        obtain ⟨cs, ev, hcn, hone⟩ := Pk.agg (AcP.pk _ _) (s0'.2.2.1 rfl)
        rw [eg, ev] at s0'
        have HN := Lib.hid (fun (W' : World) (hc : Cs W' g 37 cs) (hg : W.grownBy W' (some g)) => (PrI.store (AcP.pk _ _) (AcP.pk _ _) (Nat.le_refl _) s0'.swap l1 hc hg).swap)
        have H := Lib.hid (show ∀ W', Cs W' g 37 cs → W.grownBy W' (some g) → K (fr V) W' from fun W' hc hg => hK _ _ ⟨V, rfl, HV.st 11 rfl, (by unfold More; rw [if_neg (by decide), if_neg (by decide)]; exact l1), (fun _ => by unfold More; rw [if_neg (by decide)]; exact hW 9 rfl), by rw [eg, ev]; simpa [More, hW 7 rfl, hW 9 rfl] using HN.out W' hc hg⟩)
        have HCG := Lib.hid hcg
        have HU := Lib.hid (show V 9 = .pointer (some ⟨g, 0, none⟩) ∧ V 7 = .agg cs from ⟨eg, ev⟩)
        clear hK hC hW hL HV l1 l2 s0 s0' HN hlo hcg
        rw [HFR.out]
        rw [eg, ev]
        clear eg ev
        refine wpList_store_agg rfl rfl 37 (.tmp 11) (.tmp 88) rfl acinfo g (az0) cs hone rfl rfl HCG.out (by first | rfl | simp [wc]) hcn ?_
        intro W' hc hg
        show K _ _
        have := H.out _ hc hg
        rw [HFR.out] at this
        rw [HU.out.1, HU.out.2] at this
        exact this
      · rintro L A W hL ⟨V, rfl, HV, l1, l2, s0⟩
        rw [show L 3 = true from hL 3 (by simp), show L 7 = true from hL 7 (by simp), show L 8 = true from hL 8 (by simp), show L 9 = true from hL 9 (by simp), show L 10 = true from hL 10 (by simp), show L 11 = true from hL 11 (by simp)] at s0
        obtain ⟨z0, z1, z2, z3, z4, z5, z6, z7⟩ := s0
        clear l1 l2
        obtain ⟨uc, vc, ec, hoc⟩ := z1 rfl
        obtain ⟨cx, ex, g1y, eg1, hb1, hc1⟩ := z5 rfl
        obtain rfl : cx = acc (ofA m o.a) uc vc := by have ey := ex.symm.trans ec; injection ey
        clear ex
        obtain ⟨ud, vd, ed, hod⟩ := z2 rfl
        obtain ⟨cx, ex, g2y, eg2, hb2, hc2⟩ := z6 rfl
        obtain rfl : cx = acc (ofA m o.b) ud vd := by have ey := ex.symm.trans ed; injection ey
        clear ex
        have hne34 : g1y ≠ g2y := fun e => z7 rfl rfl (by rw [eg1, eg2, e])
        rw [HFR.out]
        rw [eg1, eg2]
        clear hL HV HFR z1 z2 z5 z6 z7 eg1 eg2
        have HE8 := Lib.hid (HE7.out.trans z0)
        have HQC := Lib.hid hc1
        have HQD := Lib.hid hc2
        have HRC := Lib.hid (And.intro hoc.1.bs hoc.2.pks)
        have HRD := Lib.hid (And.intro hod.1.bs hod.2.pks)
        replace HG3 := Lib.hid (Cs.ext HG3.out z0)
        replace HG5 := Lib.hid (Cs.ext HG5.out z0)
        replace HA := Lib.hid (HA.out.ext z0)
        replace HQA := Lib.hid (Cs.ext HQA.out z0)
        replace HQB := Lib.hid (Cs.ext HQB.out z0)
        replace HM := Lib.hid (HM.out.ext z0)
        replace HG8 := Lib.hid (Cs.ext HG8.out z0)
        replace HRA := Lib.hid (And.intro (HRA.out.1.ext z0) (HRA.out.2.ext z0))
        replace HRB := Lib.hid (And.intro (HRB.out.1.ext z0) (HRB.out.2.ext z0))
        clear z0 hc1 hc2 hoc hod ec ed hb1 hb2 HE7 z3 z4
        have qa : W.cell? ⟨g3, 1, none⟩ = some (.int .u64 (o.a : Nat)) := HG3.out.cell 1 _ rfl
        have qb : W.cell? ⟨g3, 2, none⟩ = some (.int .u64 (o.b : Nat)) := HG3.out.cell 2 _ rfl
        by_cases hab : o.a = o.b
        · have hd : ((o.a : Int) == (o.b : Int)) = true := by rw [beq_iff_eq]; omega
          have q5 := HG5.out.cell 0 _ rfl
          have q8 := HG8.out.cell 0 _ rfl
          have HEQ := Lib.hid (show eqL m l = true from (eqL_iff _ _).2 (HMR.out.view HRT.out (fun b => by rw [HMV.out b, if_pos hab])))
          clear hab
          go_wp2_with fail
          refine (stateSame_any _ _ m l _ (HM.out) (HA.out)).mono ?_
          rintro e w9 ⟨rfl, he⟩
          rw [HEQ.out]
          go_wp2_with fail
          go_ret
          exact ⟨rfl, HE8.out.trans he⟩
        · have hd : ((o.a : Int) == (o.b : Int)) = false := by rw [beq_eq_false_iff_ne]; omega
          have HAB := Lib.hid hab
          have HVA := Lib.hid (show ofA m o.a = setB (ofA l o.a) ((ofA l o.a).bal - o.n) by rw [HOM.out, HMV.out, if_neg hab, if_pos rfl, HOA.out])
          have HVB := Lib.hid (show ofA m o.b = setB (ofA l o.b) ((ofA l o.b).bal + o.n) by rw [HOM.out, HMV.out, if_neg hab, if_neg (fun e => hab e.symm), if_pos rfl, HOA.out])
          have HNA := Lib.hid (show o.n ≤ (ofA l o.a).bal by rw [HOA.out]; exact HC.out.2.2)
          have HNB := Lib.hid (show (ofA l o.b).bal + o.n < M256 by have h1 := HMR.out.bal_lt o.b; rw [← HOM.out, HVB.out] at h1; exact h1)
          have HOB := Lib.hid (show (ofA l o.a).bal < M256 by rw [HOA.out]; exact HRT.out.bal_lt _)
          have HBACK := Lib.hid (move_back HRT.out HOK.out HMR.out HMK.out HC.out.1 HC.out.2.1 hab HO.out.2.1 HO.out.2.2.1 HC.out.2.2 (fun b => by rw [HMV.out b, if_neg hab]))
          have HRM := Lib.hid (fun (h : roomB m o.a = false) => show rmB m o.a = false by unfold rmB; rw [h, Bool.and_false])
          clear hab
          generalize ofA l o.a = pa at *
          generalize ofA l o.b = pb at *
          generalize ofA m o.a = pc at *
          generalize ofA m o.b = pd at *
          have HBA := Lib.hid (Ab.bal HQA.out)
          have HWN := Lib.hid (op_word HG3.out)
          go_wp2_with (first
            | ((with_reducible refine wpList_load_wordIn ?_ (.tmp 98) ?_ g1x 1 (pa.bal) ?_ ?_ ?_); (exact rfl); (exact rfl); (exact rfl); (exact HBA.out))
            | ((with_reducible refine wpList_load_wordIn ?_ (.tmp 100) ?_ g3 3 (o.n) ?_ ?_ ?_); (exact rfl); (exact rfl); (exact rfl); (exact HWN.out)))
          refine (sub_any _ _ _ HOB.out HO.out.2.2.2.1).mono ?_
          rintro e w7 ⟨rfl, he⟩
          rw [und_no HNA.out, show (pa.bal + M256 - o.n) % M256 = pa.bal - o.n by rw [show pa.bal + M256 - o.n = pa.bal - o.n + M256 by have := HNA.out; omega, Nat.add_mod_right, Nat.mod_eq_of_lt (by have := HOB.out; omega)]]
          have HE9 := Lib.hid (HE8.out.trans he)
          replace HG3 := Lib.hid (Cs.ext HG3.out he)
          replace HG5 := Lib.hid (Cs.ext HG5.out he)
          replace HA := Lib.hid (HA.out.ext he)
          replace HQA := Lib.hid (Cs.ext HQA.out he)
          replace HQB := Lib.hid (Cs.ext HQB.out he)
          replace HM := Lib.hid (HM.out.ext he)
          replace HG8 := Lib.hid (Cs.ext HG8.out he)
          replace HRA := Lib.hid (And.intro (HRA.out.1.ext he) (HRA.out.2.ext he))
          replace HRB := Lib.hid (And.intro (HRB.out.1.ext he) (HRB.out.2.ext he))
          replace HQC := Lib.hid (Cs.ext HQC.out he)
          replace HQD := Lib.hid (Cs.ext HQD.out he)
          replace HRC := Lib.hid (And.intro (HRC.out.1.ext he) (HRC.out.2.ext he))
          replace HRD := Lib.hid (And.intro (HRD.out.1.ext he) (HRD.out.2.ext he))

          clear he HE8 HBA HWN qa qb
          obtain ⟨dl, hdl⟩ : ∃ dl, pa.bal - o.n = dl := ⟨_, rfl⟩
          obtain ⟨dm, hdm⟩ : ∃ dm, pb.bal + o.n = dm := ⟨_, rfl⟩
          have HDL := Lib.hid (show dl < M256 by have := HOB.out; omega)
          have HDM := Lib.hid (show dm < M256 by rw [← hdm]; exact HNB.out)
          have HADD := Lib.hid (show (pb.bal + o.n) % M256 = dm by rw [Nat.mod_eq_of_lt HNB.out, hdm])
          have HPB := Lib.hid (show pb.bal < M256 by have := HNB.out; omega)
          rw [hdl] at HVA ⊢
          rw [hdm] at HVB
          clear hdl hdm
          rw [HVA.out] at HQC HRC
          rw [HVB.out] at HQD HRD
          go_upto_region 12 with ((with_reducible refine wpList_store_word rfl rfl 31 (.tmp 12) (.tmp 103) rfl winfo w7.heap.size (wc 0) dl ?_ ?_ ?_ ?_ ?_); (exact rfl); (exact rfl); (exact Cs.new _ _ _ _ rfl); (exact rfl); intro w8 k8 h8; have K8 := Lib.hid k8; have HX8 := Lib.hid (((Ext.refl w7).alloc _).grown h8 (Nat.le_refl _)); clear k8 h8)
          have HE10 := Lib.hid (HE9.out.trans HX8.out)
          replace HG3 := Lib.hid (Cs.ext HG3.out HX8.out)
          replace HG5 := Lib.hid (Cs.ext HG5.out HX8.out)
          replace HA := Lib.hid (HA.out.ext HX8.out)
          replace HQA := Lib.hid (Cs.ext HQA.out HX8.out)
          replace HQB := Lib.hid (Cs.ext HQB.out HX8.out)
          replace HM := Lib.hid (HM.out.ext HX8.out)
          replace HG8 := Lib.hid (Cs.ext HG8.out HX8.out)
          replace HRA := Lib.hid (And.intro (HRA.out.1.ext HX8.out) (HRA.out.2.ext HX8.out))
          replace HRB := Lib.hid (And.intro (HRB.out.1.ext HX8.out) (HRB.out.2.ext HX8.out))
          replace HQC := Lib.hid (Cs.ext HQC.out HX8.out)
          replace HQD := Lib.hid (Cs.ext HQD.out HX8.out)
          replace HRC := Lib.hid (And.intro (HRC.out.1.ext HX8.out) (HRC.out.2.ext HX8.out))
          replace HRD := Lib.hid (And.intro (HRD.out.1.ext HX8.out) (HRD.out.2.ext HX8.out))

          obtain ⟨g12, hg12⟩ : ∃ g, w7.heap.size = g := ⟨_, rfl⟩
          rw [hg12] at K8 ⊢
          clear hg12 HE9 HX8
          have HBB := Lib.hid (Ab.bal HQB.out)
          have HWN := Lib.hid (op_word HG3.out)
          go_wp2_with (first
            | ((with_reducible refine wpList_load_wordIn ?_ (.tmp 106) ?_ g2x 1 (pb.bal) ?_ ?_ ?_); (exact rfl); (exact rfl); (exact rfl); (exact HBB.out))
            | ((with_reducible refine wpList_load_wordIn ?_ (.tmp 108) ?_ g3 3 (o.n) ?_ ?_ ?_); (exact rfl); (exact rfl); (exact rfl); (exact HWN.out)))
          refine (add_any _ _ _ HPB.out HO.out.2.2.2.1).mono ?_
          rintro e w9 ⟨rfl, he⟩
          rw [ovr_no HNB.out, HADD.out]
          have HE11 := Lib.hid (HE10.out.trans he)
          replace K8 := Lib.hid (Cs.ext K8.out he)
          replace HG3 := Lib.hid (Cs.ext HG3.out he)
          replace HG5 := Lib.hid (Cs.ext HG5.out he)
          replace HA := Lib.hid (HA.out.ext he)
          replace HQA := Lib.hid (Cs.ext HQA.out he)
          replace HQB := Lib.hid (Cs.ext HQB.out he)
          replace HM := Lib.hid (HM.out.ext he)
          replace HG8 := Lib.hid (Cs.ext HG8.out he)
          replace HRA := Lib.hid (And.intro (HRA.out.1.ext he) (HRA.out.2.ext he))
          replace HRB := Lib.hid (And.intro (HRB.out.1.ext he) (HRB.out.2.ext he))
          replace HQC := Lib.hid (Cs.ext HQC.out he)
          replace HQD := Lib.hid (Cs.ext HQD.out he)
          replace HRC := Lib.hid (And.intro (HRC.out.1.ext he) (HRC.out.2.ext he))
          replace HRD := Lib.hid (And.intro (HRD.out.1.ext he) (HRD.out.2.ext he))

          clear he HE10 HBB HWN
          go_upto_region 13 with ((with_reducible refine wpList_store_word rfl rfl 31 (.tmp 14) (.tmp 111) rfl winfo w9.heap.size (wc 0) dm ?_ ?_ ?_ ?_ ?_); (exact rfl); (exact rfl); (exact Cs.new _ _ _ _ rfl); (exact rfl); intro w10 k9 h9; have K9 := Lib.hid k9; have HX9 := Lib.hid (((Ext.refl w9).alloc _).grown h9 (Nat.le_refl _)); clear k9 h9)
          have HE12 := Lib.hid (HE11.out.trans HX9.out)
          replace K8 := Lib.hid (Cs.ext K8.out HX9.out)
          replace HG3 := Lib.hid (Cs.ext HG3.out HX9.out)
          replace HG5 := Lib.hid (Cs.ext HG5.out HX9.out)
          replace HA := Lib.hid (HA.out.ext HX9.out)
          replace HQA := Lib.hid (Cs.ext HQA.out HX9.out)
          replace HQB := Lib.hid (Cs.ext HQB.out HX9.out)
          replace HM := Lib.hid (HM.out.ext HX9.out)
          replace HG8 := Lib.hid (Cs.ext HG8.out HX9.out)
          replace HRA := Lib.hid (And.intro (HRA.out.1.ext HX9.out) (HRA.out.2.ext HX9.out))
          replace HRB := Lib.hid (And.intro (HRB.out.1.ext HX9.out) (HRB.out.2.ext HX9.out))
          replace HQC := Lib.hid (Cs.ext HQC.out HX9.out)
          replace HQD := Lib.hid (Cs.ext HQD.out HX9.out)
          replace HRC := Lib.hid (And.intro (HRC.out.1.ext HX9.out) (HRC.out.2.ext HX9.out))
          replace HRD := Lib.hid (And.intro (HRD.out.1.ext HX9.out) (HRD.out.2.ext HX9.out))

          obtain ⟨g14, hg14⟩ : ∃ g, w9.heap.size = g := ⟨_, rfl⟩
          rw [hg14] at K9 ⊢
          clear hg14 HE11 HX9
          have B1 := Lib.hid (show w10.rangeAt g1y 1 (wc dl).toList from Ab.bal HQC.out)
          have B2 := Lib.hid (show w10.rangeAt g12 0 (wc dl).toList from Cs.range0 K8.out)
          have B3 := Lib.hid (show w10.rangeAt g2y 1 (wc dm).toList from Ab.bal HQD.out)
          have B4 := Lib.hid (show w10.rangeAt g14 0 (wc dm).toList from Cs.range0 K9.out)
          have n1 : w10.cell? ⟨g1y, 5, none⟩ = some (.int .u64 (pa.nonce : Nat)) := Ab.nonce (a := setB pa dl) HQC.out
          have n2 : w10.cell? ⟨g1x, 5, none⟩ = some (.int .u64 (pa.nonce : Nat)) := Ab.nonce HQA.out
          have n3 : w10.cell? ⟨g1y, 6, none⟩ = some uc := Ab.code HQC.out
          have n4 : w10.cell? ⟨g1x, 6, none⟩ = some ua := Ab.code HQA.out
          have n5 : w10.cell? ⟨g2y, 7, none⟩ = some vd := Ab.store HQD.out
          have n6 : w10.cell? ⟨g2x, 7, none⟩ = some vb := Ab.store HQB.out
          go_wp2_with (first
            | ((with_reducible refine wpList_load_wordIn ?_ (.tmp 118) ?_ g1y 1 (dl) ?_ ?_ ?_); (exact rfl); (exact rfl); (exact rfl); (exact B1.out))
            | ((with_reducible refine wpList_load_wordIn ?_ (.tmp 12) ?_ g12 0 (dl) ?_ ?_ ?_); (exact rfl); (exact rfl); (exact rfl); (exact B2.out))
            | ((with_reducible refine wpList_load_wordIn ?_ (.tmp 124) ?_ g2y 1 (dm) ?_ ?_ ?_); (exact rfl); (exact rfl); (exact rfl); (exact B3.out))
            | ((with_reducible refine wpList_load_wordIn ?_ (.tmp 14) ?_ g14 0 (dm) ?_ ?_ ?_); (exact rfl); (exact rfl); (exact rfl); (exact B4.out))
            | ((with_reducible refine wpList_neq_same ?_ (.tmp 119) (.tmp 120) ?_ dl ?_ ?_ ?_ ?_); (exact rfl); (exact rfl); (exact HDL.out); (exact rfl); (exact rfl))
            | ((with_reducible refine wpList_neq_same ?_ (.tmp 125) (.tmp 126) ?_ dm ?_ ?_ ?_ ?_); (exact rfl); (exact rfl); (exact HDM.out); (exact rfl); (exact rfl)))
          refine (bytesEqual_any _ _ pa.code pa.code _ HRC.out.1 HRA.out.1).mono ?_
          rintro e w11 ⟨rfl, rfl⟩
          rw [beq_self_eq_true]
          go_wp2_with fail
          refine (equalP_any _ _ pb.store pb.store _ HRD.out.2 HRB.out.2).mono ?_
          rintro e w11 ⟨rfl, he⟩
          rw [beq_self_eq_true]
          have HE13 := Lib.hid (HE12.out.trans he)
          replace HG3 := Lib.hid (Cs.ext HG3.out he)
          replace HG5 := Lib.hid (Cs.ext HG5.out he)
          replace HA := Lib.hid (HA.out.ext he)
          replace HM := Lib.hid (HM.out.ext he)
          replace HG8 := Lib.hid (Cs.ext HG8.out he)

          clear he HE12 B1 B2 B3 B4 n1 n2 n3 n4 n5 n6 K8 K9 HQA HQB HQC HQD HRA HRB HRC HRD
          have q8 := HG8.out.cell 0 _ rfl
          have qa : w11.cell? ⟨g3, 1, none⟩ = some (.int .u64 (o.a : Nat)) := HG3.out.cell 1 _ rfl
          have qb : w11.cell? ⟨g3, 2, none⟩ = some (.int .u64 (o.b : Nat)) := HG3.out.cell 2 _ rfl
          have HWN := Lib.hid (op_word HG3.out)
          go_wp2_with ((with_reducible refine wpList_load_wordIn ?_ (.tmp 158) ?_ g3 3 (o.n) ?_ ?_ ?_); (exact rfl); (exact rfl); (exact rfl); (exact HWN.out))
          refine (stateMove_any _ m o.b o.a o.n _ HM.out (by have := HML.out; omega) HMR.out.sz HO.out.2.2.2.1 HO.out.2.2.1 HO.out.2.1).mono ?_
          rintro e w12 ⟨vn, rfl, hrn, he⟩
          have HE14 := Lib.hid (HE13.out.trans he)
          replace HG3 := Lib.hid (Cs.ext HG3.out he)
          replace HG5 := Lib.hid (Cs.ext HG5.out he)
          replace HA := Lib.hid (HA.out.ext he)
          replace HM := Lib.hid (HM.out.ext he)
          replace HG8 := Lib.hid (Cs.ext HG8.out he)

          clear he HE13 q8 qa qb HWN
          rcases HBACK.out with hb | ⟨hrm, hb⟩
          · rw [hb] at hrn ⊢
            clear hb HBACK
            dsimp only at hrn ⊢
            obtain ⟨Ax, cx, rfl⟩ := hrn.shape
            have HB := Lib.hid hrn.acs
            clear hrn
            go_upto_region 16 with fail
            obtain ⟨w13, hw13⟩ : ∃ w13, w12.alloc (.cells #[.slice Ax l.length cx] 24) = w13 := ⟨_, rfl⟩
            have HX13 : Hid (Ext w12 w13) := Lib.hid (by rw [← hw13]; exact (Ext.refl _).alloc _)

            have HG16 : Hid (Cs w13 w12.heap.size 24 #[.slice Ax l.length cx]) := Lib.hid (by rw [← hw13]; exact Cs.new _ _ _ _ rfl)
            have HE15 := Lib.hid (HE14.out.trans HX13.out)
            replace HG5 := Lib.hid (Cs.ext HG5.out HX13.out)
            replace HA := Lib.hid (HA.out.ext HX13.out)
            replace HB := Lib.hid (HB.out.ext HX13.out)

            rw [hw13]
            obtain ⟨g16, hg16⟩ : ∃ g, w12.heap.size = g := ⟨_, rfl⟩
            rw [hg16] at HG16 ⊢
            clear hw13 HX13 HE14 hg16
            have q5 := HG5.out.cell 0 _ rfl
            have q16 := HG16.out.cell 0 _ rfl
            go_wp2_with fail
            refine (stateSame_any _ _ l l _ HB.out HA.out).mono ?_
            rintro e w14 ⟨rfl, he⟩
            rw [(eqL_iff l l).2 rfl]
            go_wp2_with fail
            go_ret
            exact ⟨rfl, HE15.out.trans he⟩
          · rw [hb] at hrn ⊢
            have HRM := Lib.hid (HRM.out hrm)
            clear hb HBACK hrm
            dsimp only at hrn ⊢
            obtain ⟨Ax, cx, rfl⟩ := hrn.shape
            simp only [List.length_nil] at hrn ⊢
            clear hrn
            go_upto_region 16 with fail
            obtain ⟨w13, hw13⟩ : ∃ w13, w12.alloc (.cells #[.slice Ax 0 cx] 24) = w13 := ⟨_, rfl⟩
            have HX13 : Hid (Ext w12 w13) := Lib.hid (by rw [← hw13]; exact (Ext.refl _).alloc _)

            have HE15 := Lib.hid (HE14.out.trans HX13.out)
            replace HG3 := Lib.hid (Cs.ext HG3.out HX13.out)
            replace HG8 := Lib.hid (Cs.ext HG8.out HX13.out)
            replace HM := Lib.hid (HM.out.ext HX13.out)

            rw [hw13]
            clear hw13 HX13 HE14
            have q8 := HG8.out.cell 0 _ rfl
            have qa : w13.cell? ⟨g3, 1, none⟩ = some (.int .u64 (o.a : Nat)) := HG3.out.cell 1 _ rfl
            go_wp2_with fail
            refine (stateRoom_any _ m o.a _ HM.out HO.out.2.1 (by have := HML.out; omega)).mono ?_
            rintro e w14 ⟨rfl, he⟩
            rw [HRM.out]
            go_wp2_with fail
            go_ret
            exact ⟨rfl, HE15.out.trans he⟩
set_option maxRecDepth 100000 in
theorem stateMoves_told (W : World) (args : Array Value) (h : Told Try.f7 W args) : Calls Try.prog 7 args W (RetT W) := by
  obtain ⟨H, enc, base, ds, p, hval, hA⟩ := h
  rw [Try.params7] at hA hval
  obtain ⟨v0, v1, d0, d1, p0, p1, rfl, rfl, rfl, h0, h1⟩ := trodAll_two hA
  obtain ⟨s0, x0, rfl, hx0⟩ := state_came (hval 0 _ v0 rfl rfl) h0
  obtain ⟨o, u, v, rfl, hok, hu, hv⟩ := op_came (hval 1 _ v1 rfl rfl) h1
  exact stateMoves_any s0 x0 o u v W hx0 hok hu hv

set_option maxRecDepth 100000 in
theorem stateMoves_spec (H : Type) : ∀ ds : List (DataW H), ds.length = Try.f7.params.toList.length → Rows.stateMovesSpec.fn H ds = { results := [.lit (.bool true)], args := ds }
  | [_, _], _ => rfl
  | [], h | [_], h | _ :: _ :: _ :: _, h => by rw [Try.params7] at h; simp at h

def zeroOp : Value := .agg #[.int .i64 0, .int .u64 0, .int .u64 0, .int .u64 0, .int .u64 0, .int .u64 0, .int .u64 0, .int .u64 0, .int .u64 0, .int .u64 0, .int .u64 0, .int .u64 0, .int .u64 0, .int .u64 0, .int .u64 0, .int .u64 0, .int .u64 0, .int .u64 0, .int .u64 0, .int .u64 0, .int .u64 0, .slice none 0 0, .slice none 0 0]
set_option maxRecDepth 100000 in
theorem stateMoves_holds : Rows.StateMovesSaid :=
  OpenClaim.holds_of_wide 7 Try.f7 rfl rfl rfl rfl rfl rfl rfl ⟨rfl, rfl, rfl, rfl, rfl⟩ rfl rfl rfl rfl rfl (by kernel_rfl) Try.func7 (by kernel_rfl)
    (of_decide_eq_true (by kernel_rfl)) (by unfold Func.isWrapper; first | (rw [if_pos (by decide +kernel)]; kernel_rfl) | (rw [if_neg (by decide +kernel)]; exact ⟨rfl, rfl⟩))
    (fun os started H enc _ => law_lifted started (by kernel_rfl) Try.func7 rfl rfl (stateMoves_spec H) (of_decide_eq_true (by kernel_rfl))
      (ChangeSpec.witness6 (enc := enc) (C := Try.checked) false ⟨#[], #[.agg #[.slice none 0 0], zeroOp], []⟩ 8 (by kernel_rfl) (by kernel_rfl) (by kernel_rfl) (by kernel_rfl)) stateMoves_told)
end Go.Proofs.Ytmojbekihbmdfaa
