/- The law's few; Of, Room. -/
import Derived.Test.YtiojfpdjnblkhaaQStu
import Derived.Test.YtiojfpdjnblkhaaQStv
namespace Go.Proofs.Ytiojfpdjnblkhaa
open Go.ChangeShapes Go.WideShapes Go.ChangeAt Go.RowKit Go.Shelf

def fewL (l : List Ac) : List Ac := (l.take 50).map oneA
theorem fewL_snoc (l : List Ac) (k : Nat) (hk : k < l.length) (h50 : k < 50) : fewL (l.take (k + 1)) = fewL (l.take k) ++ [oneA (l.getD k acz)] := by
 unfold fewL
 have e : l[k]? = some l[k] := List.getElem?_eq_getElem hk
 rw [List.take_take, List.take_take, Nat.min_eq_right (by omega), Nat.min_eq_right (by omega), List.take_add_one, List.map_append, e]
 simp [List.getD, e]
theorem fewL_more (l : List Ac) (k : Nat) (h50 : 50 ≤ k) : fewL (l.take k) = fewL l := by
 unfold fewL
 rw [List.take_take, Nat.min_eq_left h50]
theorem fewL_len (l : List Ac) : (fewL l).length ≤ 50 := by unfold fewL; simp; omega
def FwS (lo g3 : Nat) (v0 v : Value) (lT : List Ac) (w W : World) : Prop := Cs W g3 24 #[v0] ∧ RwA lo W v (.slice none 0 0) lT ∧ Ext w W ∧ lo ≤ W.heap.size
theorem FwS.ext {lo g3 : Nat} {v0 v : Value} {lT : List Ac} {w W W' : World} (h : FwS lo g3 v0 v lT w W) (he : Ext W W') : FwS lo g3 v0 v lT w W' := ⟨Cs.ext h.1 he, h.2.1.ext he, h.2.2.1.trans he, Nat.le_trans h.2.2.2 he.size⟩
theorem FwS.append {lo g3 : Nat} {v0 v v' : Value} {lT : List Ac} {w W W' : World} (h : FwS lo g3 v0 v lT w W) (hg3 : g3 < lo) (hlo : w.heap.size ≤ lo) {p : Ac} {u s : Value} (hp : p.ok) (ha : AcO lo W p u s) (hd : ∀ g, u.ownBlock = some g ∨ s.ownBlock = some g → v.ownBlock ≠ some g ∧ (Value.slice none 0 0).ownBlock ≠ some g)
  (hg : W.grownBy W' v.ownBlock) (hb : v'.ownBlock = v.ownBlock ∨ v'.ownBlock = some W.heap.size) {cs : List Value} (hcs : W.ownsRow lo 37 8 v lT.length cs) (ho : W'.ownsRow lo 37 8 v' (lT.length + 1) (cs ++ (acc p u s).toList)) : FwS lo g3 v0 v' (lT ++ [p]) w W' :=
 ⟨Cs.kept h.1 hg (fun e => by have := (hcs.lt g3 (by first | exact e | exact e.symm)).1; omega), h.2.1.add hp ha hd hg hb (fun g e => by simp [Value.ownBlock] at e) (fun cs' h' => by rw [own_uniq h' hcs]; exact ho), Below.grown h.2.2.1 hg h.2.2.1.size (fun k e => Nat.le_trans hlo (hcs.lt k e).1), Nat.le_trans h.2.2.2 hg.size⟩
theorem FwS.store {lo g3 : Nat} {v0 v : Value} {lT : List Ac} {w W : World} (h : FwS lo g3 v0 v lT w W) (hg3 : w.heap.size ≤ g3) : FwS lo g3 v v lT w (W.setCell ⟨g3, 0, none⟩ v) :=
 ⟨by simpa using Cs.set h.1 0 v, h.2.1.keptS (grown_set _ _ _ _) h.1, h.2.2.1.grown (grown_set _ _ _ _) hg3, by simpa using h.2.2.2⟩
theorem FwSA.ext {lo g3 B : Nat} {v0 v u s : Value} {lT : List Ac} {p : Ac} {w W W' : World} (h : FwS lo g3 v0 v lT w W ∧ Ab W B p u s) (he : Ext W W') : FwS lo g3 v0 v lT w W' ∧ Ab W' B p u s := ⟨h.1.ext he, h.2.ext he⟩
theorem FwT.ext {lo g3 g2 B : Nat} {v0 v u s : Value} {lT : List Ac} {p : Ac} {w w4 W W' : World} (h : (FwS lo g3 v0 v lT w W ∧ Ab W B p u s) ∧ Cs W g2 24 #[.slice none 0 0] ∧ Ext w4 W) (he : Ext W W') : (FwS lo g3 v0 v lT w W' ∧ Ab W' B p u s) ∧ Cs W' g2 24 #[.slice none 0 0] ∧ Ext w4 W' := ⟨FwSA.ext h.1 he, Cs.ext h.2.1 he, h.2.2.trans he⟩
theorem FwU.ext {lo g3 g2 : Nat} {v0 v : Value} {lT : List Ac} {w W W' : World} (h : FwS lo g3 v0 v lT w W ∧ Cs W g2 24 #[.slice none 0 0]) (he : Ext W W') : FwS lo g3 v0 v lT w W' ∧ Cs W' g2 24 #[.slice none 0 0] := ⟨h.1.ext he, Cs.ext h.2 he⟩
theorem FwV.ext {lo g3 g2 : Nat} {lT : List Ac} {w W W' : World} (h : ∃ v, FwS lo g3 v v lT w W ∧ Cs W g2 24 #[.slice none 0 0]) (he : Ext W W') : ∃ v, FwS lo g3 v v lT w W' ∧ Cs W' g2 24 #[.slice none 0 0] := by
 obtain ⟨v, h⟩ := h
 exact ⟨v, h.1.ext he, Cs.ext h.2 he⟩
def FwC (lo : Nat) (vT : Value) (p : Ac) (W : World) (val : Value) : Prop := PlC lo vT (.slice none 0 0) p W val
theorem FwC.new {lo g3 : Nat} {v0 v u s : Value} {lT : List Ac} {w W W' : World} (h : FwS lo g3 v0 v lT w W) {p : Ac} (ho : AcO W.heap.size W' p u s) : PlC lo v (.slice none 0 0) p W' (.agg (acc p u s)) :=
 ⟨u, s, rfl, ho.low h.2.2.2, fun g hg => ⟨fun e => by have := (h.2.1.lt g e).2; have := (ho.lt g hg).1; omega, by simp [Value.ownBlock]⟩⟩
set_option maxRecDepth 100000 in
set_option maxHeartbeats 4000000 in
theorem stateFew_any (sv : Value) (l : List Ac) (w : World) (hs : Acs w sv l) :
  Calls Try.prog 11 #[.agg #[sv]] w fun e w' => ∃ v', e = .returned (.agg #[v']) ∧ RwA w.heap.size w' v' (.slice none 0 0) (fewL l) ∧ Ext w w' := by
 have HS := Lib.hid hs
 obtain ⟨A0, c0, rfl, h1, h2⟩ := hs.len
 unfold maxLen at h2
 obtain ⟨w0, hw0⟩ : ∃ w0, (((w.alloc (.cells #[.slice A0 l.length c0] 24)).alloc (.cells #[.slice none 0 0] 24)).alloc (.cells #[.slice none 0 0] 24)) = w0 := ⟨_, rfl⟩
 have HW0 := Lib.hid hw0
 have HB2 : Hid (Cs w0 w.heap.size 24 #[.slice A0 l.length c0] ∧ Cs w0 (w.heap.size + 1) 24 #[.slice none 0 0] ∧ FwS (w.heap.size + 1 + 1 + 1) (w.heap.size + 1 + 1) (.slice none 0 0) (.slice none 0 0) [] w w0) := by
  rw [← hw0]
  exact Lib.hid ⟨Cs.alloc (Cs.alloc (Cs.new _ _ _ _ rfl) _) _, Cs.alloc (Cs.new _ _ _ _ (by simp)) _, Cs.new _ _ _ _ (by simp), RwA.nil _ _ _, (((Ext.refl w).alloc _).alloc _).alloc _, by simp⟩
 have q0 : w0.cell? ⟨w.heap.size, 0, none⟩ = some (.slice A0 l.length c0) := HB2.out.1.cell 0 _ rfl
 clear hs hw0
 go_enter Try.func11, Try.ntmps11
 go_upto_region 2 with fail
 rw [HW0.out]
 clear HW0
 go_wp2_with fail
 have HG : Hid (w.heap.size < w.heap.size + 1 ∧ w.heap.size + 1 < w.heap.size + 1 + 1 ∧ w.heap.size + 1 + 1 < w.heap.size + 1 + 1 + 1) := Lib.hid (by omega)
 generalize w.heap.size + 1 + 1 + 1 = lo at *
 generalize w.heap.size + 1 + 1 = g3 at *
 generalize w.heap.size + 1 = g2 at *
 go_loopw [9] (fun u wr => ∃ k : Nat, k ≤ l.length ∧ u = .int .i64 k ∧ Hid (Cs wr g2 24 #[.slice none 0 0] ∧ ∃ v, FwS lo g3 v v (fewL (l.take k)) w wr)) (fun u _ => l.length - (intOf u).toNat)
 case atStart => exact ⟨0, by omega, rfl, Lib.hid ⟨HB2.out.2.1, _, HB2.out.2.2⟩⟩
 case round =>
  clear HB2 q0
  obtain ⟨k, hk, rfl, HJ⟩ := hrel
  by_cases hlt : k < l.length
  ·have hd : decide (k < l.length) = true := decide_eq_true hlt
   obtain ⟨v0, hv0⟩ := HJ.out.2
   have HF := Lib.hid hv0
   obtain ⟨b, o, u, s', rfl, hrg, hu, hv, hok⟩ := (HS.out.ext hv0.2.2.1).at k hlt
   have HR := Lib.hid hrg
   have HU := Lib.hid hu
   have HV := Lib.hid hv
   have HOK := Lib.hid hok
   have HSN := Lib.hid (fewL_snoc l k hlt)
   clear hrg hu hv hok hv0
   generalize l.getD k acz = p at *
   by_cases h50 : k < 50
   ·have d50 : decide ((k : Int) < 50) = true := decide_eq_true (by omega)
    have d51 : decide (k < 50) = true := decide_eq_true h50
    have HSN := Lib.hid (HSN.out h50)
    have HLL := Lib.hid (show (fewL (l.take k)).length + 1 ≤ 1099511627776 by have := fewL_len (l.take k); omega)
    clear h50
    generalize fewL (l.take k) = lb at *
    obtain ⟨AT, cT, rfl⟩ := HF.out.2.1.shape
    go_upto_region 6 with (first
     | ((with_reducible refine wpList_load_ac ?_ (.tmp 12) ?_ b (o + k * 8) p u s' ?_ ?_ ?_); (exact rfl); (exact rfl); (exact rfl); (exact HR.out))
     | ((with_reducible refine wpList_store_ac ?_ ?_ (.tmp 5) (.tmp 13) ?_ wr.heap.size az0 p u s' ?_ ?_ ?_ ?_ ?_ ?_ ?_); (exact rfl); (exact rfl); (exact rfl); (exact bs_one HU.out); (exact pks_one HV.out); (exact rfl); (exact rfl); (exact Cs.new _ _ _ _ rfl); (exact rfl); intro w4 k4 g4; have K4 := Lib.hid k4; have HX4 := Lib.hid (((Ext.refl wr).alloc _).grown g4 (Nat.le_refl _)); clear k4 g4))
    have HS0 := Lib.hid (show FwS lo g3 (.slice AT lb.length cT) (.slice AT lb.length cT) lb w w4 ∧ Ab w4 wr.heap.size p u s' from ⟨HF.out.ext HX4.out, K4.out⟩)
    have HG2 := Lib.hid (Cs.ext HJ.out.1 HX4.out)
    have HCO := Lib.hid (fun W (h : Ext w4 W) => one_any p u s' W ((HU.out.ext HX4.out).ext h) ((HV.out.ext HX4.out).ext h))
    have HOK1 : Hid (oneA p).ok := Lib.hid HOK.out
    obtain ⟨B, hB'⟩ : ∃ B, wr.heap.size = B := ⟨_, rfl⟩
    rw [hB'] at HS0 ⊢
    clear HR HU HV HX4 K4 HF HJ hB'
    generalize hone : oneA p = p1 at *
    refine wp_named fun a0 ha0 => ?_
    obtain ⟨fr, hfr⟩ : ∃ fr : (Nat → Value) → Act, ∀ V, fr V = (((((((a0.put (some 16) (V 0)).put (some 17) (V 1)).put (some 18) (V 2)).put (some 19) (V 3)).put (some 20) (V 4)).put (some 21) (V 5)).put (some 22) (V 6)) := ⟨_, fun _ => rfl⟩
    rw [ha0] at hfr
    simp only [Act.put, List.setIfInBounds_toArray, List.set_cons_zero, List.set_cons_succ] at hfr
    have HFR := Lib.hid hfr
    clear hfr
    refine wp_region_inv (by kernel_rfl) (by kernel_rfl) (fun L A W => ∃ V : Nat → Value, A = fr V ∧ Vals (fun j => ([some (.pointer (some ⟨g3, 0, none⟩)), some (.slice AT lb.length cT), some (.agg (acc p u s')), none, none, none, some (.pointer (some ⟨g3, 0, none⟩)), none] : List (Option Value)).getD j none) L V ∧ (L 5 = false → (FwS lo g3 (.slice AT lb.length cT) (.slice AT lb.length cT) lb w W ∧ Ab W B p u s') ∧ Cs W g2 24 #[.slice none 0 0] ∧ Ext w4 W) ∧ (L 5 = true → L 7 = false → FwS lo g3 (.slice AT lb.length cT) (V 5) (lb ++ [p1]) w W ∧ Cs W g2 24 #[.slice none 0 0]) ∧ (L 7 = true → ∃ vT', FwS lo g3 vT' vT' (lb ++ [p1]) w W ∧ Cs W g2 24 #[.slice none 0 0]) ∧ (L 5 = false → L 3 = true → PlC lo (.slice AT lb.length cT) (.slice none 0 0) p1 W (V 3)) ∧ (L 5 = false → L 4 = true → PlD lo (.slice AT lb.length cT) (.slice none 0 0) p1 W (V 4)) ∧ (L 7 = false → L 5 = true → SlN (lb.length + 1) W (V 5))) ?_ ⟨?_, ?_, ?_, ?_, ?_, ?_, ?_, ?_, trivial⟩ ?_
    ·refine ⟨fun j => a0.tmps.getD (([16, 17, 18, 19, 20, 21, 22, 0] : List Nat).getD j 0) undef, ?_, Vals.no _ _ _ (far_none _ _ rfl), fun _ => ⟨⟨HS0.out.1.ext (Ext.refl _).drew, HS0.out.2.ext (Ext.refl _).drew⟩, Cs.ext HG2.out (Ext.refl _).drew, (Ext.refl _).drew⟩, fun h0 h1 => absurd h0 (by decide), fun h0 => absurd h0 (by decide), fun h0 h1 => absurd h1 (by decide), fun h0 h1 => absurd h1 (by decide), fun h0 h1 => absurd h1 (by decide)⟩
     rw [HFR.out, ha0]
     rfl
    all_goals clear ha0
    ·rintro L A W K hL hC hW ⟨V, rfl, HV, s0, s1, s2, f3, f4, f5⟩ hK
     have H := Lib.hid (show ∀ W', Ext W W' → K (fr (upd V 0 (.pointer (some ⟨g3, 0, none⟩)))) W' from fun W' he => hK _ _ ⟨_, rfl, HV.us 0 _ rfl, fun h0 => FwT.ext (s0 (mnf h0 rfl)) he, fun h0 h1 => FwU.ext (s1 (more_ne h0 rfl) (mnf h1 rfl)) he, fun h0 => FwV.ext (s2 (more_ne h0 rfl)) he, fun h0 h1 => PlC.ext (f3 (mnf h0 rfl) (more_ne h1 rfl)) he, fun h0 h1 => PlD.ext (f4 (mnf h0 rfl) (more_ne h1 rfl)) he, fun h0 h1 => SlN.ext (f5 (mnf h0 rfl) (more_ne h1 rfl)) he⟩)
     clear hK hC hW hL HV s0 s1 s2 f3 f4 f5
     rw [HFR.out]
     go_wp2_with fail
     show K _ _; have := H.out _ (Ext.refl _); rw [HFR.out] at this
     exact this
    ·rintro L A W K hL hC hW ⟨V, rfl, HV, s0, s1, s2, f3, f4, f5⟩ hK
     have e0 := HV 0 _ rfl (hW 0 rfl)
     have hB := s0 (hC.no hL 5 _ rfl rfl)
     have H := Lib.hid (show ∀ W', Ext W W' → K (fr (upd V 1 (.slice AT lb.length cT))) W' from fun W' he => hK _ _ ⟨_, rfl, HV.us 1 _ rfl, fun h0 => FwT.ext (s0 (mnf h0 rfl)) he, fun h0 h1 => FwU.ext (s1 (more_ne h0 rfl) (mnf h1 rfl)) he, fun h0 => FwV.ext (s2 (more_ne h0 rfl)) he, fun h0 h1 => PlC.ext (f3 (mnf h0 rfl) (more_ne h1 rfl)) he, fun h0 h1 => PlD.ext (f4 (mnf h0 rfl) (more_ne h1 rfl)) he, fun h0 h1 => SlN.ext (f5 (mnf h0 rfl) (more_ne h1 rfl)) he⟩)
     have HU := Lib.hid (show (upd V 1 (.slice AT lb.length cT)) 0 = .pointer (some ⟨g3, 0, none⟩) from e0)
     clear hK hC hW hL HV s0 s1 s2 f3 f4 f5
     rw [HFR.out, e0]
     clear e0
     have hcl : W.cell? ⟨g3, 0, none⟩ = some (.slice AT lb.length cT) := hB.1.1.1.cell 0 _ rfl
     clear hB
     go_wp2_with fail
     show K _ _; have := H.out _ (Ext.refl _); rw [HFR.out] at this
     obtain u0 := HU.out
     rw [u0] at this
     exact this
    ·rintro L A W K hL hC hW ⟨V, rfl, HV, s0, s1, s2, f3, f4, f5⟩ hK
     have hB := s0 (hC.no (hC.no (hC.no hL 3 _ rfl rfl) 4 _ rfl rfl) 5 _ rfl rfl)
     have H := Lib.hid (show ∀ W', Ext W W' → K (fr (upd V 2 (.agg (acc p u s')))) W' from fun W' he => hK _ _ ⟨_, rfl, HV.us 2 _ rfl, fun h0 => FwT.ext (s0 (mnf h0 rfl)) he, fun h0 h1 => FwU.ext (s1 (more_ne h0 rfl) (mnf h1 rfl)) he, fun h0 => FwV.ext (s2 (more_ne h0 rfl)) he, fun h0 h1 => PlC.ext (f3 (mnf h0 rfl) (more_ne h1 rfl)) he, fun h0 h1 => PlD.ext (f4 (mnf h0 rfl) (more_ne h1 rfl)) he, fun h0 h1 => SlN.ext (f5 (mnf h0 rfl) (more_ne h1 rfl)) he⟩)
     clear hK hC hW hL HV s0 s1 s2 f3 f4 f5
     rw [HFR.out]
     have HWD := Lib.hid hB.1.2.range
     clear hB
     refine wpList_load_ac rfl (.tmp 5) rfl B 0 p u s' rfl HWD.out ?_
     show K _ _; have := H.out _ (Ext.refl _); rw [HFR.out] at this
     exact this
    ·rintro L A W K hL hC hW ⟨V, rfl, HV, s0, s1, s2, f3, f4, f5⟩ hK
     have e2 := HV 2 _ rfl (hW 2 rfl)
     have hB := s0 (hC.no (hC.no hL 4 _ rfl rfl) 5 _ rfl rfl)
     have H := Lib.hid (show ∀ v W', Ext W W' → (PlC lo (.slice AT lb.length cT) (.slice none 0 0) p1 W' v) → K (fr (upd V 3 v)) W' from fun v W' he hp => hK _ _ ⟨_, rfl, HV.un 3 _ rfl, fun h0 => FwT.ext (s0 (mnf h0 rfl)) he, fun h0 h1 => FwU.ext (s1 (more_ne h0 rfl) (mnf h1 rfl)) he, fun h0 => FwV.ext (s2 (more_ne h0 rfl)) he, fun h0 h1 => hp, fun h0 h1 => PlD.ext (f4 (mnf h0 rfl) (more_ne h1 rfl)) he, fun h0 h1 => SlN.ext (f5 (mnf h0 rfl) (more_ne h1 rfl)) he⟩)
     have HU := Lib.hid (show ∀ v, (upd V 3 v) 2 = .agg (acc p u s') from fun v => e2)
     clear hK hC hW hL HV s0 s1 s2 f3 f4 f5
     rw [HFR.out, e2]
     clear e2
     have HB := Lib.hid hB
     clear hB
     go_wp2_with fail
     refine (HCO.out _ HB.out.2.2).mono ?_
     rintro e wx ⟨u', v', rfl, ho, he⟩
     have := H.out _ _ he (FwC.new HB.out.1.1 ho)
     clear H
     go_wp2_with fail
     show K _ _
     rw [HFR.out] at this
     obtain u2 := HU.out _
     rw [u2] at this
     exact this
    ·rintro L A W K hL hC hW ⟨V, rfl, HV, s0, s1, s2, f3, f4, f5⟩ hK
     have hB := s0 (hC.no hL 5 _ rfl rfl)
     have q3 := f3 (hC.no hL 5 _ rfl rfl) (hW 3 rfl)
     obtain ⟨u3, v3, e3, z3⟩ := q3
     have H := Lib.hid (show ∀ v W', Ext W W' → (PlD lo (.slice AT lb.length cT) (.slice none 0 0) p1 W' v) → K (fr (upd V 4 v)) W' from fun v W' he hp => hK _ _ ⟨_, rfl, HV.un 4 _ rfl, fun h0 => FwT.ext (s0 (mnf h0 rfl)) he, fun h0 h1 => FwU.ext (s1 (more_ne h0 rfl) (mnf h1 rfl)) he, fun h0 => FwV.ext (s2 (more_ne h0 rfl)) he, fun h0 h1 => PlC.ext (f3 (mnf h0 rfl) (more_ne h1 rfl)) he, fun h0 h1 => hp, fun h0 h1 => SlN.ext (f5 (mnf h0 rfl) (more_ne h1 rfl)) he⟩)
     have HU := Lib.hid (show ∀ v, (upd V 4 v) 3 = .agg (acc p1 u3 v3) from fun v => e3)
     clear hK hC hW hL HV s0 s1 s2 f3 f4 f5
     rw [HFR.out, e3]
     clear e3
     clear hB
     refine wpList_build_one rfl (.tmp 19) 22 37 rfl Try.underlying22 _ 8 96 acinfo3 (by decide) (by decide) (acc p1 u3 v3) rfl rfl ?_
     show K _ _; have := H.out (.slice (some ⟨W.heap.size, 0, none⟩) 1 1) _ ((Ext.refl W).alloc (.cells (acc p1 u3 v3) 37)) (PlD.new z3); rw [HFR.out] at this
     obtain u3 := HU.out _
     rw [u3] at this
     exact this
    ·rintro L A W K hL hC hW ⟨V, rfl, HV, s0, s1, s2, f3, f4, f5⟩ hK
     have e1 := HV 1 _ rfl (hW 1 rfl)
     have hB := s0 hL
     have q4 := f4 hL (hW 4 rfl)
     obtain ⟨g4, u4, v4, e4, k4, z4⟩ := q4
     have H := Lib.hid (show ∀ v W', (FwS lo g3 (.slice AT lb.length cT) v (lb ++ [p1]) w W' ∧ Cs W' g2 24 #[.slice none 0 0]) → (SlN (lb.length + 1) W' v) → K (fr (upd V 5 v)) W' from fun v W' hA hp => hK _ _ ⟨_, rfl, HV.un 5 _ rfl, fun h0 => msf h0, fun h0 h1 => hA, fun h0 => mtf (hC.no hL 7 _ rfl rfl) (more_ne h0 rfl), fun h0 h1 => msf h0, fun h0 h1 => msf h0, fun h0 h1 => hp⟩)
     have HU := Lib.hid (show ∀ v, (upd V 5 v) 1 = .slice AT lb.length cT ∧ (upd V 5 v) 4 = .slice (some ⟨g4, 0, none⟩) 1 1 from fun v => ⟨e1, e4⟩)
     clear hK hC hW hL HV s0 s1 s2 f3 f4 f5
     rw [HFR.out, e1, e4]
     clear e1 e4
     have HB := Lib.hid hB
     have K3 := Lib.hid k4
     have Z3 := Lib.hid z4
     clear hB k4 z4
     obtain ⟨cs, hcs⟩ := HB.out.1.1.2.1.own
     have HCS := Lib.hid hcs
     clear hcs
     refine wpList_append_row rfl (.tmp 17) (.tmp 20) 22 rfl lo 37 Try.underlying22 _ 8 96 acinfo3 rfl (by decide) (.slice AT lb.length cT) lb.length cs rfl HCS.out (.slice (some ⟨g4, 0, none⟩) 1 1) 1 (acc p1 u4 v4).toList rfl (rs_one K3.out) (acc_ones Z3.out.1) HLL.out (by decide) HB.out.1.1.2.2.2 ?_
     intro v5 w5 o5 g5' b5
     have HA := Lib.hid (And.intro (HB.out.1.1.append (by have := HG.out; omega) (by have := HG.out; omega) HOK1.out Z3.out.1 Z3.out.2 g5' b5 HCS.out o5) (Cs.kept HB.out.2.1 g5' (fun e => by have := (HCS.out.lt g2 (by first | exact e | exact e.symm)).1; have := HG.out; omega)))
     have HP : Hid (SlN (lb.length + 1) w5 v5) := Lib.hid (SlN.of o5)
     clear o5 g5' b5
     show K _ _; have := H.out _ _ HA.out HP.out; rw [HFR.out] at this
     obtain ⟨u1, u4⟩ := HU.out _
     rw [u1, u4] at this
     exact this
    ·rintro L A W K hL hC hW ⟨V, rfl, HV, s0, s1, s2, f3, f4, f5⟩ hK
     have H := Lib.hid (show ∀ W', Ext W W' → K (fr (upd V 6 (.pointer (some ⟨g3, 0, none⟩)))) W' from fun W' he => hK _ _ ⟨_, rfl, HV.us 6 _ rfl, fun h0 => FwT.ext (s0 (mnf h0 rfl)) he, fun h0 h1 => FwU.ext (s1 (more_ne h0 rfl) (mnf h1 rfl)) he, fun h0 => FwV.ext (s2 (more_ne h0 rfl)) he, fun h0 h1 => PlC.ext (f3 (mnf h0 rfl) (more_ne h1 rfl)) he, fun h0 h1 => PlD.ext (f4 (mnf h0 rfl) (more_ne h1 rfl)) he, fun h0 h1 => SlN.ext (f5 (mnf h0 rfl) (more_ne h1 rfl)) he⟩)
     clear hK hC hW hL HV s0 s1 s2 f3 f4 f5
     rw [HFR.out]
     go_wp2_with fail
     show K _ _; have := H.out _ (Ext.refl _); rw [HFR.out] at this
     exact this
    ·rintro L A W K hL hC hW ⟨V, rfl, HV, s0, s1, s2, f3, f4, f5⟩ hK
     have e6 := HV 6 _ rfl (hW 6 rfl)
     have hB := s1 (hW 5 rfl) hL
     have q5 := f5 hL (hW 5 rfl)
     obtain ⟨A5, c5, e5⟩ := q5
     have H := Lib.hid (show ∀ W', (∃ vT', FwS lo g3 vT' vT' (lb ++ [p1]) w W' ∧ Cs W' g2 24 #[.slice none 0 0]) → K (fr (V)) W' from fun W' hA => hK _ _ ⟨V, rfl, HV.st 7 rfl, fun h0 => mtf (mnf h0 rfl) (hW 5 rfl), fun h0 h1 => msf h1, fun h0 => hA, fun h0 h1 => mtf (mnf h0 rfl) (hW 5 rfl), fun h0 h1 => mtf (mnf h0 rfl) (hW 5 rfl), fun h0 h1 => msf h0⟩)
     have HU := Lib.hid (show (V) 6 = .pointer (some ⟨g3, 0, none⟩) ∧ (V) 5 = .slice A5 (lb.length + 1) c5 from ⟨e6, e5⟩)
     clear hK hC hW hL HV s0 s1 s2 f3 f4 f5
     rw [HFR.out, e6, e5]
     clear e6 e5
     have HB := Lib.hid hB
     have hc : W.cell? ⟨g3, 0, none⟩ = some (.slice AT lb.length cT) := hB.1.1.cell 0 _ rfl
     have hf : W.frozen? ⟨g3, 0, none⟩ = false := hB.1.1.frozen 0
     clear hB
     go_wp2_with fail
     have HA : Hid (∃ vT', FwS lo g3 vT' vT' (lb ++ [p1]) w (W.setCell ⟨g3, 0, none⟩ (.slice A5 (lb.length + 1) c5)) ∧ Cs (W.setCell ⟨g3, 0, none⟩ (.slice A5 (lb.length + 1) c5)) g2 24 #[.slice none 0 0]) := Lib.hid ⟨_, by have h := HB.out.1; rw [HU.out.2] at h; exact h.store (by have := HG.out; omega), Cs.kept HB.out.2 (grown_set _ _ _ _) (some_ne (by have := HG.out; omega))⟩
     show K _ _; have := H.out _ HA.out; rw [HFR.out] at this
     obtain ⟨u6, u5⟩ := HU.out
     rw [u6, u5] at this
     exact this
    ·rintro L A W hL ⟨V, rfl, HV, s0, s1, s2, f3, f4, f5⟩
     have e0 := HV 0 _ rfl (hL 0 (by simp))
     have e1 := HV 1 _ rfl (hL 1 (by simp))
     have e2 := HV 2 _ rfl (hL 2 (by simp))
     have e6 := HV 6 _ rfl (hL 6 (by simp))
     have hA := s2 (hL 7 (by simp))
     rw [HFR.out, e0, e1, e2, e6]
     clear hL HV HFR e0 e1 e2 e6 s0 s1 s2 f3 f4 f5
     obtain ⟨vT', hA, hG2⟩ := hA
     have HA := Lib.hid hA
     have HA2 := Lib.hid hG2
     clear hA hG2
     go_wp2_with fail
     exact ⟨⟨k + 1, by omega, by go_num, Lib.hid ⟨HA2.out, vT', by rw [HSN.out]; exact HA.out⟩⟩, by simp [intOf]; omega⟩
   ·have d50 : decide ((k : Int) < 50) = false := decide_eq_false (by omega)
    have d51 : decide (k < 50) = false := decide_eq_false h50
    have HSM := Lib.hid (show fewL (l.take (k + 1)) = fewL (l.take k) by rw [fewL_more l (k + 1) (by omega), fewL_more l k (by omega)])
    go_wp2_with (first
     | ((with_reducible refine wpList_load_ac ?_ (.tmp 12) ?_ b (o + k * 8) p u s' ?_ ?_ ?_); (exact rfl); (exact rfl); (exact rfl); (exact HR.out))
     | ((with_reducible refine wpList_store_ac ?_ ?_ (.tmp 5) (.tmp 13) ?_ wr.heap.size az0 p u s' ?_ ?_ ?_ ?_ ?_ ?_ ?_); (exact rfl); (exact rfl); (exact rfl); (exact bs_one HU.out); (exact pks_one HV.out); (exact rfl); (exact rfl); (exact Cs.new _ _ _ _ rfl); (exact rfl); intro w4 k4 g4; have HX4 := Lib.hid (((Ext.refl wr).alloc _).grown g4 (Nat.le_refl _)); clear k4 g4))
    exact ⟨⟨k + 1, by omega, by go_num, Lib.hid ⟨Cs.ext HJ.out.1 HX4.out, v0, by rw [HSM.out]; exact HF.out.ext HX4.out⟩⟩, by simp [intOf]; omega⟩
  ·obtain rfl : k = l.length := by omega
   obtain ⟨v0, hv0⟩ := HJ.out.2
   rw [List.take_length] at hv0
   obtain ⟨lb, hlb⟩ : ∃ x, fewL l = x := ⟨_, rfl⟩
   have HLB := Lib.hid hlb
   rw [hlb] at hv0
   have HF := Lib.hid hv0
   have HG2 := Lib.hid HJ.out.1
   clear hlb
   obtain ⟨AT, cT, rfl⟩ := hv0.2.1.shape
   have c3 : wr.cell? ⟨g3, 0, none⟩ = some (.slice AT lb.length cT) := hv0.1.cell 0 _ rfl
   have c2 : wr.cell? ⟨g2, 0, none⟩ = some (.slice none 0 0) := HJ.out.1.cell 0 _ rfl
   have f2 : wr.frozen? ⟨g2, 0, none⟩ = false := HJ.out.1.frozen 0
   clear hv0 HJ
   go_wp2_with fail
   refine bodyPost_ret (results_cell_row Try.results11 _ _ g2 24 #[.slice AT lb.length cT] (0, 0) _ rfl (show Cs _ g2 _ _ from by simpa using Cs.set HG2.out 0 (.slice AT lb.length cT)) Try.underlying24 rfl stinfo) rfl ?_
   rw [HLB.out]
   exact ⟨_, rfl, (HF.out.2.1.keptS (grown_set _ _ _ _) HG2.out).low (show w.heap.size ≤ lo by have := HG.out; omega), HF.out.2.2.1.grown (grown_set _ _ _ _) (by have := HG.out; omega)⟩

theorem own_nilB (W : World) (lo : Nat) : Own W lo 5 (.slice none 0 0) [] := World.ownsRow_nil _ _ _ _
theorem ownK_nil (W : World) (lo : Nat) : OwnK W lo (.slice none 0 0) [] := ⟨World.ownsRow_nil _ _ _ _, fun _p hp => nomatch hp⟩
end Go.Proofs.Ytiojfpdjnblkhaa
