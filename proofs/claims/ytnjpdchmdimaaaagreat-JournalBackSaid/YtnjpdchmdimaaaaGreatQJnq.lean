/- Package journal: slices.Clone, as the laws use it. -/
import Derived.Test.YtnjpdchmdimaaaaGreatQJno
namespace Go.Proofs.YtnjpdchmdimaaaaGreat
open Go.ChangeShapes Go.WideShapes Go.ChangeAt Go.RowKit Go.Shelf

def mkR (j : Jn) : Jn × Int := jchg j (mkE j) ⟨j.p, j.m ++ [j.p]⟩
def markJ (j : Jn) : Jn × Int × Int := if (mkR j).2 = 0 then ((mkR j).1, (j.m.length : Int), 0) else (jn0, 0, (mkR j).2)
theorem mkR_sz {j : Jn} (hs : SzJ j) (hr : rightJn j = true) : SzJn ⟨j.p, j.m ++ [j.p]⟩ := by
 have hj := szJn_of hs hr
 have h1 := (rightJn_parts hr).1
 refine ⟨hj.1, by simp only [List.length_append, List.length_singleton]; omega, fun p hp => ?_⟩
 rcases List.mem_append.1 hp with hp | hp
 ·exact hj.2.2 p hp
 ·rw [List.mem_singleton.1 hp]; exact hj.1
set_option maxRecDepth 100000 in
theorem results_jnt2 {fn : Func} {x q r : Tmp} (h : fn.results = #[.cell x 40, .tmp q, .tmp r]) (tmps : Array Value) (w : World) (g : Nat) (a b c d e f m : Value) (hp : tmps.getD x undef = .pointer (some ⟨g, 0, none⟩)) (hg : Cs w g 40 #[a, b, c, d, e, f, m]) : (results fn tmps).run Tryz.prog w = .ok (.tuple #[.agg #[a, b, c, d, e, f, m], tmps.getD q undef, tmps.getD r undef]) w := by
 have hp' : tmps[x]?.getD undef = .pointer (some ⟨g, 0, none⟩) := by simpa using hp
 simp [results, h, hp', asAddr, run_loadVar_row w g 40 40 #[a, b, c, d, e, f, m] (0, 0) _ hg Tryz.underlying40 rfl infoJn]
set_option maxRecDepth 100000 in
theorem infoInt : (Tryz.prog.info? 3).map (·.size) = some 1 := by kernel_rfl
def MjJ (w : World) (g6 g5 g2 lo : Nat) (cs6 cs2 : Array Value) (n : Int) (v : Value) (y : Jn) (W : World) : Prop := Cs W g6 40 cs6 ∧ Cs W g5 3 #[.int .i64 n] ∧ Cs W g2 40 cs2 ∧ RetJn lo W v y ∧ Ext w W
theorem MjJ.ext {w : World} {g6 g5 g2 lo : Nat} {cs6 cs2 : Array Value} {n : Int} {v : Value} {y : Jn} {W W' : World} (h : MjJ w g6 g5 g2 lo cs6 cs2 n v y W) (he : Ext W W') : MjJ w g6 g5 g2 lo cs6 cs2 n v y W' :=
 ⟨Cs.ext h.1 he, Cs.ext h.2.1 he, Cs.ext h.2.2.1 he, h.2.2.2.1.ext he, h.2.2.2.2.trans he⟩
theorem MjJ.put {w : World} {g6 g5 g2 lo : Nat} {cs6 cs2 cs2' : Array Value} {n : Int} {v : Value} {y : Jn} {W W' : World} (h : MjJ w g6 g5 g2 lo cs6 cs2 n v y W) (hk : Cs W' g2 40 cs2') (hg : W.grownBy W' (some g2)) (h6 : g6 ≠ g2) (h5 : g5 ≠ g2) (hl : g2 < lo) (hw : w.heap.size ≤ g2) : MjJ w g6 g5 g2 lo cs6 cs2' n v y W' :=
 ⟨Cs.kept h.1 hg (fun e => h6 (Option.some.inj e)), Cs.kept h.2.1 hg (fun e => h5 (Option.some.inj e)), hk, h.2.2.2.1.old hg hl, h.2.2.2.2.grown hg hw⟩
set_option maxRecDepth 100000 in
set_option maxHeartbeats 8000000 in
theorem markJ_any (xu xv xz xa xs xq : Value) (AM : Option Addr) (c : Nat) (jj : Jn) (w : World) (hx : WoR w xu xv xz jj.p.w ∧ AxR w xa xs xq jj.p.x ∧ Pos w (.slice AM jj.m.length c) jj.m) (hz : SzJ jj) :
  Calls Tryz.prog 26 #[.agg #[xu, xv, xz, xa, xs, xq, .slice AM jj.m.length c]] w fun e w' => ∃ v', e = .returned (.tuple #[v', .int .i64 (markJ jj).2.1, .int .i64 (markJ jj).2.2]) ∧ RetJn w.heap.size w' v' (markJ jj).1 ∧ Ext w w' := by
 have HX := Lib.hid hx
 have HZ := Lib.hid hz
 have HON : Hid ((#[xu, xv, xz, xa, xs, xq, .slice AM jj.m.length c] : Array Value).all (·.oneCell') = true) := Lib.hid (by
  obtain ⟨y1, y2, y3⟩ := axr_one hx.2.1
  have y4 := acs_one hx.1.1
  have y5 := hds_one hx.1.2.1
  have y6 := nns_one hx.1.2.2
  have y7 := pos_one hx.2.2
  simp [y1, y2, y3, y4, y5, y6, y7])
 obtain ⟨w0, hw0⟩ : ∃ w0, (w.alloc (.cells #[xu, xv, xz, xa, xs, xq, .slice AM jj.m.length c] 40)).alloc (.cells #[.slice none 0 0, .slice none 0 0, .slice none 0 0, .slice none 0 0, .slice none 0 0, .slice none 0 0, .slice none 0 0] 40) = w0 := ⟨_, rfl⟩
 have HC0 : Hid (Cs w0 w.heap.size 40 #[xu, xv, xz, xa, xs, xq, .slice AM jj.m.length c]) := Lib.hid (by rw [← hw0]; exact Cs.alloc (Cs.new _ _ _ _ rfl) _)
 have HR0 : Hid (Cs w0 (w.heap.size + 1) 40 #[.slice none 0 0, .slice none 0 0, .slice none 0 0, .slice none 0 0, .slice none 0 0, .slice none 0 0, .slice none 0 0]) := Lib.hid (by rw [← hw0]; exact Cs.new _ _ _ _ (by simp))
 have HE0 : Hid (Ext w w0) := Lib.hid (by rw [← hw0]; exact ((Ext.refl w).alloc _).alloc _)
 have HL0 := Lib.hid (show w.heap.size + 1 < w0.heap.size from HR0.out.lt)
 have HW0 := Lib.hid hw0
 have HDF : Hid (markJ jj = if (mkR jj).2 = 0 then ((mkR jj).1, (jj.m.length : Int), 0) else (jn0, 0, (mkR jj).2)) := Lib.hid rfl
 have HMR : Hid (mkR jj = jchg jj (mkE jj) ⟨jj.p, jj.m ++ [jj.p]⟩) := Lib.hid rfl
 have HO1 := HON.out
 clear hx hw0 hz
 go_enter Tryz.func26, Tryz.ntmps26
 go_upto_region 1 with fail
 rw [HW0.out]
 clear HW0 HO1
 have hc := HC0.out.cell 6 _ rfl
 go_upto_region 2 with ((with_reducible refine wpList_store_one ?_ ?_ 3 (.tmp 5) (.tmp 10) ?_ w0.heap.size 0 3 #[.int .i64 0] (.int .i64 (jj.m.length : Nat)) ?_ ?_ ?_ ?_ ?_ ?_ ?_ ?_); (exact rfl); (exact rfl); (exact rfl); (exact rfl); (exact rfl); (exact rfl); (exact (Cs.new _ _ _ _ rfl)); (exact infoInt); (exact (of_decide_eq_true rfl)); (exact rfl); intro w1 k1 g1; have K1 : Hid (Cs w1 w0.heap.size 3 #[.int .i64 (jj.m.length : Nat)]) := Lib.hid k1; have G1 := Lib.hid g1; clear k1 g1)
 clear hc
 have HX1 := Lib.hid (((Ext.refl w0).alloc (.cells #[.int .i64 0] 3)).grown G1.out (Nat.le_refl _))
 have HE1 := Lib.hid (HE0.out.trans HX1.out)
 have HC1 := Lib.hid (Cs.ext HC0.out HX1.out)
 have HR1 := Lib.hid (Cs.ext HR0.out HX1.out)
 have HRG := Lib.hid (Cs.rg HC1.out)
 have HL1 := Lib.hid (show w0.heap.size < w1.heap.size from K1.out.lt)
 clear G1 HC0 HR0
 go_wp2_with ((with_reducible refine wpList_loadJn ?_ (.tmp 1) ?_ w.heap.size 0 xu xv xz xa xs xq (.slice AM jj.m.length c) ?_ HRG.out ?_); (exact rfl); (exact rfl); (exact rfl))
 refine (jchanged_any _ _ _ _ _ _ _ jj 68 _ (mkE jj) ⟨jj.p, jj.m ++ [jj.p]⟩ _ ⟨HX.out.1.ext HE1.out, HX.out.2.1.ext HE1.out, HX.out.2.2.ext HE1.out⟩ HZ.out (fun hr _ => mkR_sz HZ.out hr) (enters_of Tryz.func68 (by kernel_rfl) rfl) ?_).mono ?_
 ·intro hr W g hW hg hc
  exact mark1_any g w0.heap.size xu xv xz xa xs xq AM c jj w1 W hg (by have := HL1.out; omega) hW hc (Cs.ext K1.out hW) ⟨HX.out.1.ext HE1.out, HX.out.2.1.ext HE1.out, HX.out.2.2.ext HE1.out⟩ (rightJn_parts hr).1
 rintro e w2 ⟨v1, rfl, ho, he⟩
 rw [← HMR.out]
 rw [← HMR.out] at ho
 obtain ⟨r, hr⟩ : ∃ r, mkR jj = r := ⟨_, rfl⟩
 rw [hr] at ho HDF ⊢
 clear hr
 obtain ⟨a1, b1, c1, d1, e1, f1', m1, rfl, ho⟩ := retJn_shp ho
 have HE2 := Lib.hid (HE1.out.trans he)
 have HR2 := Lib.hid (Cs.ext HR1.out he)
 have HN2 := Lib.hid (Cs.ext K1.out he)
 have HA1 := Lib.hid ho
 have HS2 := Lib.hid he.size
 clear he ho HC1 HR1 HRG K1
 go_upto_region 3 with ((with_reducible refine wpList_storeJn ?_ ?_ (.tmp 6) (.tmp 15) ?_ w2.heap.size (.slice none 0 0) (.slice none 0 0) (.slice none 0 0) (.slice none 0 0) (.slice none 0 0) (.slice none 0 0) (.slice none 0 0) a1 b1 c1 d1 e1 f1' m1 ?_ ?_ HA1.out.one ?_ ?_); (exact rfl); (exact rfl); (exact rfl); (exact rfl); (exact rfl); (exact (Cs.new _ _ _ _ rfl)); intro w3 k3 g3; have K3 := Lib.hid k3; have G3 := Lib.hid g3; clear k3 g3)
 have HX3 := Lib.hid (((Ext.refl w2).alloc (.cells #[.slice none 0 0, .slice none 0 0, .slice none 0 0, .slice none 0 0, .slice none 0 0, .slice none 0 0, .slice none 0 0] 40)).grown G3.out (Nat.le_refl _))
 have HJ : Hid (MjJ w w2.heap.size w0.heap.size (w.heap.size + 1) w1.heap.size #[a1, b1, c1, d1, e1, f1', m1] #[.slice none 0 0, .slice none 0 0, .slice none 0 0, .slice none 0 0, .slice none 0 0, .slice none 0 0, .slice none 0 0] (jj.m.length : Nat) (.agg #[a1, b1, c1, d1, e1, f1', m1]) r.1 w3) := Lib.hid ⟨K3.out, Cs.ext HN2.out HX3.out, Cs.ext HR2.out HX3.out, HA1.out.ext HX3.out, HE2.out.trans HX3.out⟩
 have HNE : Hid (w2.heap.size ≠ (w.heap.size + 1) ∧ w0.heap.size ≠ (w.heap.size + 1) ∧ (w.heap.size + 1) < w1.heap.size ∧ w.heap.size ≤ (w.heap.size + 1)) := Lib.hid (by
  have h1 := HL0.out
  have h2 := HL1.out
  have h3 := HS2.out
  exact ⟨by omega, by omega, by omega, by omega⟩)
 clear HX3 K3 G3 HN2 HR2 HA1 HE2
 by_cases h0 : r.2 = 0
 ·have f0 : (r.2 == 0) = true := by rw [beq_iff_eq]; exact h0
  have f1 : (r.2 != 0) = false := by rw [bne, f0]; rfl
  have HF := Lib.hid (show markJ jj = (r.1, (jj.m.length : Int), 0) by rw [HDF.out, if_pos h0])
  clear h0
  go_upto_region 5 with fail
  refine wp_named fun a0 ha0 => ?_
  obtain ⟨fr, hfr⟩ : ∃ fr : (Nat → Value) → Act, ∀ V, fr V = ((((a0.put (some 21) (V 0)).put (some 22) (V 1)).put (some 3) (V 3)).put (some 4) (V 4)) := ⟨_, fun _ => rfl⟩
  rw [ha0] at hfr
  simp only [Act.put, List.setIfInBounds_toArray, List.set_cons_zero, List.set_cons_succ] at hfr
  have HFR := Lib.hid hfr
  clear hfr
  refine wp_region_inv (by kernel_rfl) (by kernel_rfl) (fun L A W => ∃ V : Nat → Value, A = fr V ∧ Vals (fun j => ([some (.agg #[a1, b1, c1, d1, e1, f1', m1]), some (.int .i64 (jj.m.length : Nat)), none, some (.int .i64 (jj.m.length : Nat)), some (.int .i64 0)] : List (Option Value)).getD j none) L V ∧ (L 2 = false → MjJ w w2.heap.size w0.heap.size (w.heap.size + 1) w1.heap.size #[a1, b1, c1, d1, e1, f1', m1] #[.slice none 0 0, .slice none 0 0, .slice none 0 0, .slice none 0 0, .slice none 0 0, .slice none 0 0, .slice none 0 0] (jj.m.length : Nat) (.agg #[a1, b1, c1, d1, e1, f1', m1]) r.1 W) ∧ (L 2 = true → MjJ w w2.heap.size w0.heap.size (w.heap.size + 1) w1.heap.size #[a1, b1, c1, d1, e1, f1', m1] #[a1, b1, c1, d1, e1, f1', m1] (jj.m.length : Nat) (.agg #[a1, b1, c1, d1, e1, f1', m1]) r.1 W)) ?_ ⟨?_, ?_, ?_, ?_, ?_, trivial⟩ ?_
  ·refine ⟨fun j => a0.tmps.getD (([21, 22, 0, 3, 4] : List Nat).getD j 0) undef, ?_, Vals.no _ _ _ (far_none _ _ rfl), fun _ => HJ.out.ext (Ext.refl _).drew, fun h0 => absurd h0 (by decide)⟩
   rw [HFR.out, ha0]
   rfl
  all_goals clear ha0
  ·rintro L A W K hL hC hW ⟨V, rfl, HV, s0, s1⟩ hK
   have hB := s0 (hC.no hL 2 _ rfl rfl)
   have H := Lib.hid (show ∀ W', Ext W W' → K (fr (upd V 0 (.agg #[a1, b1, c1, d1, e1, f1', m1]))) W' from fun W' he => hK _ _ ⟨_, rfl, HV.us 0 _ rfl, fun h0 => MjJ.ext (s0 (mnf h0 rfl)) he, fun h0 => MjJ.ext (s1 (more_ne h0 rfl)) he⟩)
   clear hK hC hW hL HV s0 s1
   rw [HFR.out]
   have HRG := Lib.hid (Cs.rg hB.1)
   clear hB
   refine wpList_loadJn rfl (.tmp 6) rfl w2.heap.size 0 a1 b1 c1 d1 e1 f1' m1 rfl HRG.out ?_
   show K _ _; have := H.out _ (Ext.refl _); rw [HFR.out] at this
   exact this
  ·rintro L A W K hL hC hW ⟨V, rfl, HV, s0, s1⟩ hK
   have hB : Cs W w0.heap.size 3 #[.int .i64 (jj.m.length : Nat)] := by
    cases h6 : L 2 with
    | false => exact (s0 h6).2.1
    | true => exact (s1 h6).2.1
   have H := Lib.hid (show ∀ W', Ext W W' → K (fr (upd V 1 (.int .i64 (jj.m.length : Nat)))) W' from fun W' he => hK _ _ ⟨_, rfl, HV.us 1 _ rfl, fun h0 => MjJ.ext (s0 (mnf h0 rfl)) he, fun h0 => MjJ.ext (s1 (more_ne h0 rfl)) he⟩)
   clear hK hC hW hL HV s0 s1
   rw [HFR.out]
   have hcl := hB.cell 0 _ rfl
   clear hB
   go_wp2_with fail
   show K _ _; have := H.out _ (Ext.refl _); rw [HFR.out] at this
   exact this
  ·rintro L A W K hL hC hW ⟨V, rfl, HV, s0, s1⟩ hK
   have e0 := HV 0 _ rfl (hW 0 rfl)
   have hB := s0 hL
   have H := Lib.hid (show ∀ W', (MjJ w w2.heap.size w0.heap.size (w.heap.size + 1) w1.heap.size #[a1, b1, c1, d1, e1, f1', m1] #[a1, b1, c1, d1, e1, f1', m1] (jj.m.length : Nat) (.agg #[a1, b1, c1, d1, e1, f1', m1]) r.1 W') → K (fr (V)) W' from fun W' hA => hK _ _ ⟨V, rfl, HV.st 2 rfl, fun h0 => msf h0, fun h0 => hA⟩)
   have HU := Lib.hid (show (V) 0 = .agg #[a1, b1, c1, d1, e1, f1', m1] from e0)
   clear hK hC hW hL HV s0 s1
   rw [HFR.out, e0]
   clear e0
   have HB := Lib.hid hB
   clear hB
   refine wpList_storeJn rfl rfl (.tmp 2) (.tmp 21) rfl (w.heap.size + 1) (.slice none 0 0) (.slice none 0 0) (.slice none 0 0) (.slice none 0 0) (.slice none 0 0) (.slice none 0 0) (.slice none 0 0) a1 b1 c1 d1 e1 f1' m1 rfl rfl HB.out.2.2.2.1.one HB.out.2.2.1 ?_
   intro w' kk gg
   have HA := Lib.hid (show MjJ w w2.heap.size w0.heap.size (w.heap.size + 1) w1.heap.size #[a1, b1, c1, d1, e1, f1', m1] #[a1, b1, c1, d1, e1, f1', m1] (jj.m.length : Nat) (.agg #[a1, b1, c1, d1, e1, f1', m1]) r.1 w' from HB.out.put kk gg HNE.out.1 HNE.out.2.1 HNE.out.2.2.1 HNE.out.2.2.2)
   clear kk gg
   show K _ _; have := H.out _ HA.out; rw [HFR.out] at this
   obtain u0 := HU.out
   rw [u0] at this
   exact this
  ·rintro L A W K hL hC hW ⟨V, rfl, HV, s0, s1⟩ hK
   have e1 := HV 1 _ rfl (hW 1 rfl)
   have H := Lib.hid (show ∀ W', Ext W W' → K (fr (upd V 3 (.int .i64 (jj.m.length : Nat)))) W' from fun W' he => hK _ _ ⟨_, rfl, HV.us 3 _ rfl, fun h0 => MjJ.ext (s0 (mnf h0 rfl)) he, fun h0 => MjJ.ext (s1 (more_ne h0 rfl)) he⟩)
   have HU := Lib.hid (show (upd V 3 (.int .i64 (jj.m.length : Nat))) 1 = .int .i64 (jj.m.length : Nat) from e1)
   clear hK hC hW hL HV s0 s1
   rw [HFR.out, e1]
   clear e1
   go_wp2_with fail
   show K _ _; have := H.out _ (Ext.refl _); rw [HFR.out] at this
   obtain u1 := HU.out
   rw [u1] at this
   exact this
  ·rintro L A W K hL hC hW ⟨V, rfl, HV, s0, s1⟩ hK
   have H := Lib.hid (show ∀ W', Ext W W' → K (fr (upd V 4 (.int .i64 0))) W' from fun W' he => hK _ _ ⟨_, rfl, HV.us 4 _ rfl, fun h0 => MjJ.ext (s0 (mnf h0 rfl)) he, fun h0 => MjJ.ext (s1 (more_ne h0 rfl)) he⟩)
   clear hK hC hW hL HV s0 s1
   rw [HFR.out]
   go_wp2_with fail
   show K _ _; have := H.out _ (Ext.refl _); rw [HFR.out] at this
   exact this
  ·rintro L A W hL ⟨V, rfl, HV, s0, s1⟩
   have e0 := HV 0 _ rfl (hL 0 (by simp))
   have e1 := HV 1 _ rfl (hL 1 (by simp))
   have e3 := HV 3 _ rfl (hL 3 (by simp))
   have e4 := HV 4 _ rfl (hL 4 (by simp))
   have hA := s1 (hL 2 (by simp))
   rw [HFR.out, e0, e1, e3, e4]
   clear hL HV HFR e0 e1 e3 e4 s0 s1
   have HA := Lib.hid hA
   clear hA
   go_wp2_with fail
   refine bodyPost_ret (results_jnt2 Tryz.results26 _ _ (w.heap.size + 1) _ _ _ _ _ _ _ rfl HA.out.2.2.1) rfl ?_
   rw [HF.out]
   exact ⟨_, rfl, HA.out.2.2.2.1.low HE1.out.size, HA.out.2.2.2.2⟩
 ·have f0 : (r.2 == 0) = false := by rw [beq_eq_false_iff_ne]; exact h0
  have f1 : (r.2 != 0) = true := by rw [bne, f0]; rfl
  have HF := Lib.hid (show markJ jj = (jn0, 0, r.2) by rw [HDF.out, if_neg h0])
  clear h0
  have HRZ := Lib.hid HJ.out.2.2.1
  go_wp2_with ((with_reducible refine wpList_storeJn ?_ ?_ (.tmp 2) (.tmp 19) ?_ (w.heap.size + 1) (.slice none 0 0) (.slice none 0 0) (.slice none 0 0) (.slice none 0 0) (.slice none 0 0) (.slice none 0 0) (.slice none 0 0) (.slice none 0 0) (.slice none 0 0) (.slice none 0 0) (.slice none 0 0) (.slice none 0 0) (.slice none 0 0) (.slice none 0 0) ?_ ?_ one7 HRZ.out ?_); (exact rfl); (exact rfl); (exact rfl); (exact rfl); (exact rfl); intro w4 k4 g4; have K4 := Lib.hid k4; have G4 := Lib.hid g4; clear k4 g4)
  refine bodyPost_ret (results_jnt2 Tryz.results26 _ _ (w.heap.size + 1) _ _ _ _ _ _ _ rfl K4.out) rfl ?_
  rw [HF.out]
  exact ⟨_, rfl, RetJn.nil _ _, HJ.out.2.2.2.2.grown G4.out (by omega)⟩
end Go.Proofs.YtnjpdchmdimaaaaGreat
namespace Go.Proofs.YtnjpdchmdimaaaaGreat
open Go.ChangeShapes Go.WideShapes Go.ChangeAt Go.RowKit Go.Shelf

set_option maxRecDepth 100000 in
theorem u8info3J : (Tryz.prog.info? 5).map (fun i => (i.zero, i.size, i.bytes)) = some (some (.int .u8 0), 1, 1) := by kernel_rfl
set_option maxRecDepth 100000 in
set_option maxHeartbeats 1000000 in
theorem jcloneB_any (mv : Value) (n : Nat) (ds : List Value) (w : World) (hm : Rs w 1 mv n ds) (h1c : ∀ u ∈ ds, u.oneCell' = true) (hl : n ≤ 100000) : Calls Tryz.prog 58 #[mv] w fun e w' => ∃ v, e = .returned v ∧ w'.ownsRow w.heap.size 5 1 v n ds ∧ Ext w w' := by
 have HR := Lib.hid hm
 have HO1 := Lib.hid h1c
 obtain ⟨h0, A, c, rfl, h1, h2, h3⟩ := hm
 have hnil := fun (w : World) (n : Nat) => Lib.run_eql_slice_nil (P := Tryz.prog) w 76 5 A n c 0 0 Tryz.underlying76
 clear h1c
 cases A with
 | none =>
  obtain rfl : n = 0 := by
   rcases Nat.eq_zero_or_pos n with h | h
   ·exact h
   ·obtain ⟨b, o, e, _⟩ := h3 h
    cases e
  obtain rfl : ds = [] := List.eq_nil_of_length_eq_zero (h0.trans (Nat.zero_mul _))
  clear h3 HR HO1
  go_enter Tryz.func58, Tryz.ntmps58
  go_wp2_with fail
  go_ret
  exact ⟨_, rfl, World.ownsRow_nil _ _ _ _, Ext.refl _⟩
 | some ad =>
  clear h3
  have HO : Hid ((w.alloc (.cells #[] 5)).ownsRow w.heap.size 5 1 (.slice (some ⟨w.heap.size, 0, none⟩) 0 0) 0 []) := Lib.hid ⟨by simp, .inr ⟨w.heap.size, 0, #[], rfl, Nat.le_refl _, heap_alloc_new _ _, Nat.le_refl _, by unfold maxLen; omega, by simp, by simp⟩⟩
  go_enter Tryz.func58, Tryz.ntmps58
  go_wp2_with (first
   | (at_builtin; go_loud (refine wpList_append_row ?_ (.tmp 5) (.tmp 6) 76 rfl w.heap.size 5 Tryz.underlying76 _ 1 1 u8info3J rfl (by decide) _ 0 [] rfl HO.out _ n ds rfl (HR.out.ext ((Ext.refl w).alloc _)) HO1.out (by omega) (by decide) (by simp) ?_; (exact rfl); intro v5 w5 o5 g5 b5; have O5 := Lib.hid o5; have E5 := Lib.hid (((Ext.refl w).alloc (.cells #[] 5)).grown (g := w.heap.size) g5 (Nat.le_refl _)); clear o5 g5 b5)))
  go_ret
  have := O5.out
  rw [Nat.zero_add, List.nil_append] at this
  exact ⟨_, rfl, this, E5.out⟩
set_option maxRecDepth 100000 in
set_option maxHeartbeats 1000000 in
theorem jcloneA_any (mv : Value) (n : Nat) (ds : List Value) (w : World) (hm : Rs w 1 mv n ds) (h1c : ∀ u ∈ ds, u.oneCell' = true) (hl : n ≤ 100000) : Calls Tryz.prog 9 #[mv] w fun e w' => ∃ v, e = .returned v ∧ w'.ownsRow w.heap.size 45 1 v n ds ∧ Ext w w' := by
 have HR := Lib.hid hm
 have HO1 := Lib.hid h1c
 obtain ⟨h0, A, c, rfl, h1, h2, h3⟩ := hm
 have hnil := fun (w : World) (n : Nat) => Lib.run_eql_slice_nil (P := Tryz.prog) w 31 45 A n c 0 0 Tryz.underlying31
 clear h1c
 cases A with
 | none =>
  obtain rfl : n = 0 := by
   rcases Nat.eq_zero_or_pos n with h | h
   ·exact h
   ·obtain ⟨b, o, e, _⟩ := h3 h
    cases e
  obtain rfl : ds = [] := List.eq_nil_of_length_eq_zero (h0.trans (Nat.zero_mul _))
  clear h3 HR HO1
  go_enter Tryz.func9, Tryz.ntmps9
  go_wp2_with fail
  go_ret
  exact ⟨_, rfl, World.ownsRow_nil _ _ _ _, Ext.refl _⟩
 | some ad =>
  clear h3
  have HO : Hid ((w.alloc (.cells #[] 45)).ownsRow w.heap.size 45 1 (.slice (some ⟨w.heap.size, 0, none⟩) 0 0) 0 []) := Lib.hid ⟨by simp, .inr ⟨w.heap.size, 0, #[], rfl, Nat.le_refl _, heap_alloc_new _ _, Nat.le_refl _, by unfold maxLen; omega, by simp, by simp⟩⟩
  go_enter Tryz.func9, Tryz.ntmps9
  go_wp2_with (first
   | (at_builtin; go_loud (refine wpList_append_row ?_ (.tmp 5) (.tmp 6) 31 rfl w.heap.size 45 Tryz.underlying31 _ 1 8 infoA3 rfl (by decide) _ 0 [] rfl HO.out _ n ds rfl (HR.out.ext ((Ext.refl w).alloc _)) HO1.out (by omega) (by decide) (by simp) ?_; (exact rfl); intro v5 w5 o5 g5 b5; have O5 := Lib.hid o5; have E5 := Lib.hid (((Ext.refl w).alloc (.cells #[] 45)).grown (g := w.heap.size) g5 (Nat.le_refl _)); clear o5 g5 b5)))
  go_ret
  have := O5.out
  rw [Nat.zero_add, List.nil_append] at this
  exact ⟨_, rfl, this, E5.out⟩
set_option maxRecDepth 100000 in
set_option maxHeartbeats 1000000 in
theorem jcloneS_any (mv : Value) (n : Nat) (ds : List Value) (w : World) (hm : Rs w 5 mv n ds) (h1c : ∀ u ∈ ds, u.oneCell' = true) (hl : n ≤ 100000) : Calls Tryz.prog 62 #[mv] w fun e w' => ∃ v, e = .returned v ∧ w'.ownsRow w.heap.size 115 5 v n ds ∧ Ext w w' := by
 have HR := Lib.hid hm
 have HO1 := Lib.hid h1c
 obtain ⟨h0, A, c, rfl, h1, h2, h3⟩ := hm
 have hnil := fun (w : World) (n : Nat) => Lib.run_eql_slice_nil (P := Tryz.prog) w 32 115 A n c 0 0 Tryz.underlying32
 clear h1c
 cases A with
 | none =>
  obtain rfl : n = 0 := by
   rcases Nat.eq_zero_or_pos n with h | h
   ·exact h
   ·obtain ⟨b, o, e, _⟩ := h3 h
    cases e
  obtain rfl : ds = [] := List.eq_nil_of_length_eq_zero (h0.trans (Nat.zero_mul _))
  clear h3 HR HO1
  go_enter Tryz.func62, Tryz.ntmps62
  go_wp2_with fail
  go_ret
  exact ⟨_, rfl, World.ownsRow_nil _ _ _ _, Ext.refl _⟩
 | some ad =>
  clear h3
  have HO : Hid ((w.alloc (.cells #[] 115)).ownsRow w.heap.size 115 5 (.slice (some ⟨w.heap.size, 0, none⟩) 0 0) 0 []) := Lib.hid ⟨by simp, .inr ⟨w.heap.size, 0, #[], rfl, Nat.le_refl _, heap_alloc_new _ _, Nat.le_refl _, by unfold maxLen; omega, by simp, by simp⟩⟩
  go_enter Tryz.func62, Tryz.ntmps62
  go_wp2_with (first
   | (at_builtin; go_loud (refine wpList_append_row ?_ (.tmp 5) (.tmp 6) 32 rfl w.heap.size 115 Tryz.underlying32 _ 5 40 infoS3 rfl (by decide) _ 0 [] rfl HO.out _ n ds rfl (HR.out.ext ((Ext.refl w).alloc _)) HO1.out (by omega) (by decide) (by simp) ?_; (exact rfl); intro v5 w5 o5 g5 b5; have O5 := Lib.hid o5; have E5 := Lib.hid (((Ext.refl w).alloc (.cells #[] 115)).grown (g := w.heap.size) g5 (Nat.le_refl _)); clear o5 g5 b5)))
  go_ret
  have := O5.out
  rw [Nat.zero_add, List.nil_append] at this
  exact ⟨_, rfl, this, E5.out⟩
set_option maxRecDepth 100000 in
set_option maxHeartbeats 1000000 in
theorem jcloneP_any (mv : Value) (n : Nat) (ds : List Value) (w : World) (hm : Rs w 9 mv n ds) (h1c : ∀ u ∈ ds, u.oneCell' = true) (hl : n ≤ 100000) : Calls Tryz.prog 63 #[mv] w fun e w' => ∃ v, e = .returned v ∧ w'.ownsRow w.heap.size 118 9 v n ds ∧ Ext w w' := by
 have HR := Lib.hid hm
 have HO1 := Lib.hid h1c
 obtain ⟨h0, A, c, rfl, h1, h2, h3⟩ := hm
 have hnil := fun (w : World) (n : Nat) => Lib.run_eql_slice_nil (P := Tryz.prog) w 33 118 A n c 0 0 Tryz.underlying33
 clear h1c
 cases A with
 | none =>
  obtain rfl : n = 0 := by
   rcases Nat.eq_zero_or_pos n with h | h
   ·exact h
   ·obtain ⟨b, o, e, _⟩ := h3 h
    cases e
  obtain rfl : ds = [] := List.eq_nil_of_length_eq_zero (h0.trans (Nat.zero_mul _))
  clear h3 HR HO1
  go_enter Tryz.func63, Tryz.ntmps63
  go_wp2_with fail
  go_ret
  exact ⟨_, rfl, World.ownsRow_nil _ _ _ _, Ext.refl _⟩
 | some ad =>
  clear h3
  have HO : Hid ((w.alloc (.cells #[] 118)).ownsRow w.heap.size 118 9 (.slice (some ⟨w.heap.size, 0, none⟩) 0 0) 0 []) := Lib.hid ⟨by simp, .inr ⟨w.heap.size, 0, #[], rfl, Nat.le_refl _, heap_alloc_new _ _, Nat.le_refl _, by unfold maxLen; omega, by simp, by simp⟩⟩
  go_enter Tryz.func63, Tryz.ntmps63
  go_wp2_with (first
   | (at_builtin; go_loud (refine wpList_append_row ?_ (.tmp 5) (.tmp 6) 33 rfl w.heap.size 118 Tryz.underlying33 _ 9 72 infoP3 rfl (by decide) _ 0 [] rfl HO.out _ n ds rfl (HR.out.ext ((Ext.refl w).alloc _)) HO1.out (by omega) (by decide) (by simp) ?_; (exact rfl); intro v5 w5 o5 g5 b5; have O5 := Lib.hid o5; have E5 := Lib.hid (((Ext.refl w).alloc (.cells #[] 118)).grown (g := w.heap.size) g5 (Nat.le_refl _)); clear o5 g5 b5)))
  go_ret
  have := O5.out
  rw [Nat.zero_add, List.nil_append] at this
  exact ⟨_, rfl, this, E5.out⟩
set_option maxRecDepth 100000 in
set_option maxHeartbeats 1000000 in
theorem jcloneK_any (mv : Value) (n : Nat) (ds : List Value) (w : World) (hm : Rs w 8 mv n ds) (h1c : ∀ u ∈ ds, u.oneCell' = true) (hl : n ≤ 100000) : Calls Tryz.prog 59 #[mv] w fun e w' => ∃ v, e = .returned v ∧ w'.ownsRow w.heap.size 106 8 v n ds ∧ Ext w w' := by
 have HR := Lib.hid hm
 have HO1 := Lib.hid h1c
 obtain ⟨h0, A, c, rfl, h1, h2, h3⟩ := hm
 have hnil := fun (w : World) (n : Nat) => Lib.run_eql_slice_nil (P := Tryz.prog) w 77 106 A n c 0 0 Tryz.underlying77
 clear h1c
 cases A with
 | none =>
  obtain rfl : n = 0 := by
   rcases Nat.eq_zero_or_pos n with h | h
   ·exact h
   ·obtain ⟨b, o, e, _⟩ := h3 h
    cases e
  obtain rfl : ds = [] := List.eq_nil_of_length_eq_zero (h0.trans (Nat.zero_mul _))
  clear h3 HR HO1
  go_enter Tryz.func59, Tryz.ntmps59
  go_wp2_with fail
  go_ret
  exact ⟨_, rfl, World.ownsRow_nil _ _ _ _, Ext.refl _⟩
 | some ad =>
  clear h3
  have HO : Hid ((w.alloc (.cells #[] 106)).ownsRow w.heap.size 106 8 (.slice (some ⟨w.heap.size, 0, none⟩) 0 0) 0 []) := Lib.hid ⟨by simp, .inr ⟨w.heap.size, 0, #[], rfl, Nat.le_refl _, heap_alloc_new _ _, Nat.le_refl _, by unfold maxLen; omega, by simp, by simp⟩⟩
  go_enter Tryz.func59, Tryz.ntmps59
  go_wp2_with (first
   | (at_builtin; go_loud (refine wpList_append_row ?_ (.tmp 5) (.tmp 6) 77 rfl w.heap.size 106 Tryz.underlying77 _ 8 64 pkinfo3 rfl (by decide) _ 0 [] rfl HO.out _ n ds rfl (HR.out.ext ((Ext.refl w).alloc _)) HO1.out (by omega) (by decide) (by simp) ?_; (exact rfl); intro v5 w5 o5 g5 b5; have O5 := Lib.hid o5; have E5 := Lib.hid (((Ext.refl w).alloc (.cells #[] 106)).grown (g := w.heap.size) g5 (Nat.le_refl _)); clear o5 g5 b5)))
  go_ret
  have := O5.out
  rw [Nat.zero_add, List.nil_append] at this
  exact ⟨_, rfl, this, E5.out⟩
set_option maxRecDepth 100000 in
set_option maxHeartbeats 1000000 in
theorem jcloneAc_any (mv : Value) (n : Nat) (ds : List Value) (w : World) (hm : Rs w 8 mv n ds) (h1c : ∀ u ∈ ds, u.oneCell' = true) (hl : n ≤ 100000) : Calls Tryz.prog 57 #[mv] w fun e w' => ∃ v, e = .returned v ∧ w'.ownsRow w.heap.size 79 8 v n ds ∧ Ext w w' := by
 have HR := Lib.hid hm
 have HO1 := Lib.hid h1c
 obtain ⟨h0, A, c, rfl, h1, h2, h3⟩ := hm
 have hnil := fun (w : World) (n : Nat) => Lib.run_eql_slice_nil (P := Tryz.prog) w 22 79 A n c 0 0 Tryz.underlying22
 clear h1c
 cases A with
 | none =>
  obtain rfl : n = 0 := by
   rcases Nat.eq_zero_or_pos n with h | h
   ·exact h
   ·obtain ⟨b, o, e, _⟩ := h3 h
    cases e
  obtain rfl : ds = [] := List.eq_nil_of_length_eq_zero (h0.trans (Nat.zero_mul _))
  clear h3 HR HO1
  go_enter Tryz.func57, Tryz.ntmps57
  go_wp2_with fail
  go_ret
  exact ⟨_, rfl, World.ownsRow_nil _ _ _ _, Ext.refl _⟩
 | some ad =>
  clear h3
  have HO : Hid ((w.alloc (.cells #[] 79)).ownsRow w.heap.size 79 8 (.slice (some ⟨w.heap.size, 0, none⟩) 0 0) 0 []) := Lib.hid ⟨by simp, .inr ⟨w.heap.size, 0, #[], rfl, Nat.le_refl _, heap_alloc_new _ _, Nat.le_refl _, by unfold maxLen; omega, by simp, by simp⟩⟩
  go_enter Tryz.func57, Tryz.ntmps57
  go_wp2_with (first
   | (at_builtin; go_loud (refine wpList_append_row ?_ (.tmp 5) (.tmp 6) 22 rfl w.heap.size 79 Tryz.underlying22 _ 8 96 acinfo3 rfl (by decide) _ 0 [] rfl HO.out _ n ds rfl (HR.out.ext ((Ext.refl w).alloc _)) HO1.out (by omega) (by decide) (by simp) ?_; (exact rfl); intro v5 w5 o5 g5 b5; have O5 := Lib.hid o5; have E5 := Lib.hid (((Ext.refl w).alloc (.cells #[] 79)).grown (g := w.heap.size) g5 (Nat.le_refl _)); clear o5 g5 b5)))
  go_ret
  have := O5.out
  rw [Nat.zero_add, List.nil_append] at this
  exact ⟨_, rfl, this, E5.out⟩
end Go.Proofs.YtnjpdchmdimaaaaGreat
