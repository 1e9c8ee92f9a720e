/- Package journal: a journal in memory of its own. -/
import Derived.Test.YtnjpdchmdimaaaaGreatQJnh
namespace Go.Proofs.YtnjpdchmdimaaaaGreat
open Go.ChangeShapes Go.WideShapes Go.ChangeAt Go.RowKit Go.Shelf

set_option maxRecDepth 100000 in
set_option maxHeartbeats 8000000 in
theorem ownJn_any (xu xv xz xa xs xq xm : Value) (j : Jn) (w : World) (hx : WoR w xu xv xz j.p.w ∧ AxR w xa xs xq j.p.x ∧ Pos w xm j.m) (hz : SzJn j) :
  Calls Tryz.prog 108 #[.agg #[xu, xv, xz, xa, xs, xq, xm]] w fun e w' => ∃ v', e = .returned v' ∧ RetJn w.heap.size w' v' j ∧ Ext w w' := by
 have HX := Lib.hid hx
 have HZ := Lib.hid hz
 have HON : Hid ((#[xu, xv, xz, xa, xs, xq, xm] : Array Value).all (·.oneCell') = true) := Lib.hid (by
  obtain ⟨y1, y2, y3⟩ := axr_one hx.2.1
  have y4 := acs_one hx.1.1
  have y5 := hds_one hx.1.2.1
  have y6 := nns_one hx.1.2.2
  have y7 := pos_one hx.2.2
  simp [y1, y2, y3, y4, y5, y6, y7])
 obtain ⟨w0, hw0⟩ : ∃ w0, (w.alloc (.cells #[xu, xv, xz, xa, xs, xq, xm] 40)).alloc (.cells #[.slice none 0 0, .slice none 0 0, .slice none 0 0, .slice none 0 0, .slice none 0 0, .slice none 0 0, .slice none 0 0] 40) = w0 := ⟨_, rfl⟩
 have HC0 : Hid (Cs w0 w.heap.size 40 #[xu, xv, xz, xa, xs, xq, xm]) := Lib.hid (by rw [← hw0]; exact Cs.alloc (Cs.new _ _ _ _ rfl) _)
 have HR0 : Hid (Cs w0 (w.heap.size + 1) 40 #[.slice none 0 0, .slice none 0 0, .slice none 0 0, .slice none 0 0, .slice none 0 0, .slice none 0 0, .slice none 0 0]) := Lib.hid (by rw [← hw0]; exact Cs.new _ _ _ _ (by simp))
 have HE0 : Hid (Ext w w0) := Lib.hid (by rw [← hw0]; exact ((Ext.refl w).alloc _).alloc _)
 have HG2 : Hid (w.heap.size < w0.heap.size ∧ w.heap.size + 1 < w0.heap.size) := Lib.hid ⟨HC0.out.lt, HR0.out.lt⟩
 have HW0 := Lib.hid hw0
 have HO1 := HON.out
 clear hx hw0 hz
 go_enter Tryz.func108, Tryz.ntmps108
 go_upto_region 1 with fail
 rw [HW0.out]
 clear HW0 HO1
 have hc := HC0.out.cell 6 _ rfl
 go_wp2_with fail
 clear hc
 refine (eachPo_any _ j.m _ (HX.out.2.2.ext HE0.out) HZ.out.2.1 HZ.out.2.2).mono ?_
 rintro e w1 ⟨v1, rfl, ho, he⟩
 obtain ⟨B1, d1, rfl⟩ := rowO_shp ho
 have HO := Lib.hid ho
 have HE1 := Lib.hid he
 clear ho he
 go_upto_region 2 with (first
  | ((with_reducible refine wpList_build_jn ?_ (.tmp 6) ?_ B1 j.m.length d1 ?_ ?_); (exact rfl); (exact rfl); (exact rfl))
  | ((with_reducible refine wpList_storeJn ?_ ?_ (.tmp 3) (.tmp 7) ?_ w1.heap.size (.slice none 0 0) (.slice none 0 0) (.slice none 0 0) (.slice none 0 0) (.slice none 0 0) (.slice none 0 0) (.slice none 0 0) (.slice none 0 0) (.slice none 0 0) (.slice none 0 0) (.slice none 0 0) (.slice none 0 0) (.slice none 0 0) (.slice B1 j.m.length d1) ?_ ?_ ?_ ?_ ?_); (exact rfl); (exact rfl); (exact rfl); (exact rfl); (exact rfl); (exact (by simp only [List.all_toArray, List.all_cons, List.all_nil, Bool.and_true]; rfl)); (exact (Cs.new _ _ _ _ rfl)); intro w3 k3 g3; have K3 := Lib.hid k3; have G3 := Lib.hid g3; clear k3 g3))
 have HXL := Lib.hid (((Ext.refl w1).alloc (.cells #[.slice none 0 0, .slice none 0 0, .slice none 0 0, .slice none 0 0, .slice none 0 0, .slice none 0 0, .slice none 0 0] 40)).grown G3.out (Nat.le_refl _))
 have HNE : Hid (w.heap.size ≠ w1.heap.size ∧ (w.heap.size + 1) ≠ w1.heap.size ∧ (Value.slice B1 j.m.length d1).ownBlock ≠ some w1.heap.size ∧ w.heap.size ≤ w1.heap.size) := Lib.hid (by
  have h1 := HE1.out.size
  have h2 := HG2.out
  exact ⟨by omega, by omega, fun e => by have := (HO.out.lt _ e).2; omega, by omega⟩)
 have HRX : Hid (RowO 37 6 PoR (fun g => g = w1.heap.size) w0.heap.size w3 (.slice B1 j.m.length d1) j.m) := Lib.hid (by
  have h1 : RowO 37 6 PoR (fun g => g = w1.heap.size) w0.heap.size w1 (.slice B1 j.m.length d1) j.m := HO.out.less (fun g hg => .inr (.inr (Nat.le_of_eq hg.symm)))
  exact (h1.ext ((Ext.refl w1).alloc (.cells #[.slice none 0 0, .slice none 0 0, .slice none 0 0, .slice none 0 0, .slice none 0 0, .slice none 0 0, .slice none 0 0] 40))).old G3.out (.inr (.inl rfl)) HNE.out.2.2.1)
 have HJ : Hid (OjN w w.heap.size (w.heap.size + 1) w1.heap.size w0.heap.size #[xu, xv, xz, xa, xs, xq, xm] (.slice B1 j.m.length d1) j.m #[.slice none 0 0, .slice none 0 0, .slice none 0 0, .slice none 0 0, .slice none 0 0, .slice none 0 0, .slice B1 j.m.length d1] w3) := Lib.hid ⟨Cs.ext HC0.out (HE1.out.trans HXL.out), Cs.ext HR0.out (HE1.out.trans HXL.out), K3.out, HRX.out, (HE0.out.trans HE1.out).trans HXL.out⟩
 have HS1 := Lib.hid (show w0.heap.size ≤ w1.heap.size from HE1.out.size)
 clear HXL K3 G3 HC0 HR0 HO HRX
 refine wp_named fun a0 ha0 => ?_
 obtain ⟨fr, hfr⟩ : ∃ fr : (Nat → Value) → Act, ∀ V, fr V = ((((((((((((a0.put (some 8) (V 0)).put (some 9) (V 1)).put (some 10) (V 2)).put (some 11) (V 3)).put (some 12) (V 4)).put (some 13) (V 5)).put (some 14) (V 6)).put (some 15) (V 7)).put (some 16) (V 8)).put (some 17) (V 9)).put (some 18) (V 11)).put (some 19) (V 12)) := ⟨_, fun _ => rfl⟩
 rw [ha0] at hfr
 simp only [Act.put, List.setIfInBounds_toArray, List.set_cons_zero, List.set_cons_succ] at hfr
 have HFR := Lib.hid hfr
 clear hfr
 refine wp_region_inv (by kernel_rfl) (by kernel_rfl) (fun L A W => ∃ V : Nat → Value, A = fr V ∧ Vals (fun j => ([some (.pointer (some ⟨w.heap.size, 0, none⟩)), some (.pointer (some ⟨w.heap.size, 0, none⟩)), some (.agg #[xu, xv, xz]), none, some (.pointer (some ⟨w.heap.size, 0, none⟩)), some (.pointer (some ⟨w.heap.size, 3, none⟩)), some (.agg #[xa, xs, xq]), none, some (.pointer (some ⟨w1.heap.size, 0, none⟩)), some (.pointer (some ⟨w1.heap.size, 0, none⟩)), none, some (.pointer (some ⟨w1.heap.size, 0, none⟩)), some (.pointer (some ⟨w1.heap.size, 3, none⟩)), none] : List (Option Value)).getD j none) L V ∧ (L 10 = false → OjN w w.heap.size (w.heap.size + 1) w1.heap.size w0.heap.size #[xu, xv, xz, xa, xs, xq, xm] (.slice B1 j.m.length d1) j.m #[.slice none 0 0, .slice none 0 0, .slice none 0 0, .slice none 0 0, .slice none 0 0, .slice none 0 0, .slice B1 j.m.length d1] W) ∧ (L 10 = true → L 13 = false → OjM w w.heap.size (w.heap.size + 1) w1.heap.size w0.heap.size (w1.heap.size + 1) #[xu, xv, xz, xa, xs, xq, xm] (.slice B1 j.m.length d1) j false (V 3) (V 7) W) ∧ (L 13 = true → OjM w w.heap.size (w.heap.size + 1) w1.heap.size w0.heap.size (w1.heap.size + 1) #[xu, xv, xz, xa, xs, xq, xm] (.slice B1 j.m.length d1) j true (V 3) (V 7) W) ∧ (L 10 = false → L 3 = true → RetWo (w1.heap.size + 1) W (V 3) j.p.w) ∧ (L 7 = true → RetX (w1.heap.size + 1) W (V 7) j.p.x)) ?_ ⟨?_, ?_, ?_, ?_, ?_, ?_, ?_, ?_, ?_, ?_, ?_, ?_, ?_, ?_, trivial⟩ ?_
 ·refine ⟨fun j => a0.tmps.getD (([8, 9, 10, 11, 12, 13, 14, 15, 16, 17, 0, 18, 19, 0] : List Nat).getD j 0) undef, ?_, Vals.no _ _ _ (far_none _ _ rfl), fun _ => HJ.out.ext (Ext.refl _).drew, fun h0 h1 => absurd h0 (by decide), fun h0 => absurd h0 (by decide), fun h0 h1 => absurd h1 (by decide), fun h0 => absurd h0 (by decide)⟩
  rw [HFR.out, ha0]
  rfl
 all_goals clear ha0
 ·rintro L A W K hL hC hW ⟨V, rfl, HV, s0, s1, s2, f3, f7⟩ hK
  have H := Lib.hid (show ∀ W', Ext W W' → K (fr (upd V 0 (.pointer (some ⟨w.heap.size, 0, none⟩)))) W' from fun W' he => hK _ _ ⟨_, rfl, HV.us 0 _ rfl, fun h0 => OjN.ext (s0 (mnf h0 rfl)) he, fun h0 h1 => OjM.ext (s1 (more_ne h0 rfl) (mnf h1 rfl)) he, fun h0 => OjM.ext (s2 (more_ne h0 rfl)) he, fun h0 h1 => RetWo.ext (f3 (mnf h0 rfl) (more_ne h1 rfl)) he, fun h0 => RetX.ext (f7 (more_ne h0 rfl)) he⟩)
  clear hK hC hW hL HV s0 s1 s2 f3 f7
  rw [HFR.out]
  go_wp2_with fail
  show K _ _; have := H.out _ (Ext.refl _); rw [HFR.out] at this
  exact this
 ·rintro L A W K hL hC hW ⟨V, rfl, HV, s0, s1, s2, f3, f7⟩ hK
  have e0 := HV 0 _ rfl (hW 0 rfl)
  have H := Lib.hid (show ∀ W', Ext W W' → K (fr (upd V 1 (.pointer (some ⟨w.heap.size, 0, none⟩)))) W' from fun W' he => hK _ _ ⟨_, rfl, HV.us 1 _ rfl, fun h0 => OjN.ext (s0 (mnf h0 rfl)) he, fun h0 h1 => OjM.ext (s1 (more_ne h0 rfl) (mnf h1 rfl)) he, fun h0 => OjM.ext (s2 (more_ne h0 rfl)) he, fun h0 h1 => RetWo.ext (f3 (mnf h0 rfl) (more_ne h1 rfl)) he, fun h0 => RetX.ext (f7 (more_ne h0 rfl)) he⟩)
  have HU := Lib.hid (show (upd V 1 (.pointer (some ⟨w.heap.size, 0, none⟩))) 0 = .pointer (some ⟨w.heap.size, 0, none⟩) from e0)
  clear hK hC hW hL HV s0 s1 s2 f3 f7
  rw [HFR.out, e0]
  clear e0
  go_wp2_with fail
  show K _ _; have := H.out _ (Ext.refl _); rw [HFR.out] at this
  obtain u0 := HU.out
  rw [u0] at this
  exact this
 ·rintro L A W K hL hC hW ⟨V, rfl, HV, s0, s1, s2, f3, f7⟩ hK
  have e1 := HV 1 _ rfl (hW 1 rfl)
  have hB := s0 (hC.no hL 10 _ rfl rfl)
  have H := Lib.hid (show ∀ W', Ext W W' → K (fr (upd V 2 (.agg #[xu, xv, xz]))) W' from fun W' he => hK _ _ ⟨_, rfl, HV.us 2 _ rfl, fun h0 => OjN.ext (s0 (mnf h0 rfl)) he, fun h0 h1 => OjM.ext (s1 (more_ne h0 rfl) (mnf h1 rfl)) he, fun h0 => OjM.ext (s2 (more_ne h0 rfl)) he, fun h0 h1 => RetWo.ext (f3 (mnf h0 rfl) (more_ne h1 rfl)) he, fun h0 => RetX.ext (f7 (more_ne h0 rfl)) he⟩)
  have HU := Lib.hid (show (upd V 2 (.agg #[xu, xv, xz])) 1 = .pointer (some ⟨w.heap.size, 0, none⟩) from e1)
  clear hK hC hW hL HV s0 s1 s2 f3 f7
  rw [HFR.out, e1]
  clear e1
  have HRG := Lib.hid (rg_part (cs := [xu, xv, xz, xa, xs, xq, xm]) (ds := [xu, xv, xz]) 0 (Cs.rg hB.1) (fun j y hy => by rcases j with _ | _ | _ | j; all_goals first | exact hy | (simp at hy)))
  clear hB
  refine wpList_loadWo rfl (.tmp 9) rfl w.heap.size 0 xu xv xz rfl HRG.out ?_
  show K _ _; have := H.out _ (Ext.refl _); rw [HFR.out] at this
  obtain u1 := HU.out
  rw [u1] at this
  exact this
 ·rintro L A W K hL hC hW ⟨V, rfl, HV, s0, s1, s2, f3, f7⟩ hK
  have e2 := HV 2 _ rfl (hW 2 rfl)
  have hB := s0 (hC.no hL 10 _ rfl rfl)
  have H := Lib.hid (show ∀ v W', Ext W W' → (RetWo (w1.heap.size + 1) W' v j.p.w) → K (fr (upd V 3 v)) W' from fun v W' he hp => hK _ _ ⟨_, rfl, HV.un 3 _ rfl, fun h0 => OjN.ext (s0 (mnf h0 rfl)) he, fun h0 h1 => mtf (hC.no hL 10 _ rfl rfl) (more_ne h0 rfl), fun h0 => mtf (hC.no (hC.no hL 10 _ rfl rfl) 13 _ rfl rfl) (more_ne h0 rfl), fun h0 h1 => hp, fun h0 => RetX.ext (f7 (more_ne h0 rfl)) he⟩)
  have HU := Lib.hid (show ∀ v, (upd V 3 v) 2 = .agg #[xu, xv, xz] from fun v => e2)
  clear hK hC hW hL HV s0 s1 s2 f3 f7
  rw [HFR.out, e2]
  clear e2
  have HB := Lib.hid hB.2.2.2.2
  have HSZ := Lib.hid (hB.2.2.1.lt)
  clear hB
  go_wp2_with fail
  refine (ownWo_any _ _ _ j.p.w _ (HX.out.1.ext HB.out) HZ.out.1.1).mono ?_
  rintro e wx ⟨vx, rfl, ho, he⟩
  have := H.out _ _ he (ho.low (Nat.succ_le_of_lt HSZ.out))
  clear H
  go_wp2_with fail
  show K _ _
  rw [HFR.out] at this
  obtain u2 := HU.out _
  rw [u2] at this
  exact this
 ·rintro L A W K hL hC hW ⟨V, rfl, HV, s0, s1, s2, f3, f7⟩ hK
  have H := Lib.hid (show ∀ W', Ext W W' → K (fr (upd V 4 (.pointer (some ⟨w.heap.size, 0, none⟩)))) W' from fun W' he => hK _ _ ⟨_, rfl, HV.us 4 _ rfl, fun h0 => OjN.ext (s0 (mnf h0 rfl)) he, fun h0 h1 => OjM.ext (s1 (more_ne h0 rfl) (mnf h1 rfl)) he, fun h0 => OjM.ext (s2 (more_ne h0 rfl)) he, fun h0 h1 => RetWo.ext (f3 (mnf h0 rfl) (more_ne h1 rfl)) he, fun h0 => RetX.ext (f7 (more_ne h0 rfl)) he⟩)
  clear hK hC hW hL HV s0 s1 s2 f3 f7
  rw [HFR.out]
  go_wp2_with fail
  show K _ _; have := H.out _ (Ext.refl _); rw [HFR.out] at this
  exact this
 ·rintro L A W K hL hC hW ⟨V, rfl, HV, s0, s1, s2, f3, f7⟩ hK
  have e4 := HV 4 _ rfl (hW 4 rfl)
  have H := Lib.hid (show ∀ W', Ext W W' → K (fr (upd V 5 (.pointer (some ⟨w.heap.size, 3, none⟩)))) W' from fun W' he => hK _ _ ⟨_, rfl, HV.us 5 _ rfl, fun h0 => OjN.ext (s0 (mnf h0 rfl)) he, fun h0 h1 => OjM.ext (s1 (more_ne h0 rfl) (mnf h1 rfl)) he, fun h0 => OjM.ext (s2 (more_ne h0 rfl)) he, fun h0 h1 => RetWo.ext (f3 (mnf h0 rfl) (more_ne h1 rfl)) he, fun h0 => RetX.ext (f7 (more_ne h0 rfl)) he⟩)
  have HU := Lib.hid (show (upd V 5 (.pointer (some ⟨w.heap.size, 3, none⟩))) 4 = .pointer (some ⟨w.heap.size, 0, none⟩) from e4)
  clear hK hC hW hL HV s0 s1 s2 f3 f7
  rw [HFR.out, e4]
  clear e4
  go_wp2_with fail
  show K _ _; have := H.out _ (Ext.refl _); rw [HFR.out] at this
  obtain u4 := HU.out
  rw [u4] at this
  exact this
 ·rintro L A W K hL hC hW ⟨V, rfl, HV, s0, s1, s2, f3, f7⟩ hK
  have e5 := HV 5 _ rfl (hW 5 rfl)
  have hB := s0 (hC.no (hC.no hL 7 _ rfl rfl) 10 _ rfl rfl)
  have H := Lib.hid (show ∀ W', Ext W W' → K (fr (upd V 6 (.agg #[xa, xs, xq]))) W' from fun W' he => hK _ _ ⟨_, rfl, HV.us 6 _ rfl, fun h0 => OjN.ext (s0 (mnf h0 rfl)) he, fun h0 h1 => OjM.ext (s1 (more_ne h0 rfl) (mnf h1 rfl)) he, fun h0 => OjM.ext (s2 (more_ne h0 rfl)) he, fun h0 h1 => RetWo.ext (f3 (mnf h0 rfl) (more_ne h1 rfl)) he, fun h0 => RetX.ext (f7 (more_ne h0 rfl)) he⟩)
  have HU := Lib.hid (show (upd V 6 (.agg #[xa, xs, xq])) 5 = .pointer (some ⟨w.heap.size, 3, none⟩) from e5)
  clear hK hC hW hL HV s0 s1 s2 f3 f7
  rw [HFR.out, e5]
  clear e5
  have HRG := Lib.hid (rg_part (cs := [xu, xv, xz, xa, xs, xq, xm]) (ds := [xa, xs, xq]) 3 (Cs.rg hB.1) (fun j y hy => by rcases j with _ | _ | _ | j; all_goals first | exact hy | (simp at hy)))
  clear hB
  refine wpList_loadXk rfl (.tmp 13) rfl w.heap.size 3 xa xs xq rfl HRG.out ?_
  show K _ _; have := H.out _ (Ext.refl _); rw [HFR.out] at this
  obtain u5 := HU.out
  rw [u5] at this
  exact this
 ·rintro L A W K hL hC hW ⟨V, rfl, HV, s0, s1, s2, f3, f7⟩ hK
  have e6 := HV 6 _ rfl (hW 6 rfl)
  have hB := s0 (hC.no hL 10 _ rfl rfl)
  have H := Lib.hid (show ∀ v W', Ext W W' → (RetX (w1.heap.size + 1) W' v j.p.x) → K (fr (upd V 7 v)) W' from fun v W' he hp => hK _ _ ⟨_, rfl, HV.un 7 _ rfl, fun h0 => OjN.ext (s0 (mnf h0 rfl)) he, fun h0 h1 => mtf (hC.no hL 10 _ rfl rfl) (more_ne h0 rfl), fun h0 => mtf (hC.no hL 13 _ rfl rfl) (more_ne h0 rfl), fun h0 h1 => RetWo.ext (f3 (mnf h0 rfl) (more_ne h1 rfl)) he, fun h0 => hp⟩)
  have HU := Lib.hid (show ∀ v, (upd V 7 v) 6 = .agg #[xa, xs, xq] from fun v => e6)
  clear hK hC hW hL HV s0 s1 s2 f3 f7
  rw [HFR.out, e6]
  clear e6
  have HB := Lib.hid hB.2.2.2.2
  have HSZ := Lib.hid (hB.2.2.1.lt)
  clear hB
  go_wp2_with fail
  refine (ownAx_any _ _ _ j.p.x _ (HX.out.2.1.ext HB.out) HZ.out.1.2.1 HZ.out.1.2.2.1 HZ.out.1.2.2.2).mono ?_
  rintro e wx ⟨vx, rfl, ho, he⟩
  have := H.out _ _ he (ho.low (Nat.succ_le_of_lt HSZ.out))
  clear H
  go_wp2_with fail
  show K _ _
  rw [HFR.out] at this
  obtain u6 := HU.out _
  rw [u6] at this
  exact this
 ·rintro L A W K hL hC hW ⟨V, rfl, HV, s0, s1, s2, f3, f7⟩ hK
  have H := Lib.hid (show ∀ W', Ext W W' → K (fr (upd V 8 (.pointer (some ⟨w1.heap.size, 0, none⟩)))) W' from fun W' he => hK _ _ ⟨_, rfl, HV.us 8 _ rfl, fun h0 => OjN.ext (s0 (mnf h0 rfl)) he, fun h0 h1 => OjM.ext (s1 (more_ne h0 rfl) (mnf h1 rfl)) he, fun h0 => OjM.ext (s2 (more_ne h0 rfl)) he, fun h0 h1 => RetWo.ext (f3 (mnf h0 rfl) (more_ne h1 rfl)) he, fun h0 => RetX.ext (f7 (more_ne h0 rfl)) he⟩)
  clear hK hC hW hL HV s0 s1 s2 f3 f7
  rw [HFR.out]
  go_wp2_with fail
  show K _ _; have := H.out _ (Ext.refl _); rw [HFR.out] at this
  exact this
 ·rintro L A W K hL hC hW ⟨V, rfl, HV, s0, s1, s2, f3, f7⟩ hK
  have e8 := HV 8 _ rfl (hW 8 rfl)
  have H := Lib.hid (show ∀ W', Ext W W' → K (fr (upd V 9 (.pointer (some ⟨w1.heap.size, 0, none⟩)))) W' from fun W' he => hK _ _ ⟨_, rfl, HV.us 9 _ rfl, fun h0 => OjN.ext (s0 (mnf h0 rfl)) he, fun h0 h1 => OjM.ext (s1 (more_ne h0 rfl) (mnf h1 rfl)) he, fun h0 => OjM.ext (s2 (more_ne h0 rfl)) he, fun h0 h1 => RetWo.ext (f3 (mnf h0 rfl) (more_ne h1 rfl)) he, fun h0 => RetX.ext (f7 (more_ne h0 rfl)) he⟩)
  have HU := Lib.hid (show (upd V 9 (.pointer (some ⟨w1.heap.size, 0, none⟩))) 8 = .pointer (some ⟨w1.heap.size, 0, none⟩) from e8)
  clear hK hC hW hL HV s0 s1 s2 f3 f7
  rw [HFR.out, e8]
  clear e8
  go_wp2_with fail
  show K _ _; have := H.out _ (Ext.refl _); rw [HFR.out] at this
  obtain u8 := HU.out
  rw [u8] at this
  exact this
 ·rintro L A W K hL hC hW ⟨V, rfl, HV, s0, s1, s2, f3, f7⟩ hK
  have e9 := HV 9 _ rfl (hW 9 rfl)
  have e2 := HV 2 _ rfl (hW 2 rfl)
  have hB := s0 hL
  have q3 := f3 hL (hW 3 rfl)
  obtain ⟨a3, s3, p3, e3, z3⟩ := retWo_shp q3
  have q7 := f7 (hW 7 rfl)
  obtain ⟨a7, s7, p7, e7, z7⟩ := retX_shp q7
  have H := Lib.hid (show ∀ W', (OjM w w.heap.size (w.heap.size + 1) w1.heap.size w0.heap.size (w1.heap.size + 1) #[xu, xv, xz, xa, xs, xq, xm] (.slice B1 j.m.length d1) j false (V 3) (V 7) W') → K (fr (V)) W' from fun W' hA => hK _ _ ⟨V, rfl, HV.st 10 rfl, fun h0 => msf h0, fun h0 h1 => hA, fun h0 => mtf (hC.no hL 13 _ rfl rfl) (more_ne h0 rfl), fun h0 h1 => msf h0, fun h0 => hA.x⟩)
  have HU := Lib.hid (show (V) 9 = .pointer (some ⟨w1.heap.size, 0, none⟩) ∧ (V) 3 = .agg #[a3, s3, p3] ∧ (V) 2 = .agg #[xu, xv, xz] ∧ (V) 7 = .agg #[a7, s7, p7] from ⟨e9, e3, e2, e7⟩)
  clear hK hC hW hL HV s0 s1 s2 f3 f7
  rw [HFR.out, e9, e3, e2, e7]
  clear e9 e3 e2 e7
  have HB := Lib.hid hB
  have Z1 := Lib.hid z3
  have Z2 := Lib.hid z7
  clear hB z3 z7
  refine wpList_store_in rfl rfl 30 (.tmp 17) (.tmp 11) rfl w1.heap.size 0 40 #[.slice none 0 0, .slice none 0 0, .slice none 0 0, .slice none 0 0, .slice none 0 0, .slice none 0 0, .slice B1 j.m.length d1] #[a3, s3, p3] rfl rfl HB.out.2.2.1 infoWo (of_decide_eq_true rfl) Z1.out.one ?_
  intro w' kk gg
  have HA := Lib.hid (show OjM w w.heap.size (w.heap.size + 1) w1.heap.size w0.heap.size (w1.heap.size + 1) #[xu, xv, xz, xa, xs, xq, xm] (.slice B1 j.m.length d1) j false (V 3) (V 7) w' from ⟨a3, s3, p3, a7, s7, p7, HU.out.2.1, HU.out.2.2.2, HB.out.put kk gg HNE.out.1 HNE.out.2.1 HNE.out.2.2.1 HNE.out.2.2.2, by rw [HU.out.2.1]; exact Z1.out.old gg (Nat.lt_succ_self _), by rw [HU.out.2.2.2]; exact Z2.out.old gg (Nat.lt_succ_self _)⟩)
  clear kk gg
  show K _ _; have := H.out _ HA.out; rw [HFR.out] at this
  obtain ⟨u9, u3, u2, u7⟩ := HU.out
  rw [u9, u3, u2, u7] at this
  exact this
 ·rintro L A W K hL hC hW ⟨V, rfl, HV, s0, s1, s2, f3, f7⟩ hK
  have H := Lib.hid (show ∀ W', Ext W W' → K (fr (upd V 11 (.pointer (some ⟨w1.heap.size, 0, none⟩)))) W' from fun W' he => hK _ _ ⟨_, rfl, HV.us 11 _ rfl, fun h0 => OjN.ext (s0 (mnf h0 rfl)) he, fun h0 h1 => OjM.ext (s1 (more_ne h0 rfl) (mnf h1 rfl)) he, fun h0 => OjM.ext (s2 (more_ne h0 rfl)) he, fun h0 h1 => RetWo.ext (f3 (mnf h0 rfl) (more_ne h1 rfl)) he, fun h0 => RetX.ext (f7 (more_ne h0 rfl)) he⟩)
  clear hK hC hW hL HV s0 s1 s2 f3 f7
  rw [HFR.out]
  go_wp2_with fail
  show K _ _; have := H.out _ (Ext.refl _); rw [HFR.out] at this
  exact this
 ·rintro L A W K hL hC hW ⟨V, rfl, HV, s0, s1, s2, f3, f7⟩ hK
  have e11 := HV 11 _ rfl (hW 11 rfl)
  have H := Lib.hid (show ∀ W', Ext W W' → K (fr (upd V 12 (.pointer (some ⟨w1.heap.size, 3, none⟩)))) W' from fun W' he => hK _ _ ⟨_, rfl, HV.us 12 _ rfl, fun h0 => OjN.ext (s0 (mnf h0 rfl)) he, fun h0 h1 => OjM.ext (s1 (more_ne h0 rfl) (mnf h1 rfl)) he, fun h0 => OjM.ext (s2 (more_ne h0 rfl)) he, fun h0 h1 => RetWo.ext (f3 (mnf h0 rfl) (more_ne h1 rfl)) he, fun h0 => RetX.ext (f7 (more_ne h0 rfl)) he⟩)
  have HU := Lib.hid (show (upd V 12 (.pointer (some ⟨w1.heap.size, 3, none⟩))) 11 = .pointer (some ⟨w1.heap.size, 0, none⟩) from e11)
  clear hK hC hW hL HV s0 s1 s2 f3 f7
  rw [HFR.out, e11]
  clear e11
  go_wp2_with fail
  show K _ _; have := H.out _ (Ext.refl _); rw [HFR.out] at this
  obtain u11 := HU.out
  rw [u11] at this
  exact this
 ·rintro L A W K hL hC hW ⟨V, rfl, HV, s0, s1, s2, f3, f7⟩ hK
  have e12 := HV 12 _ rfl (hW 12 rfl)
  have hB := s1 (hW 10 rfl) hL
  have q7 := f7 (hW 7 rfl)
  obtain ⟨a7, s7, p7, e7, z7⟩ := retX_shp q7
  have H := Lib.hid (show ∀ W', (OjM w w.heap.size (w.heap.size + 1) w1.heap.size w0.heap.size (w1.heap.size + 1) #[xu, xv, xz, xa, xs, xq, xm] (.slice B1 j.m.length d1) j true (V 3) (V 7) W') → K (fr (V)) W' from fun W' hA => hK _ _ ⟨V, rfl, HV.st 13 rfl, fun h0 => mtf (mnf h0 rfl) (hW 10 rfl), fun h0 h1 => msf h1, fun h0 => hA, fun h0 h1 => mtf (mnf h0 rfl) (hW 10 rfl), fun h0 => hA.x⟩)
  have HU := Lib.hid (show (V) 12 = .pointer (some ⟨w1.heap.size, 3, none⟩) ∧ (V) 7 = .agg #[a7, s7, p7] from ⟨e12, e7⟩)
  clear hK hC hW hL HV s0 s1 s2 f3 f7
  rw [HFR.out, e12, e7]
  clear e12 e7
  have HB := Lib.hid hB
  clear hB z7
  obtain ⟨a, b, c, d, e, f, q1, q2, h1, h2, h3⟩ := HB.out
  obtain ⟨rfl, rfl, rfl⟩ : d = a7 ∧ e = s7 ∧ f = p7 := by have := q2.symm.trans HU.out.2; simpa using this
  have Q1 := Lib.hid q1
  have Q2 := Lib.hid q2
  have H1 := Lib.hid h1
  have H2 := Lib.hid h2
  have H3 := Lib.hid h3
  have HO3 := Lib.hid (show (#[d, e, f] : Array Value).all (·.oneCell') = true by have := h3; rw [q2] at this; obtain ⟨y1, y2, y3⟩ := this.one; simp [y1, y2, y3])
  clear q1 q2 h1 h2 h3 HB
  refine wpList_store_in rfl rfl 35 (.tmp 19) (.tmp 15) rfl w1.heap.size 3 40 (ojc false a b c d e f (.slice B1 j.m.length d1)) #[d, e, f] rfl rfl H1.out.2.2.1 infoXk (of_decide_eq_true rfl) HO3.out ?_
  intro w' kk gg
  have HA := Lib.hid (show OjM w w.heap.size (w.heap.size + 1) w1.heap.size w0.heap.size (w1.heap.size + 1) #[xu, xv, xz, xa, xs, xq, xm] (.slice B1 j.m.length d1) j true (V 3) (V 7) w' from ⟨a, b, c, d, e, f, Q1.out, Q2.out, H1.out.put kk gg HNE.out.1 HNE.out.2.1 HNE.out.2.2.1 HNE.out.2.2.2, H2.out.old gg (Nat.lt_succ_self _), H3.out.old gg (Nat.lt_succ_self _)⟩)
  clear kk gg
  show K _ _; have := H.out _ HA.out; rw [HFR.out] at this
  obtain ⟨u12, u7⟩ := HU.out
  rw [u12, u7] at this
  exact this
 ·rintro L A W hL ⟨V, rfl, HV, s0, s1, s2, f3, f7⟩
  have e0 := HV 0 _ rfl (hL 0 (by simp))
  have e1 := HV 1 _ rfl (hL 1 (by simp))
  have e2 := HV 2 _ rfl (hL 2 (by simp))
  have e4 := HV 4 _ rfl (hL 4 (by simp))
  have e5 := HV 5 _ rfl (hL 5 (by simp))
  have e6 := HV 6 _ rfl (hL 6 (by simp))
  have e8 := HV 8 _ rfl (hL 8 (by simp))
  have e9 := HV 9 _ rfl (hL 9 (by simp))
  have e11 := HV 11 _ rfl (hL 11 (by simp))
  have e12 := HV 12 _ rfl (hL 12 (by simp))
  have hA := s2 (hL 13 (by simp))
  have p15 := f7 (hL 7 (by simp))
  rw [HFR.out, e0, e1, e2, e4, e5, e6, e8, e9, e11, e12]
  clear hL HV HFR e0 e1 e2 e4 e5 e6 e8 e9 e11 e12 s0 s1 s2 f3 f7
  obtain ⟨a, b, c, d, e, f, q1, q2, h1, h2, h3⟩ := hA
  rw [q1] at h2
  rw [q2] at h3
  have HRG : Hid (W.rangeAt w1.heap.size 0 [a, b, c, d, e, f, .slice B1 j.m.length d1]) := Lib.hid (Cs.rg h1.2.2.1)
  have HR2 := Lib.hid h1.2.1
  have HJN : Hid (RetJn w0.heap.size W (.agg #[a, b, c, d, e, f, .slice B1 j.m.length d1]) j) := Lib.hid ⟨_, _, _, _, _, _, _, rfl, h2.low (Nat.le_succ_of_le HS1.out), h3.low (Nat.le_succ_of_le HS1.out), h1.2.2.2.1.less (fun g hg => hg.elim)⟩
  have HEW := Lib.hid h1.2.2.2.2
  clear h1 h2 h3 q1 q2 p15
  go_wp2_with (first
   | ((with_reducible refine wpList_loadJn ?_ (.tmp 3) ?_ w1.heap.size 0 a b c d e f (.slice B1 j.m.length d1) ?_ HRG.out ?_); (exact rfl); (exact rfl); (exact rfl))
   | ((with_reducible refine wpList_storeJn ?_ ?_ (.tmp 2) (.tmp 20) ?_ (w.heap.size + 1) (.slice none 0 0) (.slice none 0 0) (.slice none 0 0) (.slice none 0 0) (.slice none 0 0) (.slice none 0 0) (.slice none 0 0) a b c d e f (.slice B1 j.m.length d1) ?_ ?_ HJN.out.one HR2.out ?_); (exact rfl); (exact rfl); (exact rfl); (exact rfl); (exact rfl); intro w7 k7 g7; have K7 := Lib.hid k7; have G7 := Lib.hid g7; clear k7 g7))
  refine bodyPost_ret (results_jno Tryz.results108 _ _ (w.heap.size + 1) _ _ _ _ _ _ _ rfl K7.out) rfl ?_
  exact ⟨_, rfl, (HJN.out.old G7.out HG2.out.2).low HE0.out.size, HEW.out.grown G7.out (Nat.le_succ _)⟩
end Go.Proofs.YtnjpdchmdimaaaaGreat
