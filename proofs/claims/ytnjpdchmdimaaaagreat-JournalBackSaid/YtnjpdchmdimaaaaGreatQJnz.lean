/- Package journal: append onto a row of the call's own, of things of up to 1000 bytes. -/
import Derived.Test.YtnjpdchmdimaaaaGreatQJnx
namespace Go.Proofs.YtnjpdchmdimaaaaGreat
open Go.ChangeShapes Go.WideShapes Go.ChangeAt Go.RowKit Go.Shelf

set_option maxRecDepth 100000 in
set_option maxHeartbeats 8000000 in
theorem pointO_any (xu xv xz xa xs xq : Value) (p : Po) (w : World) (hx : WoR w xu xv xz p.w ∧ AxR w xa xs xq p.x) :
  Calls Tryz.prog 33 #[.agg #[xu, xv, xz, xa, xs, xq]] w fun e w' => ∃ v', e = .returned v' ∧ RetPo w.heap.size w' v' (cutP p) ∧ Ext w w' := by
 have HX := Lib.hid hx
 have HON : Hid ((#[xu, xv, xz, xa, xs, xq] : Array Value).all (·.oneCell') = true) := Lib.hid (by
  obtain ⟨y1, y2, y3⟩ := axr_one hx.2
  have y4 := acs_one hx.1.1
  have y5 := hds_one hx.1.2.1
  have y6 := nns_one hx.1.2.2
  simp [y1, y2, y3, y4, y5, y6])
 obtain ⟨w0, hw0⟩ : ∃ w0, (w.alloc (.cells #[xu, xv, xz, xa, xs, xq] 37)).alloc (.cells #[.slice none 0 0, .slice none 0 0, .slice none 0 0, .slice none 0 0, .slice none 0 0, .slice none 0 0] 37) = w0 := ⟨_, rfl⟩
 have HC0 : Hid (Cs w0 w.heap.size 37 #[xu, xv, xz, xa, xs, xq]) := Lib.hid (by rw [← hw0]; exact Cs.alloc (Cs.new _ _ _ _ rfl) _)
 have HR0 : Hid (Cs w0 (w.heap.size + 1) 37 #[.slice none 0 0, .slice none 0 0, .slice none 0 0, .slice none 0 0, .slice none 0 0, .slice none 0 0]) := Lib.hid (by rw [← hw0]; exact Cs.new _ _ _ _ (by simp))
 have HE0 : Hid (Ext w w0) := Lib.hid (by rw [← hw0]; exact ((Ext.refl w).alloc _).alloc _)
 have HG2 : Hid (w.heap.size ≤ w.heap.size + 1 ∧ w.heap.size + 1 < w0.heap.size) := Lib.hid ⟨Nat.le_succ _, HR0.out.lt⟩
 have HW0 := Lib.hid hw0
 have HO1 := HON.out
 clear hx hw0
 go_enter Tryz.func33, Tryz.ntmps33
 go_upto_region 1 with fail
 rw [HW0.out]
 clear HW0 HO1
 refine wp_named fun a0 ha0 => ?_
 obtain ⟨fr, hfr⟩ : ∃ fr : (Nat → Value) → Act, ∀ V, fr V = (((((((a0.put (some 3) (V 0)).put (some 4) (V 1)).put (some 5) (V 2)).put (some 6) (V 3)).put (some 7) (V 4)).put (some 8) (V 5)).put (some 9) (V 6)) := ⟨_, fun _ => rfl⟩
 rw [ha0] at hfr
 simp only [Act.put, List.setIfInBounds_toArray, List.set_cons_zero, List.set_cons_succ] at hfr
 have HFR := Lib.hid hfr
 clear hfr
 refine wp_region_inv (by kernel_rfl) (by kernel_rfl) (fun L A W => ∃ V : Nat → Value, A = fr V ∧ Vals (fun j => ([some (.pointer (some ⟨w.heap.size, 0, none⟩)), some (.agg #[xu, xv, xz]), none, some (.pointer (some ⟨w.heap.size, 3, none⟩)), some (.agg #[xa, xs, xq]), none, none, none] : List (Option Value)).getD j none) L V ∧ (L 7 = false → Ext w0 W) ∧ (L 7 = true → PoJ (cutP p) w w0.heap.size (w.heap.size + 1) W) ∧ (L 7 = false → L 2 = true → RetWo w0.heap.size W (V 2) (cutO p.w)) ∧ (L 7 = false → L 5 = true → RetX w0.heap.size W (V 5) (cutX p.x)) ∧ (L 7 = false → L 6 = true → RetPo w0.heap.size W (V 6) (cutP p))) ?_ ⟨?_, ?_, ?_, ?_, ?_, ?_, ?_, ?_, trivial⟩ ?_
 ·refine ⟨fun j => a0.tmps.getD (([3, 4, 5, 6, 7, 8, 9, 0] : List Nat).getD j 0) undef, ?_, Vals.no _ _ _ (far_none _ _ rfl), fun _ => (Ext.refl _).drew, fun h0 => absurd h0 (by decide), fun h0 h1 => absurd h1 (by decide), fun h0 h1 => absurd h1 (by decide), fun h0 h1 => absurd h1 (by decide)⟩
  rw [HFR.out, ha0]
  rfl
 all_goals clear ha0
 ·rintro L A W K hL hC hW ⟨V, rfl, HV, s0, s1, f2, f5, f6⟩ hK
  have H := Lib.hid (show ∀ W', Ext W W' → K (fr (upd V 0 (.pointer (some ⟨w.heap.size, 0, none⟩)))) W' from fun W' he => hK _ _ ⟨_, rfl, HV.us 0 _ rfl, fun h0 => Ext.trans (s0 (mnf h0 rfl)) he, fun h0 => PoJ.ext (s1 (more_ne h0 rfl)) he, fun h0 h1 => RetWo.ext (f2 (mnf h0 rfl) (more_ne h1 rfl)) he, fun h0 h1 => RetX.ext (f5 (mnf h0 rfl) (more_ne h1 rfl)) he, fun h0 h1 => RetPo.ext (f6 (mnf h0 rfl) (more_ne h1 rfl)) he⟩)
  clear hK hC hW hL HV s0 s1 f2 f5 f6
  rw [HFR.out]
  go_wp2_with fail
  show K _ _; have := H.out _ (Ext.refl _); rw [HFR.out] at this
  exact this
 ·rintro L A W K hL hC hW ⟨V, rfl, HV, s0, s1, f2, f5, f6⟩ hK
  have e0 := HV 0 _ rfl (hW 0 rfl)
  have hB := s0 (hC.no (hC.no (hC.no hL 2 _ rfl rfl) 6 _ rfl rfl) 7 _ rfl rfl)
  have H := Lib.hid (show ∀ W', Ext W W' → K (fr (upd V 1 (.agg #[xu, xv, xz]))) W' from fun W' he => hK _ _ ⟨_, rfl, HV.us 1 _ rfl, fun h0 => Ext.trans (s0 (mnf h0 rfl)) he, fun h0 => PoJ.ext (s1 (more_ne h0 rfl)) he, fun h0 h1 => RetWo.ext (f2 (mnf h0 rfl) (more_ne h1 rfl)) he, fun h0 h1 => RetX.ext (f5 (mnf h0 rfl) (more_ne h1 rfl)) he, fun h0 h1 => RetPo.ext (f6 (mnf h0 rfl) (more_ne h1 rfl)) he⟩)
  have HU := Lib.hid (show (upd V 1 (.agg #[xu, xv, xz])) 0 = .pointer (some ⟨w.heap.size, 0, none⟩) from e0)
  clear hK hC hW hL HV s0 s1 f2 f5 f6
  rw [HFR.out, e0]
  clear e0
  have HRG := Lib.hid (rg_part (cs := [xu, xv, xz, xa, xs, xq]) (ds := [xu, xv, xz]) 0 (Cs.rg (Cs.ext HC0.out hB)) (fun j y hy => by rcases j with _ | _ | _ | j; all_goals first | exact hy | (simp at hy)))
  clear hB
  refine wpList_loadWo rfl (.tmp 3) rfl w.heap.size 0 xu xv xz rfl HRG.out ?_
  show K _ _; have := H.out _ (Ext.refl _); rw [HFR.out] at this
  obtain u0 := HU.out
  rw [u0] at this
  exact this
 ·rintro L A W K hL hC hW ⟨V, rfl, HV, s0, s1, f2, f5, f6⟩ hK
  have e1 := HV 1 _ rfl (hW 1 rfl)
  have hB := s0 (hC.no (hC.no hL 6 _ rfl rfl) 7 _ rfl rfl)
  have H := Lib.hid (show ∀ v W', Ext W W' → (RetWo w0.heap.size W' v (cutO p.w)) → K (fr (upd V 2 v)) W' from fun v W' he hp => hK _ _ ⟨_, rfl, HV.un 2 _ rfl, fun h0 => Ext.trans (s0 (mnf h0 rfl)) he, fun h0 => PoJ.ext (s1 (more_ne h0 rfl)) he, fun h0 h1 => hp, fun h0 h1 => RetX.ext (f5 (mnf h0 rfl) (more_ne h1 rfl)) he, fun h0 h1 => RetPo.ext (f6 (mnf h0 rfl) (more_ne h1 rfl)) he⟩)
  have HU := Lib.hid (show ∀ v, (upd V 2 v) 1 = .agg #[xu, xv, xz] from fun v => e1)
  clear hK hC hW hL HV s0 s1 f2 f5 f6
  rw [HFR.out, e1]
  clear e1
  have HB := Lib.hid hB
  clear hB
  go_wp2_with fail
  refine (worldO_any _ _ _ p.w _ (HX.out.1.ext (HE0.out.trans HB.out))).mono ?_
  rintro e wx ⟨vx, rfl, ho, he⟩
  have := H.out _ _ he (ho.low HB.out.size)
  clear H
  go_wp2_with fail
  show K _ _
  rw [HFR.out] at this
  obtain u1 := HU.out _
  rw [u1] at this
  exact this
 ·rintro L A W K hL hC hW ⟨V, rfl, HV, s0, s1, f2, f5, f6⟩ hK
  have H := Lib.hid (show ∀ W', Ext W W' → K (fr (upd V 3 (.pointer (some ⟨w.heap.size, 3, none⟩)))) W' from fun W' he => hK _ _ ⟨_, rfl, HV.us 3 _ rfl, fun h0 => Ext.trans (s0 (mnf h0 rfl)) he, fun h0 => PoJ.ext (s1 (more_ne h0 rfl)) he, fun h0 h1 => RetWo.ext (f2 (mnf h0 rfl) (more_ne h1 rfl)) he, fun h0 h1 => RetX.ext (f5 (mnf h0 rfl) (more_ne h1 rfl)) he, fun h0 h1 => RetPo.ext (f6 (mnf h0 rfl) (more_ne h1 rfl)) he⟩)
  clear hK hC hW hL HV s0 s1 f2 f5 f6
  rw [HFR.out]
  go_wp2_with fail
  show K _ _; have := H.out _ (Ext.refl _); rw [HFR.out] at this
  exact this
 ·rintro L A W K hL hC hW ⟨V, rfl, HV, s0, s1, f2, f5, f6⟩ hK
  have e3 := HV 3 _ rfl (hW 3 rfl)
  have hB := s0 (hC.no (hC.no (hC.no hL 5 _ rfl rfl) 6 _ rfl rfl) 7 _ rfl rfl)
  have H := Lib.hid (show ∀ W', Ext W W' → K (fr (upd V 4 (.agg #[xa, xs, xq]))) W' from fun W' he => hK _ _ ⟨_, rfl, HV.us 4 _ rfl, fun h0 => Ext.trans (s0 (mnf h0 rfl)) he, fun h0 => PoJ.ext (s1 (more_ne h0 rfl)) he, fun h0 h1 => RetWo.ext (f2 (mnf h0 rfl) (more_ne h1 rfl)) he, fun h0 h1 => RetX.ext (f5 (mnf h0 rfl) (more_ne h1 rfl)) he, fun h0 h1 => RetPo.ext (f6 (mnf h0 rfl) (more_ne h1 rfl)) he⟩)
  have HU := Lib.hid (show (upd V 4 (.agg #[xa, xs, xq])) 3 = .pointer (some ⟨w.heap.size, 3, none⟩) from e3)
  clear hK hC hW hL HV s0 s1 f2 f5 f6
  rw [HFR.out, e3]
  clear e3
  have HRG := Lib.hid (rg_part (cs := [xu, xv, xz, xa, xs, xq]) (ds := [xa, xs, xq]) 3 (Cs.rg (Cs.ext HC0.out hB)) (fun j y hy => by rcases j with _ | _ | _ | j; all_goals first | exact hy | (simp at hy)))
  clear hB
  refine wpList_loadXk rfl (.tmp 6) rfl w.heap.size 3 xa xs xq rfl HRG.out ?_
  show K _ _; have := H.out _ (Ext.refl _); rw [HFR.out] at this
  obtain u3 := HU.out
  rw [u3] at this
  exact this
 ·rintro L A W K hL hC hW ⟨V, rfl, HV, s0, s1, f2, f5, f6⟩ hK
  have e4 := HV 4 _ rfl (hW 4 rfl)
  have hB := s0 (hC.no (hC.no hL 6 _ rfl rfl) 7 _ rfl rfl)
  have H := Lib.hid (show ∀ v W', Ext W W' → (RetX w0.heap.size W' v (cutX p.x)) → K (fr (upd V 5 v)) W' from fun v W' he hp => hK _ _ ⟨_, rfl, HV.un 5 _ rfl, fun h0 => Ext.trans (s0 (mnf h0 rfl)) he, fun h0 => PoJ.ext (s1 (more_ne h0 rfl)) he, fun h0 h1 => RetWo.ext (f2 (mnf h0 rfl) (more_ne h1 rfl)) he, fun h0 h1 => hp, fun h0 h1 => RetPo.ext (f6 (mnf h0 rfl) (more_ne h1 rfl)) he⟩)
  have HU := Lib.hid (show ∀ v, (upd V 5 v) 4 = .agg #[xa, xs, xq] from fun v => e4)
  clear hK hC hW hL HV s0 s1 f2 f5 f6
  rw [HFR.out, e4]
  clear e4
  have HB := Lib.hid hB
  clear hB
  go_wp2_with fail
  refine (touchedX_any _ _ _ p.x _ (HX.out.2.ext (HE0.out.trans HB.out))).mono ?_
  rintro e wx ⟨vx, rfl, ho, he⟩
  have := H.out _ _ he (ho.low HB.out.size)
  clear H
  go_wp2_with fail
  show K _ _
  rw [HFR.out] at this
  obtain u4 := HU.out _
  rw [u4] at this
  exact this
 ·rintro L A W K hL hC hW ⟨V, rfl, HV, s0, s1, f2, f5, f6⟩ hK
  have hB := s0 (hC.no hL 7 _ rfl rfl)
  have q2 := f2 (hC.no hL 7 _ rfl rfl) (hW 2 rfl)
  obtain ⟨a2, s2, p2, e2, z2⟩ := retWo_shp q2
  have q5 := f5 (hC.no hL 7 _ rfl rfl) (hW 5 rfl)
  obtain ⟨a5, s5, p5, e5, z5⟩ := retX_shp q5
  have H := Lib.hid (show ∀ v W', Ext W W' → (RetPo w0.heap.size W' v (cutP p)) → K (fr (upd V 6 v)) W' from fun v W' he hp => hK _ _ ⟨_, rfl, HV.un 6 _ rfl, fun h0 => Ext.trans (s0 (mnf h0 rfl)) he, fun h0 => PoJ.ext (s1 (more_ne h0 rfl)) he, fun h0 h1 => RetWo.ext (f2 (mnf h0 rfl) (more_ne h1 rfl)) he, fun h0 h1 => RetX.ext (f5 (mnf h0 rfl) (more_ne h1 rfl)) he, fun h0 h1 => hp⟩)
  have HU := Lib.hid (show ∀ v, (upd V 6 v) 2 = .agg #[a2, s2, p2] ∧ (upd V 6 v) 5 = .agg #[a5, s5, p5] from fun v => ⟨e2, e5⟩)
  clear hK hC hW hL HV s0 s1 f2 f5 f6
  rw [HFR.out, e2, e5]
  clear e2 e5
  refine wpList_build_po rfl (.tmp 5) (.tmp 8) rfl a2 s2 p2 a5 s5 p5 rfl rfl ?_
  show K _ _; have := H.out (.agg #[a2, s2, p2, a5, s5, p5]) _ (Ext.refl _) (⟨_, _, _, _, _, _, rfl, z2, z5⟩); rw [HFR.out] at this
  obtain ⟨u2, u5⟩ := HU.out _
  rw [u2, u5] at this
  exact this
 ·rintro L A W K hL hC hW ⟨V, rfl, HV, s0, s1, f2, f5, f6⟩ hK
  have hB := s0 hL
  have q6 := f6 hL (hW 6 rfl)
  obtain ⟨a6, b6, c6, d6, m6, n6, e6, x6, y6⟩ := q6
  have H := Lib.hid (show ∀ W', (PoJ (cutP p) w w0.heap.size (w.heap.size + 1) W') → K (fr (V)) W' from fun W' hA => hK _ _ ⟨V, rfl, HV.st 7 rfl, fun h0 => msf h0, fun h0 => hA, fun h0 h1 => msf h0, fun h0 h1 => msf h0, fun h0 h1 => msf h0⟩)
  have HU := Lib.hid (show (V) 6 = .agg #[a6, b6, c6, d6, m6, n6] from e6)
  clear hK hC hW hL HV s0 s1 f2 f5 f6
  rw [HFR.out, e6]
  clear e6
  have HB := Lib.hid hB
  have O1 := Lib.hid x6
  have O2 := Lib.hid y6
  clear hB x6 y6
  have HON := Lib.hid (show (#[a6, b6, c6, d6, m6, n6] : Array Value).all (·.oneCell') = true by have h1 := O1.out.one; have h2 := O2.out.one; simp only [List.all_toArray, List.all_cons, List.all_nil, Bool.and_true, Bool.and_eq_true] at h1 ⊢; exact ⟨h1.1, h1.2.1, h1.2.2, h2.1, h2.2.1, h2.2.2⟩)
  go_wp2_with ((with_reducible refine wpList_storePo ?_ ?_ (.tmp 2) (.tmp 9) ?_ (w.heap.size + 1) (.slice none 0 0) (.slice none 0 0) (.slice none 0 0) (.slice none 0 0) (.slice none 0 0) (.slice none 0 0) a6 b6 c6 d6 m6 n6 ?_ ?_ HON.out (Cs.ext HR0.out HB.out) ?_); (exact rfl); (exact rfl); (exact rfl); (exact rfl); (exact rfl); intro w3 k3 g3; have K3 := Lib.hid k3; have G3 := Lib.hid g3; clear k3 g3)
  have HA := Lib.hid (show PoJ (cutP p) w w0.heap.size (w.heap.size + 1) w3 from ⟨a6, b6, c6, d6, m6, n6, K3.out, RetPo.old ⟨_, _, _, _, _, _, rfl, O1.out, O2.out⟩ G3.out HG2.out.2, (HE0.out.trans HB.out).grown G3.out HG2.out.1⟩)
  show K _ _; have := H.out _ HA.out; rw [HFR.out] at this
  obtain u6 := HU.out
  rw [u6] at this
  exact this
 ·rintro L A W hL ⟨V, rfl, HV, s0, s1, f2, f5, f6⟩
  have e0 := HV 0 _ rfl (hL 0 (by simp))
  have e1 := HV 1 _ rfl (hL 1 (by simp))
  have e3 := HV 3 _ rfl (hL 3 (by simp))
  have e4 := HV 4 _ rfl (hL 4 (by simp))
  have hA := s1 (hL 7 (by simp))
  rw [HFR.out, e0, e1, e3, e4]
  clear hL HV HFR e0 e1 e3 e4 s0 s1 f2 f5 f6
  obtain ⟨k0, k1, k2, k3, k4, k5, k6, k7, k8⟩ := hA
  have K6 := Lib.hid k6
  have K7 := Lib.hid k7
  have K8 := Lib.hid k8
  clear k6 k7 k8
  go_wp2_with fail
  refine bodyPost_ret (results_poo Tryz.results33 _ _ (w.heap.size + 1) _ _ _ _ _ _ rfl K6.out) rfl ?_
  exact ⟨_, rfl, K7.out.low HE0.out.size, K8.out⟩
end Go.Proofs.YtnjpdchmdimaaaaGreat
namespace Go.Proofs.YtnjpdchmdimaaaaGreat
open Go.ChangeShapes Go.WideShapes Go.ChangeAt Go.RowKit Go.Shelf

theorem run_append_rowJ {P : Program} {w : World} (t ty : TypeId) (base : Nat) (e : TypeId) (ht : P.underlying t = some (.slice e)) (z : Value) (sz bytes : Nat)
  (hinfo : (P.info? e).map (fun i => (i.zero, i.size, i.bytes)) = some (some z, sz, bytes)) (hzs : z.cells.size = sz) (hsz : 0 < sz)
  (v : Value) (n : Nat) (cs : List Value) (hown : w.ownsRow base e sz v n cs) (sv : Value) (m : Nat) (ds : List Value) (hb : Rs w sz sv m ds) (h1c : ∀ u ∈ ds, u.oneCell' = true)
  (hlen : n + m ≤ 1000000) (hby : bytes ≤ 1000) (hbase : base ≤ w.heap.size) :
  ∃ v' w', (Builtin.append_ #[t, t] ty #[v, sv]).run P w = .ok v' w' ∧ w'.ownsRow base e sz v' (n + m) (cs ++ ds) ∧ w.grownBy w' v.ownBlock ∧ (v'.ownBlock = v.ownBlock ∨ v'.ownBlock = some w.heap.size) := by
 obtain ⟨i0, hi, hz0, hz1, hz2⟩ := info_parts hinfo
 obtain ⟨h0, A, c, rfl, h1, h2, h3⟩ := id hb
 have hbb : (n + m) * bytes ≤ 140737488355328 := Nat.le_trans (Nat.mul_le_mul hlen hby) (by decide)
 by_cases hm0 : m = 0
 ·subst hm0
  obtain rfl : ds = [] := List.eq_nil_of_length_eq_zero (by rw [h0]; simp)
  have hrun : (Builtin.append_ #[t, t] ty #[v, .slice A 0 c]).run P w = .ok v w := by
   rcases hown.2 with ⟨rfl, hn⟩ | ⟨g, cap, cur, rfl, _, _, hnc, _⟩
   ·rcases A with _ | ad <;> simp [Builtin.append_, run_underlying ht, sizeOf, typeInfo, hi, Builtin.lenOf, Builtin.firstCells, loadCells, loadCellsFrom]
   ·rcases A with _ | ad <;> simp [Builtin.append_, run_underlying ht, sizeOf, typeInfo, hi, Builtin.lenOf, Builtin.firstCells, hnc, storeCells, loadCells, loadCellsFrom]
  exact ⟨v, w, hrun, by simpa using hown, World.grownBy.refl _ _, .inl rfl⟩
 ·obtain ⟨b, o', rfl, hc⟩ := h3 (by omega)
  have hc' : ∀ j u, ds[j]? = some u → w.cell? ((⟨b, o', none⟩ : Addr).add j) = some u := by
   intro j u hu
   have hadd : (⟨b, o', none⟩ : Addr).add j = ⟨b, o' + j, none⟩ := by unfold Addr.add; split <;> simp_all
   rw [hadd]
   exact hc j u hu
  obtain ⟨v', w', hr, ho', hg', _, hat⟩ := run_append_own_at (P := P) w base t ty e i0 z sz bytes ht hi hz0 hz1 hz2 hzs hsz v n cs hown ⟨b, o', none⟩ m c ds h0 hc' h1c (by unfold maxLen; omega) hbb hbase
  exact ⟨v', w', hr, ho', hg', hat⟩
end Go.Proofs.YtnjpdchmdimaaaaGreat
