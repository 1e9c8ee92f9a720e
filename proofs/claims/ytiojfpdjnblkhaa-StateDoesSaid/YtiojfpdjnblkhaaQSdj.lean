/- StateDoes: what comes of whatever state by what is done, in whatever row, is as the document says. -/
import Derived.Test.YtiojfpdjnblkhaaQSdi
namespace Go.Proofs.Ytiojfpdjnblkhaa
open Go.ChangeShapes Go.WideShapes Go.ChangeAt Go.RowKit Go.Shelf

theorem oneA_idem (a : Ac) : oneA (oneA a) = oneA a := by
 unfold oneA
 simp [List.take_take]
theorem fewL_idem (l : List Ac) : fewL (fewL l) = fewL l := by
 unfold fewL
 rw [← List.map_take, List.take_take, Nat.min_self, List.map_map]
 exact List.map_congr_left fun a _ => oneA_idem a
theorem eqAc_self (p : Ac) : p.eqB p = true := by simp [Ac.eqB]
theorem eqL_id : ∀ l : List Ac, eqL l l = true
 | [] => rfl
 | p :: l => by
  have h := eqL_id l
  simp [eqL, eqAc_self, h]
set_option maxRecDepth 100000 in
theorem opinfoM : (Try.prog.info? 39).map (·.size) = some 23 := by kernel_rfl
theorem opc_one (o : Opn) (u v : Value) (hu : u.oneCell' = true) (hv : v.oneCell' = true) : (opc o u v).all (·.oneCell') = true := by simpa [opc, lv, Value.oneCell'] using ⟨hu, hv⟩
def opz : Array Value := #[.int .i64 0, .int .u64 0, .int .u64 0, .int .u64 0, .int .u64 0, .int .u64 0, .int .u64 0, .int .u64 0, .int .u64 0, .int .u64 0, .int .u64 0, .int .u64 0, .int .u64 0, .int .u64 0, .int .u64 0, .int .u64 0, .int .u64 0, .int .u64 0, .int .u64 0, .int .u64 0, .int .u64 0, .slice none 0 0, .slice none 0 0]
set_option maxRecDepth 100000 in
theorem wpList_load_opm {ops : Array Oper} {rest : List Oper} {q : Oper} {a : Act} {w : World} {Q : Exit → Act → World → Prop} (hgd : Region.wanted q (yielded ops a.tmps) = true) (x : Operand) (ho : q.op = .load 39 x)
  (g k : Nat) (o : Opn) (u v : Value) (hx : a.eval x = .pointer (some ⟨g, k, none⟩)) (hg : w.rangeAt g k (opc o u v).toList) (h : wpList Try.prog ops Q rest (a.put q.dst (.agg (opc o u v))) w) : wpList Try.prog ops Q (q :: rest) a w := by
 refine wpList_step fun K hK => ?_
 rw [if_pos hgd]
 refine wp_load_mid 39 x ho g k hx (opc o u v).toList _ hg Try.underlying39 rfl opinfoM ?_
 exact hK _ _ h
theorem Cs.rgM {W : World} {g : Nat} {t : TypeId} {cs : Array Value} (h : Cs W g t cs) : W.rangeAt g 0 cs.toList := fun j x hx => by
 rw [Nat.zero_add]
 exact Cs.cell h j x (by rwa [Array.getElem?_toList] at hx)
def Ops (W : World) (v : Value) (l : List Opn) : Prop := Sl W 23 (OpR W) v l
theorem Ops.len {W : World} {v : Value} {l : List Opn} (h : Ops W v l) : ∃ A c, v = .slice A l.length c ∧ l.length ≤ c ∧ c ≤ maxLen := by
 obtain ⟨A, c, e, h1, h2, _⟩ := h
 exact ⟨A, c, e, h1, h2⟩
def opn0 : Opn := ⟨0, 0, 0, 0, (0, 0), acz⟩
theorem Ops.at {W : World} {A : Option Addr} {n c : Nat} {l : List Opn} (h : Ops W (.slice A n c) l) (i : Nat) (hi : i < l.length) : ∃ b o u v, A = some ⟨b, o, none⟩ ∧ W.rangeAt b (o + i * 23) (opc (l.getD i opn0) u v).toList ∧ (l.getD i opn0).ok ∧ Bs W u (l.getD i opn0).ac.code ∧ Pks W v (l.getD i opn0).ac.store := by
 obtain ⟨A', c', e, _, _, h3⟩ := h
 injection e with e1 e2 e3
 subst e1
 obtain ⟨b, o, rfl, hc⟩ := h3 (by omega)
 obtain ⟨cs, _, ⟨k0, u, v, rfl, k1, k2⟩, k3⟩ := hc i _ (List.getElem?_eq_getElem hi)
 have e : l.getD i opn0 = l[i] := by simp [List.getD, List.getElem?_eq_getElem hi]
 rw [e]
 exact ⟨b, o, u, v, rfl, k3, k0, k1, k2⟩
def SdJ (w : World) (g5 : Nat) (vc : Value) (l : List Ac) (W : World) : Prop := Cs W g5 24 #[vc] ∧ RwA w.heap.size W vc (.slice none 0 0) l ∧ fewL l = l ∧ Ext w W ∧ w.heap.size ≤ g5
def SdK (wb : World) (r : List Ac × Int) (W : World) (val : Value) : Prop := Ext wb W ∧ ∃ g A c, val = .pointer (some ⟨g, 0, none⟩) ∧ wb.heap.size ≤ g ∧ Cs W g 24 #[.slice A r.1.length c] ∧ RwA wb.heap.size W (.slice A r.1.length c) (.slice none 0 0) r.1
theorem SdK.ext {wb : World} {r : List Ac × Int} {W W' : World} {val : Value} (h : SdK wb r W val) (he : Ext W W') : SdK wb r W' val := by
 obtain ⟨h0, g, A, c, h1, h2, h3, h4⟩ := h
 exact ⟨h0.trans he, g, A, c, h1, h2, Cs.ext h3 he, h4.ext he⟩
theorem SdK.new {wb : World} {r : List Ac × Int} {A : Option Addr} {c g : Nat} {W : World} (h : Ext wb W) (hb : wb.heap.size ≤ g) (hg : Cs W g 24 #[.slice none 0 0]) (hr : RwA wb.heap.size W (.slice A r.1.length c) (.slice none 0 0) r.1) : SdK wb r (W.setCell ⟨g, 0, none⟩ (.slice A r.1.length c)) (.pointer (some ⟨g, 0, none⟩)) :=
 ⟨h.grown (grown_set _ _ _ _) hb, g, A, c, rfl, hb, by simpa using Cs.set hg 0 (.slice A r.1.length c), hr.keptS (grown_set _ _ _ _) hg⟩
def NwT (wb : World) (W : World) (val : Value) : Prop := ∃ g, val = .pointer (some ⟨g, 0, none⟩) ∧ Cs W g 24 #[.slice none 0 0] ∧ wb.heap.size ≤ g
theorem NwT.ext {wb W W' : World} {val : Value} (h : NwT wb W val) (he : Ext W W') : NwT wb W' val := by
 obtain ⟨g, h1, h2, h3⟩ := h
 exact ⟨g, h1, Cs.ext h2 he, h3⟩
theorem few_bounds {l : List Ac} (h : fewL l = l) : l.length ≤ 50 ∧ ∀ q ∈ l, q.code.length ≤ 1000000 ∧ q.store.length ≤ 1000000 := by
 have h1 := fewL_len l
 have h2 := fewL_sz l
 rw [h] at h1 h2
 exact ⟨h1, fun q hq => by have := h2 q hq; omega⟩
set_option maxRecDepth 100000 in
set_option maxHeartbeats 16000000 in
theorem stateDoes_any (s1 u1 : Value) (x : List Ac) (ds : List Opn) (w : World) (h1 : Acs w s1 x) (hd : Ops w u1 ds) : Calls Try.prog 3 #[.agg #[s1], u1] w (RetT w) := by
 have HX := Lib.hid h1
 have HDS := Lib.hid hd
 obtain ⟨A1, c1, rfl, p1, p2⟩ := h1.len
 obtain ⟨A2, c2, rfl, k1, k2⟩ := hd.len
 unfold maxLen at k2
 obtain ⟨w0, hw0⟩ : ∃ w0, w.alloc (.cells #[.slice A1 x.length c1] 24) = w0 := ⟨_, rfl⟩
 have HW0 := Lib.hid hw0
 have HB0 : Hid (Cs w0 w.heap.size 24 #[.slice A1 x.length c1] ∧ Ext w w0) := by
  rw [← hw0]
  exact Lib.hid ⟨Cs.new _ _ _ _ rfl, (Ext.refl w).alloc _⟩
 clear h1 hd hw0
 go_enter Try.func3, Try.ntmps3
 go_upto_region 1 with fail
 rw [HW0.out]
 clear HW0
 go_wp2_with fail
 refine (stateWakes_any _).mono ?_
 rintro e wk ⟨rfl, he⟩
 have HE := Lib.hid (HB0.out.2.trans he)
 have q2 := (Cs.ext HB0.out.1 he).cell 0 _ rfl
 clear he HB0
 go_wp2_with fail
 refine (stateFew_any _ _ _ (HX.out.ext HE.out)).mono ?_
 rintro e w3 ⟨vs, rfl, hr, he⟩
 have HE3 := Lib.hid (HE.out.trans he)
 have HFI := Lib.hid (fewL_idem x)
 have HR3 := Lib.hid (hr.low HE.out.size)
 obtain ⟨l0, hl⟩ : ∃ l, fewL x = l := ⟨_, rfl⟩
 rw [hl] at hr HR3 HFI
 obtain ⟨As, cs, rfl⟩ := hr.shape
 clear he hr hl HE q2
 go_upto_region 4 with fail
 obtain ⟨w4, hw4⟩ : ∃ w4, w3.alloc (.cells #[.slice As l0.length cs] 24) = w4 := ⟨_, rfl⟩
 have HJ4 : Hid (SdJ w w3.heap.size (.slice As l0.length cs) l0 w4) := Lib.hid (by
  rw [← hw4]
  exact ⟨Cs.new _ _ _ _ rfl, HR3.out.ext ((Ext.refl _).alloc _), HFI.out, HE3.out.trans ((Ext.refl _).alloc _), HE3.out.size⟩)
 rw [hw4]
 obtain ⟨g5, hg5⟩ : ∃ g5, w3.heap.size = g5 := ⟨_, rfl⟩
 rw [hg5] at HJ4 ⊢
 clear hw4 hg5 HE3 HR3 HFI
 go_wp2_with fail
 go_loopw [19] (fun iv wr => ∃ k : Nat, k ≤ ds.length ∧ iv = .int .i64 k ∧ ∃ vc lc, Hid (SdJ w g5 vc lc wr)) (fun iv _ => ds.length - (intOf iv).toNat)
 case atStart => exact ⟨0, by omega, rfl, _, _, HJ4⟩
 case round =>
  clear HJ4
  obtain ⟨k, hk, rfl, vc, l, HJ⟩ := hrel
  have HE := Lib.hid HJ.out.2.2.2.1
  by_cases hlt : k < ds.length
  case neg =>
   obtain rfl : k = ds.length := by omega
   have hd : decide (ds.length < ds.length) = false := decide_eq_false (by omega)
   have hd2 : decide ((ds.length : Int) < (ds.length : Int)) = false := decide_eq_false (by omega)
   go_wp2_with fail
   go_ret
   exact ⟨rfl, HE.out⟩
  have hd : decide (k < ds.length) = true := decide_eq_true hlt
  have hd2 : decide ((k : Int) < (ds.length : Int)) = true := decide_eq_true (by omega)
  obtain ⟨bb, oo, uo, vo, rfl, hrg, hok, hu, hv⟩ := HDS.out.at k hlt
  have HR := Lib.hid (show wr.rangeAt bb (oo + k * 23) _ from fun j z hz => HE.out.cell (hrg j z hz))
  have HO := Lib.hid hok
  have HU := Lib.hid hu
  have HV := Lib.hid hv
  clear hrg hok hu hv
  generalize ds.getD k opn0 = o at *
  have HOO := Lib.hid (opc_one o uo vo (bs_one HU.out) (pks_one HV.out))
  go_upto_region 7 with (first
   | ((with_reducible refine wpList_load_opm ?_ (.tmp 22) ?_ bb (oo + k * 23) o uo vo ?_ ?_ ?_); (exact rfl); (exact rfl); (exact rfl); (exact HR.out))
   | ((with_reducible refine wpList_store_agg ?_ ?_ 39 (.tmp 7) (.tmp 23) ?_ opinfoM wr.heap.size opz (opc o uo vo) ?_ ?_ ?_ ?_ ?_ ?_ ?_); (exact rfl); (exact rfl); (exact rfl); (exact HOO.out); (exact rfl); (exact rfl); (exact Cs.new _ _ _ _ rfl); (exact rfl); (exact rfl); intro wy ky gy; have KY := Lib.hid ky; have XY := Lib.hid (((Ext.refl wr).alloc (.cells opz 39)).grown gy (Nat.le_refl _)); clear ky gy))
  by_cases h25 : k = 25
  ·have f25 : ((k : Int) == 25) = true := by rw [beq_iff_eq]; omega
   clear h25
   go_wp2_with fail
   go_ret
   exact ⟨rfl, HE.out.trans XY.out⟩
  have f25 : ((k : Int) == 25) = false := by rw [beq_eq_false_iff_ne]; omega
  clear h25
  obtain ⟨g7, hg7⟩ : ∃ g, wr.heap.size = g := ⟨_, rfl⟩
  have HG7 := Lib.hid KY.out
  rw [hg7] at HG7 ⊢
  have HC5 := Lib.hid (Cs.ext HJ.out.1 XY.out)
  have HRW := Lib.hid (HJ.out.2.1.ext XY.out)
  have HFW := Lib.hid HJ.out.2.2.1
  have HB5 := Lib.hid HJ.out.2.2.2.2
  have HE4 := Lib.hid (HE.out.trans XY.out)
  have HBD := Lib.hid (few_bounds HJ.out.2.2.1)
  clear hg7 KY XY HJ HE HR HOO
  obtain ⟨A5, c5, rfl⟩ := HRW.out.shape
  have q5 := HC5.out.cell 0 _ rfl
  go_wp2_with fail
  refine (stateFew_any _ l _ HRW.out.acs).mono ?_
  rintro e wa ⟨v8, rfl, hr8, he⟩
  rw [HFW.out] at hr8
  have HA8 := Lib.hid hr8.acs
  obtain ⟨A8, c8, rfl⟩ := hr8.shape
  have HG7 := Lib.hid (Cs.ext HG7.out he)
  have HC5 := Lib.hid (Cs.ext HC5.out he)
  have HRW := Lib.hid (HRW.out.ext he)
  have HE4 := Lib.hid (HE4.out.trans he)
  clear he hr8 q5
  go_upto_region 9 with fail
  obtain ⟨w8, hw8⟩ : ∃ w', wa.alloc (.cells #[.slice A8 l.length c8] 24) = w' := ⟨_, rfl⟩
  have HX8 : Hid (Ext wa w8) := Lib.hid (by rw [← hw8]; exact (Ext.refl _).alloc _)
  have HC8 : Hid (Cs w8 wa.heap.size 24 #[.slice A8 l.length c8]) := Lib.hid (by rw [← hw8]; exact Cs.new _ _ _ _ rfl)
  rw [hw8]
  obtain ⟨g8, hg8⟩ : ∃ g, wa.heap.size = g := ⟨_, rfl⟩
  rw [hg8] at HC8 ⊢
  have HA8 := Lib.hid (HA8.out.ext HX8.out)
  have HG7 := Lib.hid (Cs.ext HG7.out HX8.out)
  have HC5 := Lib.hid (Cs.ext HC5.out HX8.out)
  have HRW := Lib.hid (HRW.out.ext HX8.out)
  have HE4 := Lib.hid (HE4.out.trans HX8.out)
  clear hw8 hg8 HX8
  have q5 := HC5.out.cell 0 _ rfl
  have HOR := Lib.hid HG7.out.rgM
  go_wp2_with ((with_reducible refine wpList_load_opm ?_ (.tmp 7) ?_ g7 0 o uo vo ?_ ?_ ?_); (exact rfl); (exact rfl); (exact rfl); (exact HOR.out))
  refine (runOp_any _ l o uo vo _ HRW.out.acs (by have := HBD.out.1; omega) HBD.out.2 HO.out (HU.out.ext HE4.out) (HV.out.ext HE4.out)).mono ?_
  rintro e wn ⟨vn, rfl, hrn, he⟩
  have HA8 := Lib.hid (HA8.out.ext he)
  have HG7 := Lib.hid (Cs.ext HG7.out he)
  have HC5 := Lib.hid (Cs.ext HC5.out he)
  have HC8 := Lib.hid (Cs.ext HC8.out he)
  have HRW := Lib.hid (HRW.out.ext he)
  have HE4 := Lib.hid (HE4.out.trans he)
  have HWA := Lib.hid (fun (sv : Value) W (hs : Acs W sv l) (h : Ext w W) => wants_any sv l o uo vo W hs (by have := HBD.out.1; omega) HBD.out.2 HO.out (HU.out.ext h) (HV.out.ext h))
  clear he q5 HOR
  obtain ⟨r, hr⟩ : ∃ r, runS l o = r := ⟨_, rfl⟩
  rw [hr] at hrn HWA ⊢
  clear hr
  obtain ⟨An, cn, rfl⟩ := hrn.shape
  have HAN := Lib.hid hrn.acs
  clear hrn
  go_upto_region 10 with fail
  obtain ⟨wb, hwb⟩ : ∃ w', wn.alloc (.cells #[.slice An r.1.length cn] 24) = w' := ⟨_, rfl⟩
  have HXB : Hid (Ext wn wb) := Lib.hid (by rw [← hwb]; exact (Ext.refl _).alloc _)
  have HC9 : Hid (Cs wb wn.heap.size 24 #[.slice An r.1.length cn]) := Lib.hid (by rw [← hwb]; exact Cs.new _ _ _ _ rfl)
  rw [hwb]
  obtain ⟨g9, hg9⟩ : ∃ g, wn.heap.size = g := ⟨_, rfl⟩
  rw [hg9] at HC9 ⊢
  have HA8 := Lib.hid (HA8.out.ext HXB.out)
  have HAN := Lib.hid (HAN.out.ext HXB.out)
  have HG7 := Lib.hid (Cs.ext HG7.out HXB.out)
  have HC5 := Lib.hid (Cs.ext HC5.out HXB.out)
  have HC8 := Lib.hid (Cs.ext HC8.out HXB.out)
  have HRW := Lib.hid (HRW.out.ext HXB.out)
  have HE4 := Lib.hid (HE4.out.trans HXB.out)
  clear hwb hg9 HXB
  have HFEW := Lib.hid (fun W (h : Ext wb W) => show Calls Try.prog 11 #[.agg #[.slice A8 l.length c8]] W _ from by have := stateFew_any _ l W (HA8.out.ext h); rw [HFW.out] at this; exact this)
  refine wp_named fun a0 ha0 => ?_
  obtain ⟨fr, hfr⟩ : ∃ fr : (Nat → Value) → Act, ∀ V, fr V = (((((((((a0.put (some 35) (V 0)).put (some 36) (V 1)).put (some 37) (V 2)).put (some 38) (V 3)).put (some 34) (V 4)).put (some 39) (V 5)).put (some 40) (V 6)).put (some 11) (V 7)).put (some 12) (V 9)) := ⟨_, fun _ => rfl⟩
  rw [ha0] at hfr
  simp only [Act.put, List.setIfInBounds_toArray, List.set_cons_zero, List.set_cons_succ] at hfr
  have HFR := Lib.hid hfr
  clear hfr
  refine wp_region_inv (by kernel_rfl) (by kernel_rfl) (fun L A W => ∃ V : Nat → Value, A = fr V ∧ Vals (fun j => ([some (.agg (opc o uo vo)), some (.agg #[.slice A8 l.length c8]), none, none, none, none, some (.int .i64 r.2), none, none, some (.int .i64 r.2)] : List (Option Value)).getD j none) L V ∧ (L 8 = false → Ext wb W) ∧ (L 8 = true → SdK wb r W (V 7)) ∧ (L 8 = false → L 2 = true → StP wb.heap.size l W (V 2)) ∧ (L 8 = false → L 3 = true → PuR wb.heap.size r W (V 3)) ∧ (L 4 = true → ((V 4) = (V 3) ∧ SpT r (V 4))) ∧ (L 8 = false → L 5 = true → StV wb.heap.size r W (V 5)) ∧ (L 8 = false → L 7 = true → NwT wb W (V 7))) ?_ ⟨?_, ?_, ?_, ?_, ?_, ?_, ?_, ?_, ?_, ?_, trivial⟩ ?_
  ·refine ⟨fun j => a0.tmps.getD (([35, 36, 37, 38, 34, 39, 40, 11, 0, 12] : List Nat).getD j 0) undef, ?_, Vals.no _ _ _ (far_none _ _ rfl), fun _ => (Ext.refl _).drew, fun h0 => absurd h0 (by decide), fun h0 h1 => absurd h1 (by decide), fun h0 h1 => absurd h1 (by decide), fun h0 => absurd h0 (by decide), fun h0 h1 => absurd h1 (by decide), fun h0 h1 => absurd h1 (by decide)⟩
   rw [HFR.out, ha0]
   rfl
  all_goals clear ha0
  ·rintro L A W K hL hC hW ⟨V, rfl, HV, s0, s1, f2, f3, f4, f5, f7⟩ hK
   have hB := s0 (hC.no (hC.no (hC.no (hC.no hL 3 _ rfl rfl) 4 _ rfl rfl) 5 _ rfl rfl) 8 _ rfl rfl)
   have H := Lib.hid (show ∀ W', Ext W W' → K (fr (upd V 0 (.agg (opc o uo vo)))) W' from fun W' he => hK _ _ ⟨_, rfl, HV.us 0 _ rfl, fun h0 => Ext.trans (s0 (mnf h0 rfl)) he, fun h0 => SdK.ext (s1 (more_ne h0 rfl)) he, fun h0 h1 => (StP.pk _ _).ext (f2 (mnf h0 rfl) (more_ne h1 rfl)) he, fun h0 h1 => PuR.ext (f3 (mnf h0 rfl) (more_ne h1 rfl)) he, fun h0 => keepP (f4 (more_ne h0 rfl)) he, fun h0 h1 => StV.ext (f5 (mnf h0 rfl) (more_ne h1 rfl)) he, fun h0 h1 => NwT.ext (f7 (mnf h0 rfl) (more_ne h1 rfl)) he⟩)
   clear hK hC hW hL HV s0 s1 f2 f3 f4 f5 f7
   rw [HFR.out]
   have HWD := Lib.hid (Cs.ext HG7.out hB).rgM
   clear hB
   refine wpList_load_opm rfl (.tmp 7) rfl g7 0 o uo vo rfl HWD.out ?_
   show K _ _; have := H.out _ (Ext.refl _); rw [HFR.out] at this
   exact this
  ·rintro L A W K hL hC hW ⟨V, rfl, HV, s0, s1, f2, f3, f4, f5, f7⟩ hK
   have hB := s0 (hC.no (hC.no (hC.no (hC.no (hC.no hL 2 _ rfl rfl) 3 _ rfl rfl) 4 _ rfl rfl) 5 _ rfl rfl) 8 _ rfl rfl)
   have H := Lib.hid (show ∀ W', Ext W W' → K (fr (upd V 1 (.agg #[.slice A8 l.length c8]))) W' from fun W' he => hK _ _ ⟨_, rfl, HV.us 1 _ rfl, fun h0 => Ext.trans (s0 (mnf h0 rfl)) he, fun h0 => SdK.ext (s1 (more_ne h0 rfl)) he, fun h0 h1 => (StP.pk _ _).ext (f2 (mnf h0 rfl) (more_ne h1 rfl)) he, fun h0 h1 => PuR.ext (f3 (mnf h0 rfl) (more_ne h1 rfl)) he, fun h0 => keepP (f4 (more_ne h0 rfl)) he, fun h0 h1 => StV.ext (f5 (mnf h0 rfl) (more_ne h1 rfl)) he, fun h0 h1 => NwT.ext (f7 (mnf h0 rfl) (more_ne h1 rfl)) he⟩)
   clear hK hC hW hL HV s0 s1 f2 f3 f4 f5 f7
   rw [HFR.out]
   have hcl := (Cs.ext HC8.out hB).cell 0 _ rfl
   clear hB
   go_wp2_with fail
   show K _ _; have := H.out _ (Ext.refl _); rw [HFR.out] at this
   exact this
  ·rintro L A W K hL hC hW ⟨V, rfl, HV, s0, s1, f2, f3, f4, f5, f7⟩ hK
   have e1 := HV 1 _ rfl (hW 1 rfl)
   have hB := s0 (hC.no (hC.no (hC.no (hC.no hL 3 _ rfl rfl) 4 _ rfl rfl) 5 _ rfl rfl) 8 _ rfl rfl)
   have H := Lib.hid (show ∀ v W', Ext W W' → (StP wb.heap.size l W' v) → K (fr (upd V 2 v)) W' from fun v W' he hp => hK _ _ ⟨_, rfl, HV.un 2 _ rfl, fun h0 => Ext.trans (s0 (mnf h0 rfl)) he, fun h0 => SdK.ext (s1 (more_ne h0 rfl)) he, fun h0 h1 => hp, fun h0 h1 => PuR.ext (f3 (mnf h0 rfl) (more_ne h1 rfl)) he, fun h0 => keepP (f4 (more_ne h0 rfl)) he, fun h0 h1 => StV.ext (f5 (mnf h0 rfl) (more_ne h1 rfl)) he, fun h0 h1 => NwT.ext (f7 (mnf h0 rfl) (more_ne h1 rfl)) he⟩)
   have HU := Lib.hid (show ∀ v, (upd V 2 v) 1 = .agg #[.slice A8 l.length c8] from fun v => e1)
   clear hK hC hW hL HV s0 s1 f2 f3 f4 f5 f7
   rw [HFR.out, e1]
   clear e1
   have HB := Lib.hid hB
   clear hB
   go_wp2_with fail
   refine (HFEW.out _ HB.out).mono ?_
   rintro e wx ⟨v', rfl, hr, he⟩
   have := H.out _ _ he (⟨v', rfl, hr.low HB.out.size⟩)
   clear H
   go_wp2_with fail
   show K _ _
   rw [HFR.out] at this
   obtain u1 := HU.out _
   rw [u1] at this
   exact this
  ·rintro L A W K hL hC hW ⟨V, rfl, HV, s0, s1, f2, f3, f4, f5, f7⟩ hK
   have e0 := HV 0 _ rfl (hW 0 rfl)
   have hB := s0 (hC.no (hC.no (hC.no hL 4 _ rfl rfl) 5 _ rfl rfl) 8 _ rfl rfl)
   have q2 := f2 (hC.no (hC.no (hC.no hL 4 _ rfl rfl) 5 _ rfl rfl) 8 _ rfl rfl) (hW 2 rfl)
   obtain ⟨x2, e2, z2⟩ := q2
   have H := Lib.hid (show ∀ v W', Ext W W' → (PuR wb.heap.size r W' v) → K (fr (upd V 3 v)) W' from fun v W' he hp => hK _ _ ⟨_, rfl, HV.un 3 _ rfl, fun h0 => Ext.trans (s0 (mnf h0 rfl)) he, fun h0 => SdK.ext (s1 (more_ne h0 rfl)) he, fun h0 h1 => (StP.pk _ _).ext (f2 (mnf h0 rfl) (more_ne h1 rfl)) he, fun h0 h1 => hp, fun h0 => mtf (hC.no hL 4 _ rfl rfl) (more_ne h0 rfl), fun h0 h1 => StV.ext (f5 (mnf h0 rfl) (more_ne h1 rfl)) he, fun h0 h1 => NwT.ext (f7 (mnf h0 rfl) (more_ne h1 rfl)) he⟩)
   have HU := Lib.hid (show ∀ v, (upd V 3 v) 0 = .agg (opc o uo vo) ∧ (upd V 3 v) 2 = .agg #[x2] from fun v => ⟨e0, e2⟩)
   clear hK hC hW hL HV s0 s1 f2 f3 f4 f5 f7
   rw [HFR.out, e0, e2]
   clear e0 e2
   have HB := Lib.hid hB
   clear hB
   have Z1 := Lib.hid z2
   clear z2
   go_wp2_with fail
   refine (HWA.out _ _ Z1.out.acs (HE4.out.trans HB.out)).mono ?_
   rintro e wx ⟨v', rfl, hr, he⟩
   have := H.out _ _ he (PuR.new (hr.low HB.out.size))
   clear H
   go_wp2_with fail
   show K _ _
   rw [HFR.out] at this
   obtain ⟨u0, u2⟩ := HU.out _
   rw [u0, u2] at this
   exact this
  ·rintro L A W K hL hC hW ⟨V, rfl, HV, s0, s1, f2, f3, f4, f5, f7⟩ hK
   have q3 := f3 (hC.no (hC.no hL 5 _ rfl rfl) 8 _ rfl rfl) (hW 3 rfl)
   obtain ⟨A3, c3, e3, k3⟩ := q3
   have H := Lib.hid (show ∀ v W', Ext W W' → ((v = (V 3) ∧ SpT r v)) → K (fr (upd V 4 v)) W' from fun v W' he hp => hK _ _ ⟨_, rfl, HV.un 4 _ rfl, fun h0 => Ext.trans (s0 (mnf h0 rfl)) he, fun h0 => SdK.ext (s1 (more_ne h0 rfl)) he, fun h0 h1 => (StP.pk _ _).ext (f2 (mnf h0 rfl) (more_ne h1 rfl)) he, fun h0 h1 => PuR.ext (f3 (mnf h0 rfl) (more_ne h1 rfl)) he, fun h0 => hp, fun h0 h1 => StV.ext (f5 (mnf h0 rfl) (more_ne h1 rfl)) he, fun h0 h1 => NwT.ext (f7 (mnf h0 rfl) (more_ne h1 rfl)) he⟩)
   have HU := Lib.hid (show ∀ v, (upd V 4 v) 3 = .tuple #[.agg #[.slice A3 r.1.length c3], .int .i64 r.2] from fun v => e3)
   clear hK hC hW hL HV s0 s1 f2 f3 f4 f5 f7
   rw [HFR.out, e3]
   clear e3
   go_wp2_with fail
   show K _ _; have := H.out (.tuple #[.agg #[.slice A3 r.1.length c3], .int .i64 r.2]) _ (Ext.refl _) (⟨(HU.out undef).symm, _, rfl⟩); rw [HFR.out] at this
   obtain u3 := HU.out _
   rw [u3] at this
   exact this
  ·rintro L A W K hL hC hW ⟨V, rfl, HV, s0, s1, f2, f3, f4, f5, f7⟩ hK
   have q3 := f3 (hC.no hL 8 _ rfl rfl) (hC 4 _ rfl (hW 4 rfl) 3 rfl)
   have q4 := f4 (hW 4 rfl)
   obtain ⟨x4, e4⟩ := q4.2
   have H := Lib.hid (show ∀ v W', Ext W W' → (StV wb.heap.size r W' v) → K (fr (upd V 5 v)) W' from fun v W' he hp => hK _ _ ⟨_, rfl, HV.un 5 _ rfl, fun h0 => Ext.trans (s0 (mnf h0 rfl)) he, fun h0 => SdK.ext (s1 (more_ne h0 rfl)) he, fun h0 h1 => (StP.pk _ _).ext (f2 (mnf h0 rfl) (more_ne h1 rfl)) he, fun h0 h1 => PuR.ext (f3 (mnf h0 rfl) (more_ne h1 rfl)) he, fun h0 => keepP (f4 (more_ne h0 rfl)) he, fun h0 h1 => hp, fun h0 h1 => NwT.ext (f7 (mnf h0 rfl) (more_ne h1 rfl)) he⟩)
   have HU := Lib.hid (show ∀ v, (upd V 5 v) 4 = .tuple #[x4, .int .i64 r.2] from fun v => e4)
   clear hK hC hW hL HV s0 s1 f2 f3 f4 f5 f7
   rw [HFR.out, e4]
   clear e4
   go_wp2_with fail
   show K _ _; have := H.out (x4) _ (Ext.refl _) (StV.of q4.1 (HU.out undef) q3); rw [HFR.out] at this
   obtain u4 := HU.out _
   rw [u4] at this
   exact this
  ·rintro L A W K hL hC hW ⟨V, rfl, HV, s0, s1, f2, f3, f4, f5, f7⟩ hK
   have q4 := f4 (hW 4 rfl)
   obtain ⟨x4, e4⟩ := q4.2
   have H := Lib.hid (show ∀ W', Ext W W' → K (fr (upd V 6 (.int .i64 r.2))) W' from fun W' he => hK _ _ ⟨_, rfl, HV.us 6 _ rfl, fun h0 => Ext.trans (s0 (mnf h0 rfl)) he, fun h0 => SdK.ext (s1 (more_ne h0 rfl)) he, fun h0 h1 => (StP.pk _ _).ext (f2 (mnf h0 rfl) (more_ne h1 rfl)) he, fun h0 h1 => PuR.ext (f3 (mnf h0 rfl) (more_ne h1 rfl)) he, fun h0 => keepP (f4 (more_ne h0 rfl)) he, fun h0 h1 => StV.ext (f5 (mnf h0 rfl) (more_ne h1 rfl)) he, fun h0 h1 => NwT.ext (f7 (mnf h0 rfl) (more_ne h1 rfl)) he⟩)
   have HU := Lib.hid (show (upd V 6 (.int .i64 r.2)) 4 = .tuple #[x4, .int .i64 r.2] from e4)
   clear hK hC hW hL HV s0 s1 f2 f3 f4 f5 f7
   rw [HFR.out, e4]
   clear e4
   go_wp2_with fail
   show K _ _; have := H.out _ (Ext.refl _); rw [HFR.out] at this
   obtain u4 := HU.out
   rw [u4] at this
   exact this
  ·rintro L A W K hL hC hW ⟨V, rfl, HV, s0, s1, f2, f3, f4, f5, f7⟩ hK
   have hB := s0 (hC.no hL 8 _ rfl rfl)
   have H := Lib.hid (show ∀ v W', Ext W W' → (NwT wb W' v) → K (fr (upd V 7 v)) W' from fun v W' he hp => hK _ _ ⟨_, rfl, HV.un 7 _ rfl, fun h0 => Ext.trans (s0 (mnf h0 rfl)) he, fun h0 => mtf (hC.no hL 8 _ rfl rfl) (more_ne h0 rfl), fun h0 h1 => (StP.pk _ _).ext (f2 (mnf h0 rfl) (more_ne h1 rfl)) he, fun h0 h1 => PuR.ext (f3 (mnf h0 rfl) (more_ne h1 rfl)) he, fun h0 => keepP (f4 (more_ne h0 rfl)) he, fun h0 h1 => StV.ext (f5 (mnf h0 rfl) (more_ne h1 rfl)) he, fun h0 h1 => hp⟩)
   clear hK hC hW hL HV s0 s1 f2 f3 f4 f5 f7
   rw [HFR.out]
   have HB := Lib.hid hB
   clear hB
   go_wp2_with fail
   show K _ _; have := H.out (.pointer (some ⟨W.heap.size, 0, none⟩)) _ ((Ext.refl W).alloc (.cells #[.slice none 0 0] 24)) (⟨_, rfl, Cs.new _ _ _ _ rfl, HB.out.size⟩); rw [HFR.out] at this
   exact this
  ·rintro L A W K hL hC hW ⟨V, rfl, HV, s0, s1, f2, f3, f4, f5, f7⟩ hK
   have hB := s0 hL
   have q7 := f7 hL (hW 7 rfl)
   obtain ⟨n7, e7, k7, z7⟩ := q7
   have q5 := f5 hL (hW 5 rfl)
   obtain ⟨M5, m5, e5, k5⟩ := q5
   have H := Lib.hid (show ∀ W', (SdK wb r W' (V 7)) → K (fr (V)) W' from fun W' hA => hK _ _ ⟨V, rfl, HV.st 8 rfl, fun h0 => msf h0, fun h0 => hA, fun h0 h1 => msf h0, fun h0 h1 => msf h0, fun h0 => (f4 (more_ne h0 rfl)), fun h0 h1 => msf h0, fun h0 h1 => msf h0⟩)
   have HU := Lib.hid (show (V) 7 = .pointer (some ⟨n7, 0, none⟩) ∧ (V) 5 = .agg #[.slice M5 r.1.length m5] from ⟨e7, e5⟩)
   clear hK hC hW hL HV s0 s1 f2 f3 f4 f5 f7
   rw [HFR.out, e7, e5]
   clear e7 e5
   have HB := Lib.hid hB
   have K1 := Lib.hid k7
   have K2 := Lib.hid k5
   have Z1 := Lib.hid z7
   have hc : W.cell? ⟨n7, 0, none⟩ = some (.slice none 0 0) := k7.cell 0 _ rfl
   have hf : W.frozen? ⟨n7, 0, none⟩ = false := k7.frozen 0
   clear hB k7 k5 z7
   go_wp2_with fail
   have HA := Lib.hid (show SdK wb r (W.setCell ⟨n7, 0, none⟩ (.slice M5 r.1.length m5)) (V 7) from by rw [HU.out.1]; exact SdK.new HB.out Z1.out K1.out K2.out)
   show K _ _; have := H.out _ HA.out; rw [HFR.out] at this
   obtain ⟨u7, u5⟩ := HU.out
   rw [u7, u5] at this
   exact this
  ·rintro L A W K hL hC hW ⟨V, rfl, HV, s0, s1, f2, f3, f4, f5, f7⟩ hK
   have e6 := HV 6 _ rfl (hW 6 rfl)
   have H := Lib.hid (show ∀ W', Ext W W' → K (fr (upd V 9 (.int .i64 r.2))) W' from fun W' he => hK _ _ ⟨_, rfl, HV.us 9 _ rfl, fun h0 => Ext.trans (s0 (mnf h0 rfl)) he, fun h0 => SdK.ext (s1 (more_ne h0 rfl)) he, fun h0 h1 => (StP.pk _ _).ext (f2 (mnf h0 rfl) (more_ne h1 rfl)) he, fun h0 h1 => PuR.ext (f3 (mnf h0 rfl) (more_ne h1 rfl)) he, fun h0 => keepP (f4 (more_ne h0 rfl)) he, fun h0 h1 => StV.ext (f5 (mnf h0 rfl) (more_ne h1 rfl)) he, fun h0 h1 => NwT.ext (f7 (mnf h0 rfl) (more_ne h1 rfl)) he⟩)
   have HU := Lib.hid (show (upd V 9 (.int .i64 r.2)) 6 = .int .i64 r.2 from e6)
   clear hK hC hW hL HV s0 s1 f2 f3 f4 f5 f7
   rw [HFR.out, e6]
   clear e6
   go_wp2_with fail
   show K _ _; have := H.out _ (Ext.refl _); rw [HFR.out] at this
   obtain u6 := HU.out
   rw [u6] at this
   exact this
  ·rintro L A W hL ⟨V, rfl, HV, s0, s1, f2, f3, f4, f5, f7⟩
   have e0 := HV 0 _ rfl (hL 0 (by simp))
   have e1 := HV 1 _ rfl (hL 1 (by simp))
   have e6 := HV 6 _ rfl (hL 6 (by simp))
   have e9 := HV 9 _ rfl (hL 9 (by simp))
   have hA := s1 (hL 8 (by simp))
   have p34 := f4 (hL 4 (by simp))
   rw [HFR.out, e0, e1, e6, e9]
   clear hL HV HFR e0 e1 e6 e9 s0 s1 f2 f3 f4 f5 f7
   obtain ⟨hXW, g11, A11, c11, hv11, hb11, hc11, hr11⟩ := hA
   rw [hv11]
   have HXW := Lib.hid hXW
   have HC11 := Lib.hid hc11
   have HR11 := Lib.hid hr11
   have q9 := (Cs.ext HC9.out hXW).cell 0 _ rfl
   have q11 := hc11.cell 0 _ rfl
   have hee : (r.2 != r.2) = false := by simp
   clear hXW hb11 hc11 hr11 hv11
   go_wp2_with fail
   refine (refSame_any _ _ r.1 r.1 _ (HAN.out.ext HXW.out) HR11.out.acs).mono ?_
   rintro e wc ⟨rfl, he⟩
   rw [eqL_id]
   have HXC := Lib.hid (HXW.out.trans he)
   have HC11 := Lib.hid (Cs.ext HC11.out he)
   have HR11 := Lib.hid (HR11.out.ext he)
   have q5 := (Cs.ext HC5.out HXC.out).cell 0 _ rfl
   have q8 := (Cs.ext HC8.out HXC.out).cell 0 _ rfl
   clear he q9 q11
   go_wp2_with fail
   refine (refSame_any _ _ l l _ (HRW.out.acs.ext HXC.out) (HA8.out.ext HXC.out)).mono ?_
   rintro e wd ⟨rfl, he⟩
   rw [eqL_id]
   have HXD := Lib.hid (HXC.out.trans he)
   have HC11 := Lib.hid (Cs.ext HC11.out he)
   have HR11 := Lib.hid (HR11.out.ext he)
   clear he q5 q8 HXC
   by_cases h0 : r.2 = 0
   ·have f0 : (r.2 == 0) = true := by rw [beq_iff_eq]; exact h0
    have q11 := HC11.out.cell 0 _ rfl
    clear h0
    go_wp2_with fail
    refine (stateFew_any _ r.1 _ HR11.out.acs).mono ?_
    rintro e we ⟨vl, rfl, hrl, he⟩
    have HXE := Lib.hid (HXD.out.trans he)
    have HCE := Lib.hid (Cs.ext HC5.out HXE.out)
    have HRE := Lib.hid (hrl.low (show w.heap.size ≤ wd.heap.size from (HE4.out.trans HXD.out).size))
    obtain ⟨AE, cE, rfl⟩ := hrl.shape
    have qc := HCE.out.cell 0 _ rfl
    have qf := HCE.out.frozen 0
    clear he hrl q11
    have HFI := Lib.hid (fewL_idem r.1)
    generalize fewL r.1 = l2 at *
    go_wp2_with fail
    exact ⟨⟨k + 1, by omega, by go_num, .slice AE l2.length cE, l2, Lib.hid ⟨by simpa using Cs.set HCE.out 0 (.slice AE l2.length cE), HRE.out.keptS (grown_set _ _ _ _) HCE.out, HFI.out, (HE4.out.trans HXE.out).grown (grown_set _ _ _ _) HB5.out, HB5.out⟩⟩, by simp [intOf]; omega⟩
   ·have f0 : (r.2 == 0) = false := by rw [beq_eq_false_iff_ne]; exact h0
    clear h0
    go_wp2_with fail
    exact ⟨⟨k + 1, by omega, by go_num, _, l, Lib.hid ⟨Cs.ext HC5.out HXD.out, HRW.out.ext HXD.out, HFW.out, HE4.out.trans HXD.out, HB5.out⟩⟩, by simp [intOf]; omega⟩
set_option maxRecDepth 100000 in
theorem ops_came {H : Type} {enc : TypeId × Value → H} {W : World} {base : Nat} {v : Value} {d : DataW H} {p : List MemPlace}
  (hval : Value.okWide Try.prog W .any base 25 v) (h : DataW.Trod enc Try.prog W 0 (fun _ => true) true 25 v d p) : ∃ l, Ops W v l := by
 obtain ⟨a0, len0, cap0, rfl⟩ := okWide_slice Try.underlying25 hval
 obtain ⟨fuel, hf⟩ := h
 obtain ⟨v', l, hcs, hl⟩ := slice_came (s := 23) Try.underlying25 (by kernel_rfl) (by decide) (OpR W) (fun _ _ _ h => op_trod h) hf
 simp [Value.cells] at hcs
 subst hcs
 exact ⟨l, hl⟩
set_option maxRecDepth 100000 in
theorem stateDoes_told (W : World) (args : Array Value) (h : Told Try.f3 W args) : Calls Try.prog 3 args W (RetT W) := by
 obtain ⟨H, enc, base, ds, p, hval, hA⟩ := h
 rw [Try.params3] at hA hval
 obtain ⟨v0, v1, d0, d1, p0, p1, rfl, rfl, rfl, h0, h1⟩ := trodAll_two hA
 obtain ⟨s0, x0, rfl, hx0⟩ := state_came (hval 0 _ v0 rfl rfl) h0
 obtain ⟨l, hl⟩ := ops_came (hval 1 _ v1 rfl rfl) h1
 exact stateDoes_any s0 v1 x0 l W hx0 hl

set_option maxRecDepth 100000 in
theorem stateDoes_spec (H : Type) : ∀ ds : List (DataW H), ds.length = Try.f3.params.toList.length → Rows.stateDoesSpec.fn H ds = { results := [.lit (.bool true)], args := ds }
 | [_, _], _ => rfl
 | [], h | [_], h | _ :: _ :: _ :: _, h => by rw [Try.params3] at h; simp at h

set_option maxRecDepth 100000 in
theorem stateDoes_holds : Rows.StateDoesSaid :=
 OpenClaim.holds_of_wide 3 Try.f3 rfl rfl rfl rfl rfl rfl rfl ⟨rfl, rfl, rfl, rfl, rfl⟩ rfl rfl rfl rfl rfl (by kernel_rfl) Try.func3 (by kernel_rfl)
  (of_decide_eq_true (by kernel_rfl)) (by unfold Func.isWrapper; first | (rw [if_pos (by decide +kernel)]; kernel_rfl) | (rw [if_neg (by decide +kernel)]; exact ⟨rfl, rfl⟩))
  (fun os started H enc _ => law_lifted started (by kernel_rfl) Try.func3 rfl rfl (stateDoes_spec H) (of_decide_eq_true (by kernel_rfl))
   (ChangeSpec.witness6 (enc := enc) (C := Try.checked) false ⟨#[], #[.agg #[.slice none 0 0], .slice none 0 0], []⟩ 8 (by kernel_rfl) (by kernel_rfl) (by kernel_rfl) (by kernel_rfl)) stateDoes_told)
end Go.Proofs.Ytiojfpdjnblkhaa
