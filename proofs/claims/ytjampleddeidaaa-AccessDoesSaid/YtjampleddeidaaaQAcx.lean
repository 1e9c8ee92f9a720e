/- Package access: the closure of Keep. -/
import Derived.Test.YtjampleddeidaaaQAcw
import Derived.Test.YtjampleddeidaaaQAct
namespace Go.Proofs.Ytjampleddeidaaa
open Go.ChangeShapes Go.WideShapes Go.ChangeAt Go.RowKit Go.Shelf

def kpL (l : List Pe) (q : Pe) (nv : Nat) : List Pe := if nv = 0 then dlX l q.cod else ptL l ⟨q.addr, q.key, nv⟩
def kpB (l : List Pe) (q : Pe) (nv : Nat) : Bool := if nv = 0 then false else ptB l ⟨q.addr, q.key, nv⟩
def kpE (l : List Pe) (q : Pe) (nv : Nat) : Int := if nv = 0 then 0 else ptE l ⟨q.addr, q.key, nv⟩
def PsK (lo g : Nat) (ua us : Value) (up : Value) (x : Ax) (m : List Pe) (wr W : World) (val : Value) : Prop := ∃ A c, val = .slice A m.length c ∧ ((Cs W g 26 #[ua, us, up] ∧ lo ≤ g) ∧ OwnA W lo ua x.a ∧ OwnS W lo us x.s ∧ OwnP W lo (.slice A m.length c) m) ∧ Below lo wr W
def PsU (lo g : Nat) (ua us : Value) (x : Ax) (m : List Pe) (wr W : World) : Prop := ∃ v', AxO lo g W ua us v' { x with p := m } ∧ Below lo wr W
set_option maxRecDepth 100000 in
theorem PsU.ext {lo g : Nat} {ua us : Value} {x : Ax} {m : List Pe} {wr W W' : World} (hw : lo ≤ wr.heap.size) (h : PsU lo g ua us x m wr W) (he : Ext W W') : PsU lo g ua us x m wr W' := by
  obtain ⟨v', h, hb⟩ := h
  exact ⟨v', h.ext he, Below.trans hb (Below.mono he (Nat.le_trans hw hb.size))⟩
set_option maxRecDepth 100000 in
theorem PsK.ext {lo g : Nat} {ua us up : Value} {x : Ax} {m : List Pe} {wr W W' : World} {val : Value} (hw : lo ≤ wr.heap.size) (h : PsK lo g ua us up x m wr W val) (he : Ext W W') : PsK lo g ua us up x m wr W' val := by
  obtain ⟨A, c, e, ⟨⟨h0, h1⟩, h2, h3, h4⟩, hb⟩ := h
  exact ⟨A, c, e, ⟨⟨Cs.ext h0 he, h1⟩, h2.ext he, h3.ext he, h4.ext he⟩, Below.trans hb (Below.mono he (Nat.le_trans hw hb.size))⟩
set_option maxRecDepth 100000 in
theorem PsV.ext {lo g gs gv : Nat} {ua us up : Value} {x : Ax} {cs cv : Array Value} {wr W W' : World} (h : (AxO lo g W ua us up x ∧ lo ≤ W.heap.size) ∧ Ext wr W ∧ Cs W gs 32 cs ∧ Cs W gv 30 cv) (he : Ext W W') : (AxO lo g W' ua us up x ∧ lo ≤ W'.heap.size) ∧ Ext wr W' ∧ Cs W' gs 32 cs ∧ Cs W' gv 30 cv := ⟨⟨h.1.1.ext he, Nat.le_trans h.1.2 he.size⟩, h.2.1.trans he, Cs.ext h.2.2.1 he, Cs.ext h.2.2.2 he⟩
def PsW (lo g : Nat) (ua us up : Value) (x : Ax) (q : Pe) (nv : Nat) (wr W : World) (val : Value) : Prop := ∃ A c, val = .tuple #[.slice A (ptL x.p (⟨q.addr, q.key, nv⟩ : Pe)).length c, .bool (ptB x.p (⟨q.addr, q.key, nv⟩ : Pe)), .int .i64 (ptE x.p (⟨q.addr, q.key, nv⟩ : Pe))] ∧ PsK lo g ua us up x (ptL x.p (⟨q.addr, q.key, nv⟩ : Pe)) wr W (.slice A (ptL x.p (⟨q.addr, q.key, nv⟩ : Pe)).length c)
set_option maxRecDepth 100000 in
theorem PsW.ext {lo g nv : Nat} {ua us up : Value} {x : Ax} {q : Pe} {wr W W' : World} {val : Value} (hw : lo ≤ wr.heap.size) (h : PsW lo g ua us up x q nv wr W val) (he : Ext W W') : PsW lo g ua us up x q nv wr W' val := by
  obtain ⟨A, c, e, h⟩ := h
  exact ⟨A, c, e, h.ext hw he⟩
def PtW (l : List Pe) (q : Pe) (nv : Nat) (val : Value) : Prop := ∃ A c, val = .tuple #[.slice A (ptL l (⟨q.addr, q.key, nv⟩ : Pe)).length c, .bool (ptB l (⟨q.addr, q.key, nv⟩ : Pe)), .int .i64 (ptE l (⟨q.addr, q.key, nv⟩ : Pe))]
set_option maxRecDepth 100000 in
set_option maxHeartbeats 8000000 in
theorem keep1_any (lo g gs gv : Nat) (ua us up : Value) (x : Ax) (q : Pe) (nv : Nat) (wr : World) (ho : AxO lo g wr ua us up x) (hlw : lo ≤ wr.heap.size) (hrs : rsB x.p = true) (hq : okS q) (hv : nv < M256) (hgs : Cs wr gs 32 (cS q)) (hgv : Cs wr gv 30 (wc nv)) :
    Calls Try.prog 64 #[.pointer (some ⟨g, 0, none⟩), .pointer (some ⟨gv, 0, none⟩), .pointer (some ⟨gs, 0, none⟩)] wr fun e w' => e = .returned (.tuple #[.bool (kpB x.p q nv), .int .i64 (kpE x.p q nv)]) ∧ PsU lo g ua us x (kpL x.p q nv) wr w' := by
  have HO := Lib.hid ho
  have HLW := Lib.hid hlw
  have HRB := Lib.hid hrs
  have HRS := Lib.hid (rs_iff.1 hrs)
  have HQ := Lib.hid hq
  have HV := Lib.hid hv
  have HGS := Lib.hid hgs
  have HGV := Lib.hid hgv
  have HRV := Lib.hid (Cs.rg hgv)
  have HKL : Hid (kpL x.p q nv = if nv = 0 then dlX x.p q.cod else ptL x.p ⟨q.addr, q.key, nv⟩) := Lib.hid rfl
  have HKB : Hid (kpB x.p q nv = if nv = 0 then false else ptB x.p ⟨q.addr, q.key, nv⟩) := Lib.hid rfl
  have HKE : Hid (kpE x.p q nv = if nv = 0 then 0 else ptE x.p ⟨q.addr, q.key, nv⟩) := Lib.hid rfl
  obtain ⟨A0, c0, e0, _, _⟩ := ho.2.2.2.sl
  obtain ⟨n0, hn0⟩ : ∃ n, x.p.length = n := ⟨_, rfl⟩
  rw [hn0] at e0
  subst e0
  clear ho hlw hrs hq hgs hgv hn0
  by_cases h0 : nv = 0
  · have f0 : (nv == 0) = true := by rw [beq_iff_eq]; exact h0
    have HZ := Lib.hid f0
    have HKL := Lib.hid (show kpL x.p q nv = dlX x.p q.cod by rw [HKL.out, if_pos h0])
    have HKB := Lib.hid (show kpB x.p q nv = false by rw [HKB.out, if_pos h0])
    have HKE := Lib.hid (show kpE x.p q nv = 0 by rw [HKE.out, if_pos h0])
    clear f0 h0
    go_enter Try.func64, Try.ntmps64
    go_upto_region 2 with (first
      | ((with_reducible refine wpList_load_wordIn ?_ (.tmp 1) ?_ gv 0 nv ?_ ?_ ?_); (exact rfl); (exact rfl); (exact rfl); (exact HRV.out))
      | ((with_reducible refine wpList_eql_word ?_ (.tmp 6) (.tmp 7) ?_ nv 0 HV.out (by decide) ?_ ?_ ?_); (exact rfl); (exact rfl); (exact rfl); (exact rfl); rw [HZ.out]))
    refine wp_named fun a0 ha0 => ?_
    obtain ⟨fr, hfr⟩ : ∃ fr : (Nat → Value) → Act, ∀ V, fr V = (((((((((a0.put (some 9) (V 0)).put (some 10) (V 1)).put (some 11) (V 2)).put (some 12) (V 3)).put (some 13) (V 4)).put (some 14) (V 5)).put (some 15) (V 6)).put (some 16) (V 7)).put (some 17) (V 8)) := ⟨fun V => (((((((((a0.put (some 9) (V 0)).put (some 10) (V 1)).put (some 11) (V 2)).put (some 12) (V 3)).put (some 13) (V 4)).put (some 14) (V 5)).put (some 15) (V 6)).put (some 16) (V 7)).put (some 17) (V 8)), fun _ => rfl⟩
    rw [ha0] at hfr
    simp only [Act.put, List.setIfInBounds_toArray, List.set_cons_zero, List.set_cons_succ] at hfr
    have HFR := Lib.hid hfr
    clear hfr
    refine wp_region_inv (by kernel_rfl) (by kernel_rfl) (fun L A W => ∃ V : Nat → Value, A = fr V ∧ Vals (fun j => ([some (.pointer (some ⟨g, 0, none⟩)), some (.pointer (some ⟨g, 0, none⟩)), some (.pointer (some ⟨g, 0, none⟩)), some (.pointer (some ⟨g, 2, none⟩)), some (.slice A0 n0 c0), some (.agg (cS q)), none, some (.pointer (some ⟨g, 0, none⟩)), some (.pointer (some ⟨g, 2, none⟩)), none] : List (Option Value)).getD j none) L V ∧ (L 6 = false → (AxO lo g W ua us (.slice A0 n0 c0) x ∧ lo ≤ W.heap.size) ∧ Ext wr W ∧ Cs W gs 32 (cS q) ∧ Cs W gv 30 (wc nv)) ∧ (L 6 = true → L 9 = false → PsK lo g ua us (.slice A0 n0 c0) x (dlX x.p q.cod) wr W (V 6)) ∧ (L 9 = true → PsU lo g ua us x (dlX x.p q.cod) wr W) ∧ (L 6 = true → (∃ A c, (V 6) = .slice A (dlX x.p q.cod).length c ∧ (V 6) = .slice A (dlX x.p q.cod).length c))) ?_ ⟨?_, ?_, ?_, ?_, ?_, ?_, ?_, ?_, ?_, ?_, trivial⟩ ?_
    · refine ⟨fun j => a0.tmps.getD (([9, 10, 11, 12, 13, 14, 15, 16, 17, 0] : List Nat).getD j 0) undef, ?_, Vals.no _ _ _ (far_none _ _ rfl), fun _ => ⟨⟨HO.out.ext (Ext.refl _).drew, by have := HLW.out; simpa using this⟩, (Ext.refl _).drew, Cs.ext HGS.out (Ext.refl _).drew, Cs.ext HGV.out (Ext.refl _).drew⟩, fun h0 h1 => absurd h0 (by decide), fun h0 => absurd h0 (by decide), fun h0 => absurd h0 (by decide)⟩
      rw [HFR.out, ha0]
      rfl
    all_goals clear ha0
    · rintro L A W K hL hC hW ⟨V, rfl, HV, s0, s1, s2, f6⟩ hK
      have H := Lib.hid (show ∀ W', Ext W W' → K (fr (upd V 0 (.pointer (some ⟨g, 0, none⟩)))) W' from fun W' he => hK _ _ ⟨upd V 0 (.pointer (some ⟨g, 0, none⟩)), rfl, HV.up 0 _ (fun x hx => Option.some.inj hx), fun h0 => PsV.ext (s0 (by unfold More at h0; rwa [if_neg (by decide)] at h0)) he, fun h0 h1 => PsK.ext HLW.out (s1 (more_ne h0 rfl) (by unfold More at h1; rwa [if_neg (by decide)] at h1)) he, fun h0 => PsU.ext HLW.out (s2 (more_ne h0 rfl)) he, fun h0 => keepQ (f6 (more_ne h0 rfl)) he⟩)
      clear hK hC hW hL HV s0 s1 s2 f6
      rw [HFR.out]
      go_wp2_with fail
      show K _ _
      have := H.out _ (Ext.refl _)
      rw [HFR.out] at this
      exact this
    · rintro L A W K hL hC hW ⟨V, rfl, HV, s0, s1, s2, f6⟩ hK
      have H := Lib.hid (show ∀ W', Ext W W' → K (fr (upd V 1 (.pointer (some ⟨g, 0, none⟩)))) W' from fun W' he => hK _ _ ⟨upd V 1 (.pointer (some ⟨g, 0, none⟩)), rfl, HV.up 1 _ (fun x hx => Option.some.inj hx), fun h0 => PsV.ext (s0 (by unfold More at h0; rwa [if_neg (by decide)] at h0)) he, fun h0 h1 => PsK.ext HLW.out (s1 (more_ne h0 rfl) (by unfold More at h1; rwa [if_neg (by decide)] at h1)) he, fun h0 => PsU.ext HLW.out (s2 (more_ne h0 rfl)) he, fun h0 => keepQ (f6 (more_ne h0 rfl)) he⟩)
      clear hK hC hW hL HV s0 s1 s2 f6
      rw [HFR.out]
      go_wp2_with fail
      show K _ _
      have := H.out _ (Ext.refl _)
      rw [HFR.out] at this
      exact this
    · rintro L A W K hL hC hW ⟨V, rfl, HV, s0, s1, s2, f6⟩ hK
      have e1 : V 1 = .pointer (some ⟨g, 0, none⟩) := HV 1 _ rfl (hW 1 rfl)
      have H := Lib.hid (show ∀ W', Ext W W' → K (fr (upd V 2 (.pointer (some ⟨g, 0, none⟩)))) W' from fun W' he => hK _ _ ⟨upd V 2 (.pointer (some ⟨g, 0, none⟩)), rfl, HV.up 2 _ (fun x hx => Option.some.inj hx), fun h0 => PsV.ext (s0 (by unfold More at h0; rwa [if_neg (by decide)] at h0)) he, fun h0 h1 => PsK.ext HLW.out (s1 (more_ne h0 rfl) (by unfold More at h1; rwa [if_neg (by decide)] at h1)) he, fun h0 => PsU.ext HLW.out (s2 (more_ne h0 rfl)) he, fun h0 => keepQ (f6 (more_ne h0 rfl)) he⟩)
      have HU := Lib.hid (show (upd V 2 (.pointer (some ⟨g, 0, none⟩))) 1 = .pointer (some ⟨g, 0, none⟩) from e1)
      clear hK hC hW hL HV s0 s1 s2 f6
      rw [HFR.out]
      rw [e1]
      clear e1
      go_wp2_with fail
      show K _ _
      have := H.out _ (Ext.refl _)
      rw [HFR.out] at this
      obtain u1 := HU.out
      rw [u1] at this
      exact this
    · rintro L A W K hL hC hW ⟨V, rfl, HV, s0, s1, s2, f6⟩ hK
      have e2 : V 2 = .pointer (some ⟨g, 0, none⟩) := HV 2 _ rfl (hW 2 rfl)
      have H := Lib.hid (show ∀ W', Ext W W' → K (fr (upd V 3 (.pointer (some ⟨g, 2, none⟩)))) W' from fun W' he => hK _ _ ⟨upd V 3 (.pointer (some ⟨g, 2, none⟩)), rfl, HV.up 3 _ (fun x hx => Option.some.inj hx), fun h0 => PsV.ext (s0 (by unfold More at h0; rwa [if_neg (by decide)] at h0)) he, fun h0 h1 => PsK.ext HLW.out (s1 (more_ne h0 rfl) (by unfold More at h1; rwa [if_neg (by decide)] at h1)) he, fun h0 => PsU.ext HLW.out (s2 (more_ne h0 rfl)) he, fun h0 => keepQ (f6 (more_ne h0 rfl)) he⟩)
      have HU := Lib.hid (show (upd V 3 (.pointer (some ⟨g, 2, none⟩))) 2 = .pointer (some ⟨g, 0, none⟩) from e2)
      clear hK hC hW hL HV s0 s1 s2 f6
      rw [HFR.out]
      rw [e2]
      clear e2
      go_wp2_with fail
      show K _ _
      have := H.out _ (Ext.refl _)
      rw [HFR.out] at this
      obtain u2 := HU.out
      rw [u2] at this
      exact this
    · rintro L A W K hL hC hW ⟨V, rfl, HV, s0, s1, s2, f6⟩ hK
      have e3 : V 3 = .pointer (some ⟨g, 2, none⟩) := HV 3 _ rfl (hW 3 rfl)
      have hB := s0 (hC.no hL 6 _ rfl rfl)
      have H := Lib.hid (show ∀ W', Ext W W' → K (fr (upd V 4 (.slice A0 n0 c0))) W' from fun W' he => hK _ _ ⟨upd V 4 (.slice A0 n0 c0), rfl, HV.up 4 _ (fun x hx => Option.some.inj hx), fun h0 => PsV.ext (s0 (by unfold More at h0; rwa [if_neg (by decide)] at h0)) he, fun h0 h1 => PsK.ext HLW.out (s1 (more_ne h0 rfl) (by unfold More at h1; rwa [if_neg (by decide)] at h1)) he, fun h0 => PsU.ext HLW.out (s2 (more_ne h0 rfl)) he, fun h0 => keepQ (f6 (more_ne h0 rfl)) he⟩)
      have HU := Lib.hid (show (upd V 4 (.slice A0 n0 c0)) 3 = .pointer (some ⟨g, 2, none⟩) from e3)
      clear hK hC hW hL HV s0 s1 s2 f6
      rw [HFR.out]
      rw [e3]
      clear e3
      have hcl := hB.1.1.1.1.cell 2 _ rfl
      clear hB
      go_wp2_with fail
      show K _ _
      have := H.out _ (Ext.refl _)
      rw [HFR.out] at this
      obtain u3 := HU.out
      rw [u3] at this
      exact this
    · rintro L A W K hL hC hW ⟨V, rfl, HV, s0, s1, s2, f6⟩ hK
      have hB := s0 (hC.no hL 6 _ rfl rfl)
      have H := Lib.hid (show ∀ W', Ext W W' → K (fr (upd V 5 (.agg (cS q)))) W' from fun W' he => hK _ _ ⟨upd V 5 (.agg (cS q)), rfl, HV.up 5 _ (fun x hx => Option.some.inj hx), fun h0 => PsV.ext (s0 (by unfold More at h0; rwa [if_neg (by decide)] at h0)) he, fun h0 h1 => PsK.ext HLW.out (s1 (more_ne h0 rfl) (by unfold More at h1; rwa [if_neg (by decide)] at h1)) he, fun h0 => PsU.ext HLW.out (s2 (more_ne h0 rfl)) he, fun h0 => keepQ (f6 (more_ne h0 rfl)) he⟩)
      clear hK hC hW hL HV s0 s1 s2 f6
      rw [HFR.out]
      have HWD := Lib.hid (Cs.rg hB.2.2.1)
      clear hB
      refine wpList_loadS rfl (.tmp 2) rfl gs 0 q rfl HWD.out ?_
      show K _ _
      have := H.out _ (Ext.refl _)
      rw [HFR.out] at this
      exact this
    · rintro L A W K hL hC hW ⟨V, rfl, HV, s0, s1, s2, f6⟩ hK
      have e4 : V 4 = .slice A0 n0 c0 := HV 4 _ rfl (hW 4 rfl)
      have e5 : V 5 = .agg (cS q) := HV 5 _ rfl (hW 5 rfl)
      have hB := s0 hL
      have H := Lib.hid (show ∀ v W', (PsK lo g ua us (.slice A0 n0 c0) x (dlX x.p q.cod) wr W' v) → ((∃ A c, v = .slice A (dlX x.p q.cod).length c ∧ v = .slice A (dlX x.p q.cod).length c)) → K (fr (upd V 6 v)) W' from fun v W' hA hp => hK _ _ ⟨upd V 6 v, rfl, HV.up 6 _ (fun x hx => absurd hx (by intro h; cases h)), fun h0 => absurd h0 (by unfold More; rw [if_pos rfl]; simp), fun h0 h1 => hA, fun h0 => absurd (more_ne h0 rfl) (by rw [(hC.no hL 9 _ rfl rfl)]; simp), fun h0 => hp⟩)
      have HU := Lib.hid (show ∀ v, (upd V 6 v) 4 = .slice A0 n0 c0 ∧ (upd V 6 v) 5 = .agg (cS q) from fun v => ⟨e4, e5⟩)
      clear hK hC hW hL HV s0 s1 s2 f6
      rw [HFR.out]
      rw [e4, e5]
      clear e4 e5
      have HB := Lib.hid hB
      clear hB
      go_wp2_with fail
      refine (without_any _ x.p q lo _ HB.out.1.1.2.2.2 HRS.out.2 (by have := HRS.out.1; omega) HQ.out HB.out.1.2).mono ?_
      rintro e wx ⟨v5, rfl, ho, hg⟩
      obtain ⟨A5, c5, e5, _, _⟩ := ho.sl
      subst e5
      have HAA := Lib.hid (HB.out.1.1.putP HB.out.1.2 ho hg)
      have HBB := Lib.hid (Below.trans (Below.mono HB.out.2.1 HLW.out) HAA.out.2.2.2.2)
      have HA := Lib.hid (show PsK lo g ua us (.slice A0 n0 c0) x (dlX x.p q.cod) wr wx (.slice A5 (dlX x.p q.cod).length c5) from ⟨A5, c5, rfl, ⟨HAA.out.1, HAA.out.2.1, HAA.out.2.2.1, HAA.out.2.2.2.1⟩, HBB.out⟩)
      have HP : Hid (∃ A c, Value.slice A5 (dlX x.p q.cod).length c5 = .slice A (dlX x.p q.cod).length c ∧ Value.slice A5 (dlX x.p q.cod).length c5 = .slice A (dlX x.p q.cod).length c) := Lib.hid ⟨A5, c5, rfl, rfl⟩
      clear ho hg HAA HBB
      go_wp2_with fail
      show K _ _
      have := H.out _ _ HA.out HP.out
      rw [HFR.out] at this
      obtain ⟨u4, u5⟩ := HU.out _
      rw [u4, u5] at this
      exact this
    · rintro L A W K hL hC hW ⟨V, rfl, HV, s0, s1, s2, f6⟩ hK
      have e0 : V 0 = .pointer (some ⟨g, 0, none⟩) := HV 0 _ rfl (hW 0 rfl)
      have H := Lib.hid (show ∀ W', Ext W W' → K (fr (upd V 7 (.pointer (some ⟨g, 0, none⟩)))) W' from fun W' he => hK _ _ ⟨upd V 7 (.pointer (some ⟨g, 0, none⟩)), rfl, HV.up 7 _ (fun x hx => Option.some.inj hx), fun h0 => PsV.ext (s0 (by unfold More at h0; rwa [if_neg (by decide)] at h0)) he, fun h0 h1 => PsK.ext HLW.out (s1 (more_ne h0 rfl) (by unfold More at h1; rwa [if_neg (by decide)] at h1)) he, fun h0 => PsU.ext HLW.out (s2 (more_ne h0 rfl)) he, fun h0 => keepQ (f6 (more_ne h0 rfl)) he⟩)
      have HU := Lib.hid (show (upd V 7 (.pointer (some ⟨g, 0, none⟩))) 0 = .pointer (some ⟨g, 0, none⟩) from e0)
      clear hK hC hW hL HV s0 s1 s2 f6
      rw [HFR.out]
      rw [e0]
      clear e0
      go_wp2_with fail
      show K _ _
      have := H.out _ (Ext.refl _)
      rw [HFR.out] at this
      obtain u0 := HU.out
      rw [u0] at this
      exact this
    · rintro L A W K hL hC hW ⟨V, rfl, HV, s0, s1, s2, f6⟩ hK
      have e7 : V 7 = .pointer (some ⟨g, 0, none⟩) := HV 7 _ rfl (hW 7 rfl)
      have H := Lib.hid (show ∀ W', Ext W W' → K (fr (upd V 8 (.pointer (some ⟨g, 2, none⟩)))) W' from fun W' he => hK _ _ ⟨upd V 8 (.pointer (some ⟨g, 2, none⟩)), rfl, HV.up 8 _ (fun x hx => Option.some.inj hx), fun h0 => PsV.ext (s0 (by unfold More at h0; rwa [if_neg (by decide)] at h0)) he, fun h0 h1 => PsK.ext HLW.out (s1 (more_ne h0 rfl) (by unfold More at h1; rwa [if_neg (by decide)] at h1)) he, fun h0 => PsU.ext HLW.out (s2 (more_ne h0 rfl)) he, fun h0 => keepQ (f6 (more_ne h0 rfl)) he⟩)
      have HU := Lib.hid (show (upd V 8 (.pointer (some ⟨g, 2, none⟩))) 7 = .pointer (some ⟨g, 0, none⟩) from e7)
      clear hK hC hW hL HV s0 s1 s2 f6
      rw [HFR.out]
      rw [e7]
      clear e7
      go_wp2_with fail
      show K _ _
      have := H.out _ (Ext.refl _)
      rw [HFR.out] at this
      obtain u7 := HU.out
      rw [u7] at this
      exact this
    · rintro L A W K hL hC hW ⟨V, rfl, HV, s0, s1, s2, f6⟩ hK
      have e8 : V 8 = .pointer (some ⟨g, 2, none⟩) := HV 8 _ rfl (hW 8 rfl)
      have hB := s1 (hW 6 rfl) hL
      have q6 := f6 (hW 6 rfl)
      obtain ⟨A6, c6, k6, e6⟩ := q6
      have H := Lib.hid (show ∀ W', (PsU lo g ua us x (dlX x.p q.cod) wr W') → K (fr (V)) W' from fun W' hA => hK _ _ ⟨V, rfl, HV.st 9 rfl, fun h0 => absurd (show L 6 = false by unfold More at h0; rwa [if_neg (by decide)] at h0) (by rw [(hW 6 rfl)]; simp), fun h0 h1 => absurd h1 (by unfold More; rw [if_pos rfl]; simp), fun h0 => hA, fun h0 => (f6 (more_ne h0 rfl))⟩)
      have HU := Lib.hid (show (V) 8 = .pointer (some ⟨g, 2, none⟩) ∧ (V) 6 = .slice A6 (dlX x.p q.cod).length c6 from ⟨e8, e6⟩)
      clear hK hC hW hL HV s0 s1 s2 f6
      rw [HFR.out]
      rw [e8, e6]
      clear e8 e6
      obtain ⟨A7, c7, e7, h7, hb7⟩ := hB
      rw [k6] at e7
      injection e7 with e7 _ e8
      subst e7 e8
      have HB := Lib.hid h7
      have HBB := Lib.hid hb7
      have hc : W.cell? ⟨g, 2, none⟩ = some (.slice A0 n0 c0) := h7.1.1.cell 2 _ rfl
      have hf : W.frozen? ⟨g, 2, none⟩ = false := h7.1.1.frozen 2
      clear h7 hb7 k6
      go_wp2_with fail
      have HA := Lib.hid (show PsU lo g ua us x (dlX x.p q.cod) wr (W.setCell ⟨g, 2, none⟩ (.slice A6 (dlX x.p q.cod).length c6)) from ⟨_, AxO.setP HB.out, Below.trans HBB.out (below_grown (by have := HBB.out.size; have := HLW.out; omega) (grown_set _ _ _ _) (fun j hj => by injection hj with hj; have := HB.out.1.2; omega))⟩)
      show K _ _
      have := H.out _ HA.out
      rw [HFR.out] at this
      obtain ⟨u8, u6⟩ := HU.out
      rw [u8, u6] at this
      exact this
    · rintro L A W hL ⟨V, rfl, HV, s0, s1, s2, f6⟩
      have e0 : V 0 = .pointer (some ⟨g, 0, none⟩) := HV 0 _ rfl (hL 0 (by simp))
      have e1 : V 1 = .pointer (some ⟨g, 0, none⟩) := HV 1 _ rfl (hL 1 (by simp))
      have e2 : V 2 = .pointer (some ⟨g, 0, none⟩) := HV 2 _ rfl (hL 2 (by simp))
      have e3 : V 3 = .pointer (some ⟨g, 2, none⟩) := HV 3 _ rfl (hL 3 (by simp))
      have e4 : V 4 = .slice A0 n0 c0 := HV 4 _ rfl (hL 4 (by simp))
      have e5 : V 5 = .agg (cS q) := HV 5 _ rfl (hL 5 (by simp))
      have e7 : V 7 = .pointer (some ⟨g, 0, none⟩) := HV 7 _ rfl (hL 7 (by simp))
      have e8 : V 8 = .pointer (some ⟨g, 2, none⟩) := HV 8 _ rfl (hL 8 (by simp))
      have hA := s2 (hL 9 (by simp))
      have p15 := f6 (hL 6 (by simp))
      rw [HFR.out]
      rw [e0, e1, e2, e3, e4, e5, e7, e8]
      clear hL HV HFR e0 e1 e2 e3 e4 e5 e7 e8 s0 s1 s2 f6
      have HAA := Lib.hid hA
      clear hA
      go_wp2_with fail
      refine bodyPost_ret (results_tmp2 rfl _ _ _) rfl ?_
      exact ⟨by rw [HKB.out, HKE.out]; rfl, by rw [HKL.out]; exact HAA.out⟩
  · have f0 : (nv == 0) = false := by rw [beq_eq_false_iff_ne]; exact h0
    have HZ := Lib.hid f0
    have HKL := Lib.hid (show kpL x.p q nv = ptL x.p ⟨q.addr, q.key, nv⟩ by rw [HKL.out, if_neg h0])
    have HKB := Lib.hid (show kpB x.p q nv = ptB x.p ⟨q.addr, q.key, nv⟩ by rw [HKB.out, if_neg h0])
    have HKE := Lib.hid (show kpE x.p q nv = ptE x.p ⟨q.addr, q.key, nv⟩ by rw [HKE.out, if_neg h0])
    have HQV := Lib.hid (show okP ⟨q.addr, q.key, nv⟩ from ⟨HQ.out.1, HQ.out.2.1, HV.out⟩)
    clear f0 h0
    go_enter Try.func64, Try.ntmps64
    go_upto_region 4 with (first
      | ((with_reducible refine wpList_load_wordIn ?_ (.tmp 1) ?_ gv 0 nv ?_ ?_ ?_); (exact rfl); (exact rfl); (exact rfl); (exact HRV.out))
      | ((with_reducible refine wpList_eql_word ?_ (.tmp 6) (.tmp 7) ?_ nv 0 HV.out (by decide) ?_ ?_ ?_); (exact rfl); (exact rfl); (exact rfl); (exact rfl); rw [HZ.out]))
    refine wp_named fun a0 ha0 => ?_
    obtain ⟨fr, hfr⟩ : ∃ fr : (Nat → Value) → Act, ∀ V, fr V = (((((((((((((((((a0.put (some 19) (V 0)).put (some 20) (V 1)).put (some 21) (V 2)).put (some 22) (V 3)).put (some 23) (V 4)).put (some 24) (V 5)).put (some 25) (V 6)).put (some 26) (V 7)).put (some 27) (V 8)).put (some 18) (V 9)).put (some 28) (V 10)).put (some 29) (V 11)).put (some 30) (V 12)).put (some 31) (V 13)).put (some 32) (V 14)).put (some 4) (V 16)).put (some 5) (V 17)) := ⟨fun V => (((((((((((((((((a0.put (some 19) (V 0)).put (some 20) (V 1)).put (some 21) (V 2)).put (some 22) (V 3)).put (some 23) (V 4)).put (some 24) (V 5)).put (some 25) (V 6)).put (some 26) (V 7)).put (some 27) (V 8)).put (some 18) (V 9)).put (some 28) (V 10)).put (some 29) (V 11)).put (some 30) (V 12)).put (some 31) (V 13)).put (some 32) (V 14)).put (some 4) (V 16)).put (some 5) (V 17)), fun _ => rfl⟩
    rw [ha0] at hfr
    simp only [Act.put, List.setIfInBounds_toArray, List.set_cons_zero, List.set_cons_succ] at hfr
    have HFR := Lib.hid hfr
    clear hfr
    refine wp_region_inv (by kernel_rfl) (by kernel_rfl) (fun L A W => ∃ V : Nat → Value, A = fr V ∧ Vals (fun j => ([some (.pointer (some ⟨g, 0, none⟩)), some (.pointer (some ⟨g, 0, none⟩)), some (.pointer (some ⟨g, 0, none⟩)), some (.pointer (some ⟨g, 2, none⟩)), some (.slice A0 n0 c0), some (.agg (cS q)), some (wv nv), some (.agg (cP (⟨q.addr, q.key, nv⟩ : Pe))), none, none, none, some (.bool (ptB x.p (⟨q.addr, q.key, nv⟩ : Pe))), some (.int .i64 (ptE x.p (⟨q.addr, q.key, nv⟩ : Pe))), some (.pointer (some ⟨g, 0, none⟩)), some (.pointer (some ⟨g, 2, none⟩)), none, some (.bool (ptB x.p (⟨q.addr, q.key, nv⟩ : Pe))), some (.int .i64 (ptE x.p (⟨q.addr, q.key, nv⟩ : Pe)))] : List (Option Value)).getD j none) L V ∧ (L 8 = false → (AxO lo g W ua us (.slice A0 n0 c0) x ∧ lo ≤ W.heap.size) ∧ Ext wr W ∧ Cs W gs 32 (cS q) ∧ Cs W gv 30 (wc nv)) ∧ (L 8 = true → L 15 = false → PsW lo g ua us (.slice A0 n0 c0) x q nv wr W (V 8)) ∧ (L 15 = true → PsU lo g ua us x (ptL x.p (⟨q.addr, q.key, nv⟩ : Pe)) wr W) ∧ (L 8 = true → PtW x.p q nv (V 8)) ∧ (L 9 = true → ((V 9) = V 8 ∧ PtW x.p q nv (V 9))) ∧ (L 10 = true → (∃ A c, V 8 = .tuple #[.slice A (ptL x.p (⟨q.addr, q.key, nv⟩ : Pe)).length c, .bool (ptB x.p (⟨q.addr, q.key, nv⟩ : Pe)), .int .i64 (ptE x.p (⟨q.addr, q.key, nv⟩ : Pe))] ∧ (V 10) = .slice A (ptL x.p (⟨q.addr, q.key, nv⟩ : Pe)).length c))) ?_ ⟨?_, ?_, ?_, ?_, ?_, ?_, ?_, ?_, ?_, ?_, ?_, ?_, ?_, ?_, ?_, ?_, ?_, ?_, trivial⟩ ?_
    · refine ⟨fun j => a0.tmps.getD (([19, 20, 21, 22, 23, 24, 25, 26, 27, 18, 28, 29, 30, 31, 32, 0, 4, 5] : List Nat).getD j 0) undef, ?_, Vals.no _ _ _ (far_none _ _ rfl), fun _ => ⟨⟨HO.out.ext (Ext.refl _).drew, by have := HLW.out; simpa using this⟩, (Ext.refl _).drew, Cs.ext HGS.out (Ext.refl _).drew, Cs.ext HGV.out (Ext.refl _).drew⟩, fun h0 h1 => absurd h0 (by decide), fun h0 => absurd h0 (by decide), fun h0 => absurd h0 (by decide), fun h0 => absurd h0 (by decide), fun h0 => absurd h0 (by decide)⟩
      rw [HFR.out, ha0]
      rfl
    all_goals clear ha0
    · rintro L A W K hL hC hW ⟨V, rfl, HV, s0, s1, s2, f8, f9, f10⟩ hK
      have H := Lib.hid (show ∀ W', Ext W W' → K (fr (upd V 0 (.pointer (some ⟨g, 0, none⟩)))) W' from fun W' he => hK _ _ ⟨upd V 0 (.pointer (some ⟨g, 0, none⟩)), rfl, HV.up 0 _ (fun x hx => Option.some.inj hx), fun h0 => PsV.ext (s0 (by unfold More at h0; rwa [if_neg (by decide)] at h0)) he, fun h0 h1 => PsW.ext HLW.out (s1 (more_ne h0 rfl) (by unfold More at h1; rwa [if_neg (by decide)] at h1)) he, fun h0 => PsU.ext HLW.out (s2 (more_ne h0 rfl)) he, fun h0 => keepQ (f8 (more_ne h0 rfl)) he, fun h0 => keepQ (f9 (more_ne h0 rfl)) he, fun h0 => keepQ (f10 (more_ne h0 rfl)) he⟩)
      clear hK hC hW hL HV s0 s1 s2 f8 f9 f10
      rw [HFR.out]
      go_wp2_with fail
      show K _ _
      have := H.out _ (Ext.refl _)
      rw [HFR.out] at this
      exact this
    · rintro L A W K hL hC hW ⟨V, rfl, HV, s0, s1, s2, f8, f9, f10⟩ hK
      have H := Lib.hid (show ∀ W', Ext W W' → K (fr (upd V 1 (.pointer (some ⟨g, 0, none⟩)))) W' from fun W' he => hK _ _ ⟨upd V 1 (.pointer (some ⟨g, 0, none⟩)), rfl, HV.up 1 _ (fun x hx => Option.some.inj hx), fun h0 => PsV.ext (s0 (by unfold More at h0; rwa [if_neg (by decide)] at h0)) he, fun h0 h1 => PsW.ext HLW.out (s1 (more_ne h0 rfl) (by unfold More at h1; rwa [if_neg (by decide)] at h1)) he, fun h0 => PsU.ext HLW.out (s2 (more_ne h0 rfl)) he, fun h0 => keepQ (f8 (more_ne h0 rfl)) he, fun h0 => keepQ (f9 (more_ne h0 rfl)) he, fun h0 => absurd (more_ne h0 rfl) (by rw [(hC.no (hC.no (hC.no (hC.no (hC.no (hC.no hL 2 _ rfl rfl) 3 _ rfl rfl) 4 _ rfl rfl) 8 _ rfl rfl) 9 _ rfl rfl) 10 _ rfl rfl)]; simp)⟩)
      clear hK hC hW hL HV s0 s1 s2 f8 f9 f10
      rw [HFR.out]
      go_wp2_with fail
      show K _ _
      have := H.out _ (Ext.refl _)
      rw [HFR.out] at this
      exact this
    · rintro L A W K hL hC hW ⟨V, rfl, HV, s0, s1, s2, f8, f9, f10⟩ hK
      have e1 : V 1 = .pointer (some ⟨g, 0, none⟩) := HV 1 _ rfl (hW 1 rfl)
      have H := Lib.hid (show ∀ W', Ext W W' → K (fr (upd V 2 (.pointer (some ⟨g, 0, none⟩)))) W' from fun W' he => hK _ _ ⟨upd V 2 (.pointer (some ⟨g, 0, none⟩)), rfl, HV.up 2 _ (fun x hx => Option.some.inj hx), fun h0 => PsV.ext (s0 (by unfold More at h0; rwa [if_neg (by decide)] at h0)) he, fun h0 h1 => PsW.ext HLW.out (s1 (more_ne h0 rfl) (by unfold More at h1; rwa [if_neg (by decide)] at h1)) he, fun h0 => PsU.ext HLW.out (s2 (more_ne h0 rfl)) he, fun h0 => keepQ (f8 (more_ne h0 rfl)) he, fun h0 => keepQ (f9 (more_ne h0 rfl)) he, fun h0 => keepQ (f10 (more_ne h0 rfl)) he⟩)
      have HU := Lib.hid (show (upd V 2 (.pointer (some ⟨g, 0, none⟩))) 1 = .pointer (some ⟨g, 0, none⟩) from e1)
      clear hK hC hW hL HV s0 s1 s2 f8 f9 f10
      rw [HFR.out]
      rw [e1]
      clear e1
      go_wp2_with fail
      show K _ _
      have := H.out _ (Ext.refl _)
      rw [HFR.out] at this
      obtain u1 := HU.out
      rw [u1] at this
      exact this
    · rintro L A W K hL hC hW ⟨V, rfl, HV, s0, s1, s2, f8, f9, f10⟩ hK
      have e2 : V 2 = .pointer (some ⟨g, 0, none⟩) := HV 2 _ rfl (hW 2 rfl)
      have H := Lib.hid (show ∀ W', Ext W W' → K (fr (upd V 3 (.pointer (some ⟨g, 2, none⟩)))) W' from fun W' he => hK _ _ ⟨upd V 3 (.pointer (some ⟨g, 2, none⟩)), rfl, HV.up 3 _ (fun x hx => Option.some.inj hx), fun h0 => PsV.ext (s0 (by unfold More at h0; rwa [if_neg (by decide)] at h0)) he, fun h0 h1 => PsW.ext HLW.out (s1 (more_ne h0 rfl) (by unfold More at h1; rwa [if_neg (by decide)] at h1)) he, fun h0 => PsU.ext HLW.out (s2 (more_ne h0 rfl)) he, fun h0 => keepQ (f8 (more_ne h0 rfl)) he, fun h0 => keepQ (f9 (more_ne h0 rfl)) he, fun h0 => keepQ (f10 (more_ne h0 rfl)) he⟩)
      have HU := Lib.hid (show (upd V 3 (.pointer (some ⟨g, 2, none⟩))) 2 = .pointer (some ⟨g, 0, none⟩) from e2)
      clear hK hC hW hL HV s0 s1 s2 f8 f9 f10
      rw [HFR.out]
      rw [e2]
      clear e2
      go_wp2_with fail
      show K _ _
      have := H.out _ (Ext.refl _)
      rw [HFR.out] at this
      obtain u2 := HU.out
      rw [u2] at this
      exact this
    · rintro L A W K hL hC hW ⟨V, rfl, HV, s0, s1, s2, f8, f9, f10⟩ hK
      have e3 : V 3 = .pointer (some ⟨g, 2, none⟩) := HV 3 _ rfl (hW 3 rfl)
      have hB := s0 (hC.no hL 8 _ rfl rfl)
      have H := Lib.hid (show ∀ W', Ext W W' → K (fr (upd V 4 (.slice A0 n0 c0))) W' from fun W' he => hK _ _ ⟨upd V 4 (.slice A0 n0 c0), rfl, HV.up 4 _ (fun x hx => Option.some.inj hx), fun h0 => PsV.ext (s0 (by unfold More at h0; rwa [if_neg (by decide)] at h0)) he, fun h0 h1 => PsW.ext HLW.out (s1 (more_ne h0 rfl) (by unfold More at h1; rwa [if_neg (by decide)] at h1)) he, fun h0 => PsU.ext HLW.out (s2 (more_ne h0 rfl)) he, fun h0 => keepQ (f8 (more_ne h0 rfl)) he, fun h0 => keepQ (f9 (more_ne h0 rfl)) he, fun h0 => keepQ (f10 (more_ne h0 rfl)) he⟩)
      have HU := Lib.hid (show (upd V 4 (.slice A0 n0 c0)) 3 = .pointer (some ⟨g, 2, none⟩) from e3)
      clear hK hC hW hL HV s0 s1 s2 f8 f9 f10
      rw [HFR.out]
      rw [e3]
      clear e3
      have hcl := hB.1.1.1.1.cell 2 _ rfl
      clear hB
      go_wp2_with fail
      show K _ _
      have := H.out _ (Ext.refl _)
      rw [HFR.out] at this
      obtain u3 := HU.out
      rw [u3] at this
      exact this
    · rintro L A W K hL hC hW ⟨V, rfl, HV, s0, s1, s2, f8, f9, f10⟩ hK
      have hB := s0 (hC.no (hC.no hL 7 _ rfl rfl) 8 _ rfl rfl)
      have H := Lib.hid (show ∀ W', Ext W W' → K (fr (upd V 5 (.agg (cS q)))) W' from fun W' he => hK _ _ ⟨upd V 5 (.agg (cS q)), rfl, HV.up 5 _ (fun x hx => Option.some.inj hx), fun h0 => PsV.ext (s0 (by unfold More at h0; rwa [if_neg (by decide)] at h0)) he, fun h0 h1 => PsW.ext HLW.out (s1 (more_ne h0 rfl) (by unfold More at h1; rwa [if_neg (by decide)] at h1)) he, fun h0 => PsU.ext HLW.out (s2 (more_ne h0 rfl)) he, fun h0 => keepQ (f8 (more_ne h0 rfl)) he, fun h0 => keepQ (f9 (more_ne h0 rfl)) he, fun h0 => keepQ (f10 (more_ne h0 rfl)) he⟩)
      clear hK hC hW hL HV s0 s1 s2 f8 f9 f10
      rw [HFR.out]
      have HWD := Lib.hid (Cs.rg hB.2.2.1)
      clear hB
      refine wpList_loadS rfl (.tmp 2) rfl gs 0 q rfl HWD.out ?_
      show K _ _
      have := H.out _ (Ext.refl _)
      rw [HFR.out] at this
      exact this
    · rintro L A W K hL hC hW ⟨V, rfl, HV, s0, s1, s2, f8, f9, f10⟩ hK
      have hB := s0 (hC.no (hC.no hL 7 _ rfl rfl) 8 _ rfl rfl)
      have H := Lib.hid (show ∀ W', Ext W W' → K (fr (upd V 6 (wv nv))) W' from fun W' he => hK _ _ ⟨upd V 6 (wv nv), rfl, HV.up 6 _ (fun x hx => Option.some.inj hx), fun h0 => PsV.ext (s0 (by unfold More at h0; rwa [if_neg (by decide)] at h0)) he, fun h0 h1 => PsW.ext HLW.out (s1 (more_ne h0 rfl) (by unfold More at h1; rwa [if_neg (by decide)] at h1)) he, fun h0 => PsU.ext HLW.out (s2 (more_ne h0 rfl)) he, fun h0 => keepQ (f8 (more_ne h0 rfl)) he, fun h0 => keepQ (f9 (more_ne h0 rfl)) he, fun h0 => keepQ (f10 (more_ne h0 rfl)) he⟩)
      clear hK hC hW hL HV s0 s1 s2 f8 f9 f10
      rw [HFR.out]
      have HWD := Lib.hid (Cs.rg hB.2.2.2)
      clear hB
      refine wpList_load_wordIn rfl (.tmp 1) rfl gv 0 nv rfl HWD.out ?_
      show K _ _
      have := H.out _ (Ext.refl _)
      rw [HFR.out] at this
      exact this
    · rintro L A W K hL hC hW ⟨V, rfl, HV, s0, s1, s2, f8, f9, f10⟩ hK
      have e5 : V 5 = .agg (cS q) := HV 5 _ rfl (hW 5 rfl)
      have e6 : V 6 = wv nv := HV 6 _ rfl (hW 6 rfl)
      have hB := s0 (hC.no hL 8 _ rfl rfl)
      have H := Lib.hid (show ∀ W', Ext W W' → K (fr (upd V 7 (.agg (cP (⟨q.addr, q.key, nv⟩ : Pe))))) W' from fun W' he => hK _ _ ⟨upd V 7 (.agg (cP (⟨q.addr, q.key, nv⟩ : Pe))), rfl, HV.up 7 _ (fun x hx => Option.some.inj hx), fun h0 => PsV.ext (s0 (by unfold More at h0; rwa [if_neg (by decide)] at h0)) he, fun h0 h1 => PsW.ext HLW.out (s1 (more_ne h0 rfl) (by unfold More at h1; rwa [if_neg (by decide)] at h1)) he, fun h0 => PsU.ext HLW.out (s2 (more_ne h0 rfl)) he, fun h0 => keepQ (f8 (more_ne h0 rfl)) he, fun h0 => keepQ (f9 (more_ne h0 rfl)) he, fun h0 => keepQ (f10 (more_ne h0 rfl)) he⟩)
      have HU := Lib.hid (show (upd V 7 (.agg (cP (⟨q.addr, q.key, nv⟩ : Pe)))) 5 = .agg (cS q) ∧ (upd V 7 (.agg (cP (⟨q.addr, q.key, nv⟩ : Pe)))) 6 = wv nv from ⟨e5, e6⟩)
      clear hK hC hW hL HV s0 s1 s2 f8 f9 f10
      rw [HFR.out]
      rw [e5, e6]
      clear e5 e6
      clear hB
      go_wp2_with fail
      refine (holding_any q nv _ HQ.out HV.out).mono ?_
      rintro e wx ⟨rfl, he⟩
      have := H.out _ he
      clear H
      go_wp2_with fail
      show K _ _
      rw [HFR.out] at this
      obtain ⟨u5, u6⟩ := HU.out
      rw [u5, u6] at this
      exact this
    · rintro L A W K hL hC hW ⟨V, rfl, HV, s0, s1, s2, f8, f9, f10⟩ hK
      have e4 : V 4 = .slice A0 n0 c0 := HV 4 _ rfl (hW 4 rfl)
      have e7 : V 7 = .agg (cP (⟨q.addr, q.key, nv⟩ : Pe)) := HV 7 _ rfl (hW 7 rfl)
      have hB := s0 hL
      have H := Lib.hid (show ∀ v W', (PsW lo g ua us (.slice A0 n0 c0) x q nv wr W' v) → (PtW x.p q nv v) → K (fr (upd V 8 v)) W' from fun v W' hA hp => hK _ _ ⟨upd V 8 v, rfl, HV.up 8 _ (fun x hx => absurd hx (by intro h; cases h)), fun h0 => absurd h0 (by unfold More; rw [if_pos rfl]; simp), fun h0 h1 => hA, fun h0 => absurd (more_ne h0 rfl) (by rw [(hC.no (hC.no (hC.no hL 9 _ rfl rfl) 10 _ rfl rfl) 15 _ rfl rfl)]; simp), fun h0 => hp, fun h0 => absurd (more_ne h0 rfl) (by rw [hC.no hL 9 _ rfl rfl]; simp), fun h0 => absurd (more_ne h0 rfl) (by rw [hC.no (hC.no hL 9 _ rfl rfl) 10 _ rfl rfl]; simp)⟩)
      have HU := Lib.hid (show ∀ v, (upd V 8 v) 4 = .slice A0 n0 c0 ∧ (upd V 8 v) 7 = .agg (cP (⟨q.addr, q.key, nv⟩ : Pe)) from fun v => ⟨e4, e7⟩)
      clear hK hC hW hL HV s0 s1 s2 f8 f9 f10
      rw [HFR.out]
      rw [e4, e7]
      clear e4 e7
      have HB := Lib.hid hB
      clear hB
      go_wp2_with fail
      refine (putP_any _ x.p (⟨q.addr, q.key, nv⟩ : Pe) lo _ HB.out.1.1.2.2.2 HRB.out HQV.out HB.out.1.2).mono ?_
      rintro e wx ⟨v5, rfl, ho, hg⟩
      obtain ⟨A5, c5, e5, _, _⟩ := ho.sl
      subst e5
      have HAA := Lib.hid (HB.out.1.1.putP HB.out.1.2 ho hg)
      have HBB := Lib.hid (Below.trans (Below.mono HB.out.2.1 HLW.out) HAA.out.2.2.2.2)
      have HA := Lib.hid (show PsW lo g ua us (.slice A0 n0 c0) x q nv wr wx (.tuple #[.slice A5 (ptL x.p (⟨q.addr, q.key, nv⟩ : Pe)).length c5, .bool (ptB x.p (⟨q.addr, q.key, nv⟩ : Pe)), .int .i64 (ptE x.p (⟨q.addr, q.key, nv⟩ : Pe))]) from ⟨A5, c5, rfl, A5, c5, rfl, ⟨HAA.out.1, HAA.out.2.1, HAA.out.2.2.1, HAA.out.2.2.2.1⟩, HBB.out⟩)
      have HP : Hid (PtW x.p q nv (.tuple #[.slice A5 (ptL x.p (⟨q.addr, q.key, nv⟩ : Pe)).length c5, .bool (ptB x.p (⟨q.addr, q.key, nv⟩ : Pe)), .int .i64 (ptE x.p (⟨q.addr, q.key, nv⟩ : Pe))])) := Lib.hid ⟨A5, c5, rfl⟩
      clear ho hg HAA HBB
      go_wp2_with fail
      show K _ _
      have := H.out _ _ HA.out HP.out
      rw [HFR.out] at this
      obtain ⟨u4, u7⟩ := HU.out _
      rw [u4, u7] at this
      exact this
    · rintro L A W K hL hC hW ⟨V, rfl, HV, s0, s1, s2, f8, f9, f10⟩ hK
      have q8 := f8 (hW 8 rfl)
      obtain ⟨A8, c8, e8⟩ := q8
      have H := Lib.hid (show ∀ v W', Ext W W' → ((v = V 8 ∧ PtW x.p q nv v)) → K (fr (upd V 9 v)) W' from fun v W' he hp => hK _ _ ⟨upd V 9 v, rfl, HV.up 9 _ (fun x hx => absurd hx (by intro h; cases h)), fun h0 => PsV.ext (s0 (by unfold More at h0; rwa [if_neg (by decide)] at h0)) he, fun h0 h1 => PsW.ext HLW.out (s1 (more_ne h0 rfl) (by unfold More at h1; rwa [if_neg (by decide)] at h1)) he, fun h0 => PsU.ext HLW.out (s2 (more_ne h0 rfl)) he, fun h0 => keepQ (f8 (more_ne h0 rfl)) he, fun h0 => hp, fun h0 => keepQ (f10 (more_ne h0 rfl)) he⟩)
      have HU := Lib.hid (show ∀ v, (upd V 9 v) 8 = .tuple #[.slice A8 (ptL x.p (⟨q.addr, q.key, nv⟩ : Pe)).length c8, .bool (ptB x.p (⟨q.addr, q.key, nv⟩ : Pe)), .int .i64 (ptE x.p (⟨q.addr, q.key, nv⟩ : Pe))] from fun v => e8)
      clear hK hC hW hL HV s0 s1 s2 f8 f9 f10
      rw [HFR.out]
      rw [e8]
      clear e8
      go_wp2_with fail
      show K _ _
      have := H.out (.tuple #[.slice A8 (ptL x.p (⟨q.addr, q.key, nv⟩ : Pe)).length c8, .bool (ptB x.p (⟨q.addr, q.key, nv⟩ : Pe)), .int .i64 (ptE x.p (⟨q.addr, q.key, nv⟩ : Pe))]) _ (Ext.refl _) (⟨(HU.out undef).symm, _, _, rfl⟩)
      rw [HFR.out] at this
      obtain u8 := HU.out _
      rw [u8] at this
      exact this
    · rintro L A W K hL hC hW ⟨V, rfl, HV, s0, s1, s2, f8, f9, f10⟩ hK
      have q8 := f8 (hC 9 _ rfl (hW 9 rfl) 8 rfl)
      have q9 := f9 (hW 9 rfl)
      obtain ⟨A9, c9, e9⟩ := q9.2
      have H := Lib.hid (show ∀ v W', Ext W W' → ((∃ A c, V 8 = .tuple #[.slice A (ptL x.p (⟨q.addr, q.key, nv⟩ : Pe)).length c, .bool (ptB x.p (⟨q.addr, q.key, nv⟩ : Pe)), .int .i64 (ptE x.p (⟨q.addr, q.key, nv⟩ : Pe))] ∧ v = .slice A (ptL x.p (⟨q.addr, q.key, nv⟩ : Pe)).length c)) → K (fr (upd V 10 v)) W' from fun v W' he hp => hK _ _ ⟨upd V 10 v, rfl, HV.up 10 _ (fun x hx => absurd hx (by intro h; cases h)), fun h0 => PsV.ext (s0 (by unfold More at h0; rwa [if_neg (by decide)] at h0)) he, fun h0 h1 => PsW.ext HLW.out (s1 (more_ne h0 rfl) (by unfold More at h1; rwa [if_neg (by decide)] at h1)) he, fun h0 => PsU.ext HLW.out (s2 (more_ne h0 rfl)) he, fun h0 => keepQ (f8 (more_ne h0 rfl)) he, fun h0 => keepQ (f9 (more_ne h0 rfl)) he, fun h0 => hp⟩)
      have HU := Lib.hid (show ∀ v, (upd V 10 v) 9 = .tuple #[.slice A9 (ptL x.p (⟨q.addr, q.key, nv⟩ : Pe)).length c9, .bool (ptB x.p (⟨q.addr, q.key, nv⟩ : Pe)), .int .i64 (ptE x.p (⟨q.addr, q.key, nv⟩ : Pe))] from fun v => e9)
      clear hK hC hW hL HV s0 s1 s2 f8 f9 f10
      rw [HFR.out]
      rw [e9]
      clear e9
      go_wp2_with fail
      show K _ _
      have := H.out (.slice A9 (ptL x.p (⟨q.addr, q.key, nv⟩ : Pe)).length c9) _ (Ext.refl _) (⟨A9, c9, q9.1.symm.trans (HU.out undef), rfl⟩)
      rw [HFR.out] at this
      obtain u9 := HU.out _
      rw [u9] at this
      exact this
    · rintro L A W K hL hC hW ⟨V, rfl, HV, s0, s1, s2, f8, f9, f10⟩ hK
      have q9 := f9 (hW 9 rfl)
      obtain ⟨A9, c9, e9⟩ := q9.2
      have H := Lib.hid (show ∀ W', Ext W W' → K (fr (upd V 11 (.bool (ptB x.p (⟨q.addr, q.key, nv⟩ : Pe))))) W' from fun W' he => hK _ _ ⟨upd V 11 (.bool (ptB x.p (⟨q.addr, q.key, nv⟩ : Pe))), rfl, HV.up 11 _ (fun x hx => Option.some.inj hx), fun h0 => PsV.ext (s0 (by unfold More at h0; rwa [if_neg (by decide)] at h0)) he, fun h0 h1 => PsW.ext HLW.out (s1 (more_ne h0 rfl) (by unfold More at h1; rwa [if_neg (by decide)] at h1)) he, fun h0 => PsU.ext HLW.out (s2 (more_ne h0 rfl)) he, fun h0 => keepQ (f8 (more_ne h0 rfl)) he, fun h0 => keepQ (f9 (more_ne h0 rfl)) he, fun h0 => keepQ (f10 (more_ne h0 rfl)) he⟩)
      have HU := Lib.hid (show (upd V 11 (.bool (ptB x.p (⟨q.addr, q.key, nv⟩ : Pe)))) 9 = .tuple #[.slice A9 (ptL x.p (⟨q.addr, q.key, nv⟩ : Pe)).length c9, .bool (ptB x.p (⟨q.addr, q.key, nv⟩ : Pe)), .int .i64 (ptE x.p (⟨q.addr, q.key, nv⟩ : Pe))] from e9)
      clear hK hC hW hL HV s0 s1 s2 f8 f9 f10
      rw [HFR.out]
      rw [e9]
      clear e9
      go_wp2_with fail
      show K _ _
      have := H.out _ (Ext.refl _)
      rw [HFR.out] at this
      obtain u9 := HU.out
      rw [u9] at this
      exact this
    · rintro L A W K hL hC hW ⟨V, rfl, HV, s0, s1, s2, f8, f9, f10⟩ hK
      have q9 := f9 (hW 9 rfl)
      obtain ⟨A9, c9, e9⟩ := q9.2
      have H := Lib.hid (show ∀ W', Ext W W' → K (fr (upd V 12 (.int .i64 (ptE x.p (⟨q.addr, q.key, nv⟩ : Pe))))) W' from fun W' he => hK _ _ ⟨upd V 12 (.int .i64 (ptE x.p (⟨q.addr, q.key, nv⟩ : Pe))), rfl, HV.up 12 _ (fun x hx => Option.some.inj hx), fun h0 => PsV.ext (s0 (by unfold More at h0; rwa [if_neg (by decide)] at h0)) he, fun h0 h1 => PsW.ext HLW.out (s1 (more_ne h0 rfl) (by unfold More at h1; rwa [if_neg (by decide)] at h1)) he, fun h0 => PsU.ext HLW.out (s2 (more_ne h0 rfl)) he, fun h0 => keepQ (f8 (more_ne h0 rfl)) he, fun h0 => keepQ (f9 (more_ne h0 rfl)) he, fun h0 => keepQ (f10 (more_ne h0 rfl)) he⟩)
      have HU := Lib.hid (show (upd V 12 (.int .i64 (ptE x.p (⟨q.addr, q.key, nv⟩ : Pe)))) 9 = .tuple #[.slice A9 (ptL x.p (⟨q.addr, q.key, nv⟩ : Pe)).length c9, .bool (ptB x.p (⟨q.addr, q.key, nv⟩ : Pe)), .int .i64 (ptE x.p (⟨q.addr, q.key, nv⟩ : Pe))] from e9)
      clear hK hC hW hL HV s0 s1 s2 f8 f9 f10
      rw [HFR.out]
      rw [e9]
      clear e9
      go_wp2_with fail
      show K _ _
      have := H.out _ (Ext.refl _)
      rw [HFR.out] at this
      obtain u9 := HU.out
      rw [u9] at this
      exact this
    · rintro L A W K hL hC hW ⟨V, rfl, HV, s0, s1, s2, f8, f9, f10⟩ hK
      have e0 : V 0 = .pointer (some ⟨g, 0, none⟩) := HV 0 _ rfl (hW 0 rfl)
      have H := Lib.hid (show ∀ W', Ext W W' → K (fr (upd V 13 (.pointer (some ⟨g, 0, none⟩)))) W' from fun W' he => hK _ _ ⟨upd V 13 (.pointer (some ⟨g, 0, none⟩)), rfl, HV.up 13 _ (fun x hx => Option.some.inj hx), fun h0 => PsV.ext (s0 (by unfold More at h0; rwa [if_neg (by decide)] at h0)) he, fun h0 h1 => PsW.ext HLW.out (s1 (more_ne h0 rfl) (by unfold More at h1; rwa [if_neg (by decide)] at h1)) he, fun h0 => PsU.ext HLW.out (s2 (more_ne h0 rfl)) he, fun h0 => keepQ (f8 (more_ne h0 rfl)) he, fun h0 => keepQ (f9 (more_ne h0 rfl)) he, fun h0 => keepQ (f10 (more_ne h0 rfl)) he⟩)
      have HU := Lib.hid (show (upd V 13 (.pointer (some ⟨g, 0, none⟩))) 0 = .pointer (some ⟨g, 0, none⟩) from e0)
      clear hK hC hW hL HV s0 s1 s2 f8 f9 f10
      rw [HFR.out]
      rw [e0]
      clear e0
      go_wp2_with fail
      show K _ _
      have := H.out _ (Ext.refl _)
      rw [HFR.out] at this
      obtain u0 := HU.out
      rw [u0] at this
      exact this
    · rintro L A W K hL hC hW ⟨V, rfl, HV, s0, s1, s2, f8, f9, f10⟩ hK
      have e13 : V 13 = .pointer (some ⟨g, 0, none⟩) := HV 13 _ rfl (hW 13 rfl)
      have H := Lib.hid (show ∀ W', Ext W W' → K (fr (upd V 14 (.pointer (some ⟨g, 2, none⟩)))) W' from fun W' he => hK _ _ ⟨upd V 14 (.pointer (some ⟨g, 2, none⟩)), rfl, HV.up 14 _ (fun x hx => Option.some.inj hx), fun h0 => PsV.ext (s0 (by unfold More at h0; rwa [if_neg (by decide)] at h0)) he, fun h0 h1 => PsW.ext HLW.out (s1 (more_ne h0 rfl) (by unfold More at h1; rwa [if_neg (by decide)] at h1)) he, fun h0 => PsU.ext HLW.out (s2 (more_ne h0 rfl)) he, fun h0 => keepQ (f8 (more_ne h0 rfl)) he, fun h0 => keepQ (f9 (more_ne h0 rfl)) he, fun h0 => keepQ (f10 (more_ne h0 rfl)) he⟩)
      have HU := Lib.hid (show (upd V 14 (.pointer (some ⟨g, 2, none⟩))) 13 = .pointer (some ⟨g, 0, none⟩) from e13)
      clear hK hC hW hL HV s0 s1 s2 f8 f9 f10
      rw [HFR.out]
      rw [e13]
      clear e13
      go_wp2_with fail
      show K _ _
      have := H.out _ (Ext.refl _)
      rw [HFR.out] at this
      obtain u13 := HU.out
      rw [u13] at this
      exact this
    · rintro L A W K hL hC hW ⟨V, rfl, HV, s0, s1, s2, f8, f9, f10⟩ hK
      have e14 : V 14 = .pointer (some ⟨g, 2, none⟩) := HV 14 _ rfl (hW 14 rfl)
      have hB := s1 (hC 9 _ rfl (hC 10 _ rfl (hW 10 rfl) 9 rfl) 8 rfl) hL
      have q10 := f10 (hW 10 rfl)
      obtain ⟨A10, c10, k10, e10⟩ := q10
      have H := Lib.hid (show ∀ W', (PsU lo g ua us x (ptL x.p (⟨q.addr, q.key, nv⟩ : Pe)) wr W') → K (fr (V)) W' from fun W' hA => hK _ _ ⟨V, rfl, HV.st 15 rfl, fun h0 => absurd (show L 8 = false by unfold More at h0; rwa [if_neg (by decide)] at h0) (by rw [(hC 9 _ rfl (hC 10 _ rfl (hW 10 rfl) 9 rfl) 8 rfl)]; simp), fun h0 h1 => absurd h1 (by unfold More; rw [if_pos rfl]; simp), fun h0 => hA, fun h0 => (f8 (more_ne h0 rfl)), fun h0 => (f9 (more_ne h0 rfl)), fun h0 => (f10 (more_ne h0 rfl))⟩)
      have HU := Lib.hid (show (V) 14 = .pointer (some ⟨g, 2, none⟩) ∧ (V) 10 = .slice A10 (ptL x.p (⟨q.addr, q.key, nv⟩ : Pe)).length c10 from ⟨e14, e10⟩)
      clear hK hC hW hL HV s0 s1 s2 f8 f9 f10
      rw [HFR.out]
      rw [e14, e10]
      clear e14 e10
      obtain ⟨A7, c7, e7, A8, c8, e8, h7, hb7⟩ := hB
      rw [k10] at e7
      injection e7 with e7
      injection e7 with e7
      injection e7 with e7 _
      injection e7 with e7 _ e9
      subst e7 e9
      injection e8 with e8 _ e9
      subst e8 e9
      have HB := Lib.hid h7
      have HBB := Lib.hid hb7
      have hc : W.cell? ⟨g, 2, none⟩ = some (.slice A0 n0 c0) := h7.1.1.cell 2 _ rfl
      have hf : W.frozen? ⟨g, 2, none⟩ = false := h7.1.1.frozen 2
      clear h7 hb7 k10
      go_wp2_with fail
      have HA := Lib.hid (show PsU lo g ua us x (ptL x.p (⟨q.addr, q.key, nv⟩ : Pe)) wr (W.setCell ⟨g, 2, none⟩ (.slice A10 (ptL x.p (⟨q.addr, q.key, nv⟩ : Pe)).length c10)) from ⟨_, AxO.setP HB.out, Below.trans HBB.out (below_grown (by have := HBB.out.size; have := HLW.out; omega) (grown_set _ _ _ _) (fun j hj => by injection hj with hj; have := HB.out.1.2; omega))⟩)
      show K _ _
      have := H.out _ HA.out
      rw [HFR.out] at this
      obtain ⟨u14, u10⟩ := HU.out
      rw [u14, u10] at this
      exact this
    · rintro L A W K hL hC hW ⟨V, rfl, HV, s0, s1, s2, f8, f9, f10⟩ hK
      have e11 : V 11 = .bool (ptB x.p (⟨q.addr, q.key, nv⟩ : Pe)) := HV 11 _ rfl (hW 11 rfl)
      have H := Lib.hid (show ∀ W', Ext W W' → K (fr (upd V 16 (.bool (ptB x.p (⟨q.addr, q.key, nv⟩ : Pe))))) W' from fun W' he => hK _ _ ⟨upd V 16 (.bool (ptB x.p (⟨q.addr, q.key, nv⟩ : Pe))), rfl, HV.up 16 _ (fun x hx => Option.some.inj hx), fun h0 => PsV.ext (s0 (by unfold More at h0; rwa [if_neg (by decide)] at h0)) he, fun h0 h1 => PsW.ext HLW.out (s1 (more_ne h0 rfl) (by unfold More at h1; rwa [if_neg (by decide)] at h1)) he, fun h0 => PsU.ext HLW.out (s2 (more_ne h0 rfl)) he, fun h0 => keepQ (f8 (more_ne h0 rfl)) he, fun h0 => keepQ (f9 (more_ne h0 rfl)) he, fun h0 => keepQ (f10 (more_ne h0 rfl)) he⟩)
      have HU := Lib.hid (show (upd V 16 (.bool (ptB x.p (⟨q.addr, q.key, nv⟩ : Pe)))) 11 = .bool (ptB x.p (⟨q.addr, q.key, nv⟩ : Pe)) from e11)
      clear hK hC hW hL HV s0 s1 s2 f8 f9 f10
      rw [HFR.out]
      rw [e11]
      clear e11
      go_wp2_with fail
      show K _ _
      have := H.out _ (Ext.refl _)
      rw [HFR.out] at this
      obtain u11 := HU.out
      rw [u11] at this
      exact this
    · rintro L A W K hL hC hW ⟨V, rfl, HV, s0, s1, s2, f8, f9, f10⟩ hK
      have e12 : V 12 = .int .i64 (ptE x.p (⟨q.addr, q.key, nv⟩ : Pe)) := HV 12 _ rfl (hW 12 rfl)
      have H := Lib.hid (show ∀ W', Ext W W' → K (fr (upd V 17 (.int .i64 (ptE x.p (⟨q.addr, q.key, nv⟩ : Pe))))) W' from fun W' he => hK _ _ ⟨upd V 17 (.int .i64 (ptE x.p (⟨q.addr, q.key, nv⟩ : Pe))), rfl, HV.up 17 _ (fun x hx => Option.some.inj hx), fun h0 => PsV.ext (s0 (by unfold More at h0; rwa [if_neg (by decide)] at h0)) he, fun h0 h1 => PsW.ext HLW.out (s1 (more_ne h0 rfl) (by unfold More at h1; rwa [if_neg (by decide)] at h1)) he, fun h0 => PsU.ext HLW.out (s2 (more_ne h0 rfl)) he, fun h0 => keepQ (f8 (more_ne h0 rfl)) he, fun h0 => keepQ (f9 (more_ne h0 rfl)) he, fun h0 => keepQ (f10 (more_ne h0 rfl)) he⟩)
      have HU := Lib.hid (show (upd V 17 (.int .i64 (ptE x.p (⟨q.addr, q.key, nv⟩ : Pe)))) 12 = .int .i64 (ptE x.p (⟨q.addr, q.key, nv⟩ : Pe)) from e12)
      clear hK hC hW hL HV s0 s1 s2 f8 f9 f10
      rw [HFR.out]
      rw [e12]
      clear e12
      go_wp2_with fail
      show K _ _
      have := H.out _ (Ext.refl _)
      rw [HFR.out] at this
      obtain u12 := HU.out
      rw [u12] at this
      exact this
    · rintro L A W hL ⟨V, rfl, HV, s0, s1, s2, f8, f9, f10⟩
      have e0 : V 0 = .pointer (some ⟨g, 0, none⟩) := HV 0 _ rfl (hL 0 (by simp))
      have e1 : V 1 = .pointer (some ⟨g, 0, none⟩) := HV 1 _ rfl (hL 1 (by simp))
      have e2 : V 2 = .pointer (some ⟨g, 0, none⟩) := HV 2 _ rfl (hL 2 (by simp))
      have e3 : V 3 = .pointer (some ⟨g, 2, none⟩) := HV 3 _ rfl (hL 3 (by simp))
      have e4 : V 4 = .slice A0 n0 c0 := HV 4 _ rfl (hL 4 (by simp))
      have e5 : V 5 = .agg (cS q) := HV 5 _ rfl (hL 5 (by simp))
      have e6 : V 6 = wv nv := HV 6 _ rfl (hL 6 (by simp))
      have e7 : V 7 = .agg (cP (⟨q.addr, q.key, nv⟩ : Pe)) := HV 7 _ rfl (hL 7 (by simp))
      have e11 : V 11 = .bool (ptB x.p (⟨q.addr, q.key, nv⟩ : Pe)) := HV 11 _ rfl (hL 11 (by simp))
      have e12 : V 12 = .int .i64 (ptE x.p (⟨q.addr, q.key, nv⟩ : Pe)) := HV 12 _ rfl (hL 12 (by simp))
      have e13 : V 13 = .pointer (some ⟨g, 0, none⟩) := HV 13 _ rfl (hL 13 (by simp))
      have e14 : V 14 = .pointer (some ⟨g, 2, none⟩) := HV 14 _ rfl (hL 14 (by simp))
      have e16 : V 16 = .bool (ptB x.p (⟨q.addr, q.key, nv⟩ : Pe)) := HV 16 _ rfl (hL 16 (by simp))
      have e17 : V 17 = .int .i64 (ptE x.p (⟨q.addr, q.key, nv⟩ : Pe)) := HV 17 _ rfl (hL 17 (by simp))
      have hA := s2 (hL 15 (by simp))
      have p27 := f8 (hL 8 (by simp))
      have p18 := f9 (hL 9 (by simp))
      have p28 := f10 (hL 10 (by simp))
      rw [HFR.out]
      rw [e0, e1, e2, e3, e4, e5, e6, e7, e11, e12, e13, e14, e16, e17]
      clear hL HV HFR e0 e1 e2 e3 e4 e5 e6 e7 e11 e12 e13 e14 e16 e17 s0 s1 s2 f8 f9 f10
      have HAA := Lib.hid hA
      clear hA
      go_wp2_with fail
      refine bodyPost_ret (results_tmp2 rfl _ _ _) rfl ?_
      exact ⟨by rw [HKB.out, HKE.out]; rfl, by rw [HKL.out]; exact HAA.out⟩
end Go.Proofs.Ytjampleddeidaaa
