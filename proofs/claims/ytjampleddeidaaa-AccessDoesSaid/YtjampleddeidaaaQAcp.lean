/- Package access: what is changed in a copy; Touch, Reach. -/
import Derived.Test.YtjampleddeidaaaQAcn
namespace Go.Proofs.Ytjampleddeidaaa
open Go.ChangeShapes Go.WideShapes Go.ChangeAt Go.RowKit Go.Shelf

set_option maxRecDepth 100000 in
theorem own_apart {W : World} {lo lo' s s' n n' : Nat} {e e' : TypeId} {v v' : Value} {cs cs' : List Value} (h : W.ownsRow lo e s v n cs) (h' : W.ownsRow lo' e' s' v' n' cs') (hne : e ≠ e') (g : Nat) (hv : v.ownBlock = some g) : v'.ownBlock ≠ some g := by
  intro hv'
  rcases h.2 with ⟨rfl, _⟩ | ⟨g1, cap, cur, rfl, _, h1, _⟩
  · cases hv
  · rcases h'.2 with ⟨rfl, _⟩ | ⟨g2, cap', cur', rfl, _, h2, _⟩
    · cases hv'
    · injection hv with hv
      injection hv' with hv'
      subst hv hv'
      rw [h1] at h2
      injection h2 with h2
      injection h2 with _ h2
      exact hne h2
set_option maxRecDepth 100000 in
theorem own_not {W : World} {lo s n g : Nat} {e t : TypeId} {v : Value} {cs : List Value} {cur : Array Value} (h : W.ownsRow lo e s v n cs) (hc : Cs W g t cur) (hne : t ≠ e) : some g ≠ v.ownBlock := by
  intro hv
  rcases h.2 with ⟨rfl, _⟩ | ⟨g1, cap, cur', rfl, _, h1, _⟩
  · cases hv
  · injection hv with hv
    subst hv
    rw [show W.heap[g]? = _ from hc] at h1
    injection h1 with h1
    injection h1 with _ h1
    exact hne h1
set_option maxRecDepth 100000 in
theorem own_kept {W W' : World} {lo lo' s s' n n' : Nat} {e e' : TypeId} {v v' : Value} {cs cs' : List Value} (h : W.ownsRow lo e s v n cs) (h' : W.ownsRow lo' e' s' v' n' cs') (hne : e ≠ e') (hg : W.grownBy W' v'.ownBlock) : W'.ownsRow lo e s v n cs := by
  refine World.ownsRow.kept h hg ?_
  cases hv : v.ownBlock with
  | none => exact .inl rfl
  | some g => exact .inr (fun e => own_apart h h' hne g hv e.symm)
set_option maxRecDepth 100000 in
theorem keepQ {P : Prop} {W W' : World} (h : P) (_ : Ext W W') : P := h
set_option maxRecDepth 100000 in
theorem below_grown {W W' : World} {lo : Nat} {row : Option Nat} (hlo : lo ≤ W.heap.size) (hg : W.grownBy W' row) (hr : ∀ g, row = some g → lo ≤ g) : Below lo W W' := Below.grown (Below.refl lo W) hg hlo (fun j hj => hr j hj)
def AxO (lo g : Nat) (W : World) (ua us up : Value) (x : Ax) : Prop := (Cs W g 26 #[ua, us, up] ∧ lo ≤ g) ∧ OwnA W lo ua x.a ∧ OwnS W lo us x.s ∧ OwnP W lo up x.p
set_option maxRecDepth 100000 in
theorem AxO.ext {lo g : Nat} {W W' : World} {ua us up : Value} {x : Ax} (h : AxO lo g W ua us up x) (he : Ext W W') : AxO lo g W' ua us up x := ⟨⟨Cs.ext h.1.1 he, h.1.2⟩, h.2.1.ext he, h.2.2.1.ext he, h.2.2.2.ext he⟩
set_option maxRecDepth 100000 in
theorem AxO.putA {lo g : Nat} {W W' : World} {ua us up v' : Value} {x : Ax} {l : List Pe} (h : AxO lo g W ua us up x) (hlo : lo ≤ W.heap.size) (ho : OwnA W' lo v' l) (hg : W.grownBy W' ua.ownBlock) :
    (Cs W' g 26 #[ua, us, up] ∧ lo ≤ g) ∧ OwnA W' lo v' l ∧ OwnS W' lo us x.s ∧ OwnP W' lo up x.p ∧ Below lo W W' := by
  obtain ⟨⟨h0, h4⟩, h1, h2, h3⟩ := h
  refine ⟨⟨Cs.kept h0 hg (own_not h1.1 h0 (by decide)), h4⟩, ho, ⟨own_kept h2.1 h1.1 (by decide) hg, h2.2⟩, ⟨own_kept h3.1 h1.1 (by decide) hg, h3.2⟩, below_grown hlo hg (fun j hj => (h1.lt j hj).1)⟩
set_option maxRecDepth 100000 in
theorem AxO.setA {lo g : Nat} {W : World} {ua us up v' : Value} {x : Ax} {l : List Pe} (h : (Cs W g 26 #[ua, us, up] ∧ lo ≤ g) ∧ OwnA W lo v' l ∧ OwnS W lo us x.s ∧ OwnP W lo up x.p) : AxO lo g (W.setCell ⟨g, 0, none⟩ v') v' us up { x with a := l } := by
  obtain ⟨⟨h0, h4⟩, h1, h2, h3⟩ := h
  exact ⟨⟨by simpa using Cs.set h0 0 v', h4⟩, h1.keptT (grown_set _ _ _ _) h0 (by decide), h2.keptT (grown_set _ _ _ _) h0 (by decide), h3.keptT (grown_set _ _ _ _) h0 (by decide)⟩
set_option maxRecDepth 100000 in
theorem AxO.putS {lo g : Nat} {W W' : World} {ua us up v' : Value} {x : Ax} {l : List Pe} (h : AxO lo g W ua us up x) (hlo : lo ≤ W.heap.size) (ho : OwnS W' lo v' l) (hg : W.grownBy W' us.ownBlock) :
    (Cs W' g 26 #[ua, us, up] ∧ lo ≤ g) ∧ OwnA W' lo ua x.a ∧ OwnS W' lo v' l ∧ OwnP W' lo up x.p ∧ Below lo W W' := by
  obtain ⟨⟨h0, h4⟩, h1, h2, h3⟩ := h
  refine ⟨⟨Cs.kept h0 hg (own_not h2.1 h0 (by decide)), h4⟩, ⟨own_kept h1.1 h2.1 (by decide) hg, h1.2⟩, ho, ⟨own_kept h3.1 h2.1 (by decide) hg, h3.2⟩, below_grown hlo hg (fun j hj => (h2.lt j hj).1)⟩
set_option maxRecDepth 100000 in
theorem AxO.setS {lo g : Nat} {W : World} {ua us up v' : Value} {x : Ax} {l : List Pe} (h : (Cs W g 26 #[ua, us, up] ∧ lo ≤ g) ∧ OwnA W lo ua x.a ∧ OwnS W lo v' l ∧ OwnP W lo up x.p) : AxO lo g (W.setCell ⟨g, 1, none⟩ v') ua v' up { x with s := l } := by
  obtain ⟨⟨h0, h4⟩, h1, h2, h3⟩ := h
  exact ⟨⟨by simpa using Cs.set h0 1 v', h4⟩, h1.keptT (grown_set _ _ _ _) h0 (by decide), h2.keptT (grown_set _ _ _ _) h0 (by decide), h3.keptT (grown_set _ _ _ _) h0 (by decide)⟩
set_option maxRecDepth 100000 in
theorem AxO.putP {lo g : Nat} {W W' : World} {ua us up v' : Value} {x : Ax} {l : List Pe} (h : AxO lo g W ua us up x) (hlo : lo ≤ W.heap.size) (ho : OwnP W' lo v' l) (hg : W.grownBy W' up.ownBlock) :
    (Cs W' g 26 #[ua, us, up] ∧ lo ≤ g) ∧ OwnA W' lo ua x.a ∧ OwnS W' lo us x.s ∧ OwnP W' lo v' l ∧ Below lo W W' := by
  obtain ⟨⟨h0, h4⟩, h1, h2, h3⟩ := h
  refine ⟨⟨Cs.kept h0 hg (own_not h3.1 h0 (by decide)), h4⟩, ⟨own_kept h1.1 h3.1 (by decide) hg, h1.2⟩, ⟨own_kept h2.1 h3.1 (by decide) hg, h2.2⟩, ho, below_grown hlo hg (fun j hj => (h3.lt j hj).1)⟩
set_option maxRecDepth 100000 in
theorem AxO.setP {lo g : Nat} {W : World} {ua us up v' : Value} {x : Ax} {l : List Pe} (h : (Cs W g 26 #[ua, us, up] ∧ lo ≤ g) ∧ OwnA W lo ua x.a ∧ OwnS W lo us x.s ∧ OwnP W lo v' l) : AxO lo g (W.setCell ⟨g, 2, none⟩ v') ua us v' { x with p := l } := by
  obtain ⟨⟨h0, h4⟩, h1, h2, h3⟩ := h
  exact ⟨⟨by simpa using Cs.set h0 2 v', h4⟩, h1.keptT (grown_set _ _ _ _) h0 (by decide), h2.keptT (grown_set _ _ _ _) h0 (by decide), h3.keptT (grown_set _ _ _ _) h0 (by decide)⟩
def PsTA (lo g : Nat) (ua us up : Value) (x : Ax) (q : Pe) (wr W : World) (val : Value) : Prop := ∃ A c, val = .tuple #[.slice A (ptL x.a q).length c, .bool (ptB x.a q), .int .i64 (ptE x.a q)] ∧ ((Cs W g 26 #[ua, us, up] ∧ lo ≤ g) ∧ OwnA W lo (.slice A (ptL x.a q).length c) (ptL x.a q) ∧ OwnS W lo us x.s ∧ OwnP W lo up x.p) ∧ Below lo wr W
set_option maxRecDepth 100000 in
theorem PsTA.ext {lo g : Nat} {ua us up : Value} {x : Ax} {q : Pe} {wr W W' : World} {val : Value} (hw : lo ≤ wr.heap.size) (h : PsTA lo g ua us up x q wr W val) (he : Ext W W') : PsTA lo g ua us up x q wr W' val := by
  obtain ⟨A, c, e, ⟨⟨h0, h1⟩, h2, h3, h4⟩, hb⟩ := h
  exact ⟨A, c, e, ⟨⟨Cs.ext h0 he, h1⟩, h2.ext he, h3.ext he, h4.ext he⟩, Below.trans hb (Below.mono he (Nat.le_trans hw hb.size))⟩
def PsUA (lo g : Nat) (_ua us up : Value) (x : Ax) (q : Pe) (wr W : World) : Prop := ∃ v', AxO lo g W v' us up { x with a := ptL x.a q } ∧ Below lo wr W
set_option maxRecDepth 100000 in
theorem PsUA.ext {lo g : Nat} {ua us up : Value} {x : Ax} {q : Pe} {wr W W' : World} (hw : lo ≤ wr.heap.size) (h : PsUA lo g ua us up x q wr W) (he : Ext W W') : PsUA lo g ua us up x q wr W' := by
  obtain ⟨v', h, hb⟩ := h
  exact ⟨v', h.ext he, Below.trans hb (Below.mono he (Nat.le_trans hw hb.size))⟩
def PtTA (l : List Pe) (q : Pe) (val : Value) : Prop := ∃ A c, val = .tuple #[.slice A (ptL l q).length c, .bool (ptB l q), .int .i64 (ptE l q)]
set_option maxRecDepth 100000 in
theorem PsSA.ext {lo g ga : Nat} {ua us up : Value} {x : Ax} {cs : Array Value} {wr W W' : World} (h : (AxO lo g W ua us up x ∧ lo ≤ W.heap.size) ∧ Ext wr W ∧ Cs W ga 28 cs ∧ True) (he : Ext W W') : (AxO lo g W' ua us up x ∧ lo ≤ W'.heap.size) ∧ Ext wr W' ∧ Cs W' ga 28 cs ∧ True := ⟨⟨h.1.1.ext he, Nat.le_trans h.1.2 he.size⟩, h.2.1.trans he, Cs.ext h.2.2.1 he, trivial⟩
set_option maxRecDepth 100000 in
set_option maxHeartbeats 8000000 in
theorem touch1_any (lo g ga : Nat) (ua us up : Value) (x : Ax) (q : Pe) (wr : World) (ho : AxO lo g wr ua us up x) (hlw : lo ≤ wr.heap.size) (hrs : rsB x.a = true) (hq : okA q) (hga : Cs wr ga 28 (#[.int .u64 (q.addr : Nat)])) :
    Calls Try.prog 53 #[.pointer (some ⟨g, 0, none⟩), .pointer (some ⟨ga, 0, none⟩)] wr fun e w' => e = .returned (.tuple #[.bool (ptB x.a q), .int .i64 (ptE x.a q)]) ∧ PsUA lo g ua us up x q wr w' := by
  have HO := Lib.hid ho
  have HLW := Lib.hid hlw
  have HRS := Lib.hid hrs
  have HQ := Lib.hid hq
  have HGA := Lib.hid hga
  obtain ⟨A0, c0, e0, _, _⟩ := ho.2.1.sl
  obtain ⟨n0, hn0⟩ : ∃ n, x.a.length = n := ⟨_, rfl⟩
  rw [hn0] at e0
  subst e0
  clear ho hlw hrs hq hga hn0
  go_enter Try.func53, Try.ntmps53
  go_upto_region 1 with fail
  refine wp_named fun a0 ha0 => ?_
  obtain ⟨fr, hfr⟩ : ∃ fr : (Nat → Value) → Act, ∀ V, fr V = (((((((((((((((a0.put (some 6) (V 0)).put (some 7) (V 1)).put (some 8) (V 2)).put (some 9) (V 3)).put (some 10) (V 4)).put (some 11) (V 5)).put (some 12) (V 6)).put (some 5) (V 7)).put (some 13) (V 8)).put (some 14) (V 9)).put (some 15) (V 10)).put (some 16) (V 11)).put (some 17) (V 12)).put (some 3) (V 14)).put (some 4) (V 15)) := ⟨fun V => (((((((((((((((a0.put (some 6) (V 0)).put (some 7) (V 1)).put (some 8) (V 2)).put (some 9) (V 3)).put (some 10) (V 4)).put (some 11) (V 5)).put (some 12) (V 6)).put (some 5) (V 7)).put (some 13) (V 8)).put (some 14) (V 9)).put (some 15) (V 10)).put (some 16) (V 11)).put (some 17) (V 12)).put (some 3) (V 14)).put (some 4) (V 15)), fun _ => rfl⟩
  rw [ha0] at hfr
  simp only [Act.put, List.setIfInBounds_toArray, List.set_cons_zero, List.set_cons_succ] at hfr
  have HFR := Lib.hid hfr
  clear hfr
  refine wp_region_inv (by kernel_rfl) (by kernel_rfl) (fun L A W => ∃ V : Nat → Value, A = fr V ∧ Vals (fun j => ([some (.pointer (some ⟨g, 0, none⟩)), some (.pointer (some ⟨g, 0, none⟩)), some (.pointer (some ⟨g, 0, none⟩)), some (.pointer (some ⟨g, 0, none⟩)), some (.slice A0 n0 c0), some (.int .u64 (q.addr : Nat)), none, none, none, some (.bool (ptB x.a q)), some (.int .i64 (ptE x.a q)), some (.pointer (some ⟨g, 0, none⟩)), some (.pointer (some ⟨g, 0, none⟩)), none, some (.bool (ptB x.a q)), some (.int .i64 (ptE x.a q))] : List (Option Value)).getD j none) L V ∧ (L 6 = false → (AxO lo g W (.slice A0 n0 c0) us up x ∧ lo ≤ W.heap.size) ∧ Ext wr W ∧ Cs W ga 28 (#[.int .u64 (q.addr : Nat)]) ∧ True) ∧ (L 6 = true → L 13 = false → PsTA lo g (.slice A0 n0 c0) us up x q wr W (V 6)) ∧ (L 13 = true → PsUA lo g (.slice A0 n0 c0) us up x q wr W) ∧ (L 6 = true → PtTA x.a q (V 6)) ∧ (L 7 = true → ((V 7) = V 6 ∧ PtTA x.a q (V 7))) ∧ (L 8 = true → (∃ A c, V 6 = .tuple #[.slice A (ptL x.a q).length c, .bool (ptB x.a q), .int .i64 (ptE x.a q)] ∧ (V 8) = .slice A (ptL x.a q).length c))) ?_ ⟨?_, ?_, ?_, ?_, ?_, ?_, ?_, ?_, ?_, ?_, ?_, ?_, ?_, ?_, ?_, ?_, trivial⟩ ?_
  · refine ⟨fun j => a0.tmps.getD (([6, 7, 8, 9, 10, 11, 12, 5, 13, 14, 15, 16, 17, 0, 3, 4] : List Nat).getD j 0) undef, ?_, Vals.no _ _ _ (far_none _ _ rfl), fun _ => ⟨⟨HO.out.ext (Ext.refl _).drew, by have := HLW.out; simpa using this⟩, (Ext.refl _).drew, Cs.ext HGA.out (Ext.refl _).drew, trivial⟩, fun h0 h1 => absurd h0 (by decide), fun h0 => absurd h0 (by decide), fun h0 => absurd h0 (by decide), fun h0 => absurd h0 (by decide), fun h0 => absurd h0 (by decide)⟩
    rw [HFR.out, ha0]
    rfl
  all_goals clear ha0
  · rintro L A W K hL hC hW ⟨V, rfl, HV, s0, s1, s2, f6, f7, f8⟩ hK
    have H := Lib.hid (show ∀ W', Ext W W' → K (fr (upd V 0 (.pointer (some ⟨g, 0, none⟩)))) W' from fun W' he => hK _ _ ⟨upd V 0 (.pointer (some ⟨g, 0, none⟩)), rfl, HV.up 0 _ (fun x hx => Option.some.inj hx), fun h0 => PsSA.ext (s0 (by unfold More at h0; rwa [if_neg (by decide)] at h0)) he, fun h0 h1 => PsTA.ext HLW.out (s1 (more_ne h0 rfl) (by unfold More at h1; rwa [if_neg (by decide)] at h1)) he, fun h0 => PsUA.ext HLW.out (s2 (more_ne h0 rfl)) he, fun h0 => keepQ (f6 (more_ne h0 rfl)) he, fun h0 => keepQ (f7 (more_ne h0 rfl)) he, fun h0 => keepQ (f8 (more_ne h0 rfl)) he⟩)
    clear hK hC hW hL HV s0 s1 s2 f6 f7 f8
    rw [HFR.out]
    go_wp2_with fail
    show K _ _
    have := H.out _ (Ext.refl _)
    rw [HFR.out] at this
    exact this
  · rintro L A W K hL hC hW ⟨V, rfl, HV, s0, s1, s2, f6, f7, f8⟩ hK
    have H := Lib.hid (show ∀ W', Ext W W' → K (fr (upd V 1 (.pointer (some ⟨g, 0, none⟩)))) W' from fun W' he => hK _ _ ⟨upd V 1 (.pointer (some ⟨g, 0, none⟩)), rfl, HV.up 1 _ (fun x hx => Option.some.inj hx), fun h0 => PsSA.ext (s0 (by unfold More at h0; rwa [if_neg (by decide)] at h0)) he, fun h0 h1 => PsTA.ext HLW.out (s1 (more_ne h0 rfl) (by unfold More at h1; rwa [if_neg (by decide)] at h1)) he, fun h0 => PsUA.ext HLW.out (s2 (more_ne h0 rfl)) he, fun h0 => keepQ (f6 (more_ne h0 rfl)) he, fun h0 => keepQ (f7 (more_ne h0 rfl)) he, fun h0 => keepQ (f8 (more_ne h0 rfl)) he⟩)
    clear hK hC hW hL HV s0 s1 s2 f6 f7 f8
    rw [HFR.out]
    go_wp2_with fail
    show K _ _
    have := H.out _ (Ext.refl _)
    rw [HFR.out] at this
    exact this
  · rintro L A W K hL hC hW ⟨V, rfl, HV, s0, s1, s2, f6, f7, f8⟩ hK
    have e1 : V 1 = .pointer (some ⟨g, 0, none⟩) := HV 1 _ rfl (hW 1 rfl)
    have H := Lib.hid (show ∀ W', Ext W W' → K (fr (upd V 2 (.pointer (some ⟨g, 0, none⟩)))) W' from fun W' he => hK _ _ ⟨upd V 2 (.pointer (some ⟨g, 0, none⟩)), rfl, HV.up 2 _ (fun x hx => Option.some.inj hx), fun h0 => PsSA.ext (s0 (by unfold More at h0; rwa [if_neg (by decide)] at h0)) he, fun h0 h1 => PsTA.ext HLW.out (s1 (more_ne h0 rfl) (by unfold More at h1; rwa [if_neg (by decide)] at h1)) he, fun h0 => PsUA.ext HLW.out (s2 (more_ne h0 rfl)) he, fun h0 => keepQ (f6 (more_ne h0 rfl)) he, fun h0 => keepQ (f7 (more_ne h0 rfl)) he, fun h0 => keepQ (f8 (more_ne h0 rfl)) he⟩)
    have HU := Lib.hid (show (upd V 2 (.pointer (some ⟨g, 0, none⟩))) 1 = .pointer (some ⟨g, 0, none⟩) from e1)
    clear hK hC hW hL HV s0 s1 s2 f6 f7 f8
    rw [HFR.out]
    rw [e1]
    clear e1
    go_wp2_with fail
    show K _ _
    have := H.out _ (Ext.refl _)
    rw [HFR.out] at this
    obtain u1 := HU.out
    rw [u1] at this
    exact this
  · rintro L A W K hL hC hW ⟨V, rfl, HV, s0, s1, s2, f6, f7, f8⟩ hK
    have e2 : V 2 = .pointer (some ⟨g, 0, none⟩) := HV 2 _ rfl (hW 2 rfl)
    have H := Lib.hid (show ∀ W', Ext W W' → K (fr (upd V 3 (.pointer (some ⟨g, 0, none⟩)))) W' from fun W' he => hK _ _ ⟨upd V 3 (.pointer (some ⟨g, 0, none⟩)), rfl, HV.up 3 _ (fun x hx => Option.some.inj hx), fun h0 => PsSA.ext (s0 (by unfold More at h0; rwa [if_neg (by decide)] at h0)) he, fun h0 h1 => PsTA.ext HLW.out (s1 (more_ne h0 rfl) (by unfold More at h1; rwa [if_neg (by decide)] at h1)) he, fun h0 => PsUA.ext HLW.out (s2 (more_ne h0 rfl)) he, fun h0 => keepQ (f6 (more_ne h0 rfl)) he, fun h0 => keepQ (f7 (more_ne h0 rfl)) he, fun h0 => keepQ (f8 (more_ne h0 rfl)) he⟩)
    have HU := Lib.hid (show (upd V 3 (.pointer (some ⟨g, 0, none⟩))) 2 = .pointer (some ⟨g, 0, none⟩) from e2)
    clear hK hC hW hL HV s0 s1 s2 f6 f7 f8
    rw [HFR.out]
    rw [e2]
    clear e2
    go_wp2_with fail
    show K _ _
    have := H.out _ (Ext.refl _)
    rw [HFR.out] at this
    obtain u2 := HU.out
    rw [u2] at this
    exact this
  · rintro L A W K hL hC hW ⟨V, rfl, HV, s0, s1, s2, f6, f7, f8⟩ hK
    have e3 : V 3 = .pointer (some ⟨g, 0, none⟩) := HV 3 _ rfl (hW 3 rfl)
    have hB := s0 (hC.no hL 6 _ rfl rfl)
    have H := Lib.hid (show ∀ W', Ext W W' → K (fr (upd V 4 (.slice A0 n0 c0))) W' from fun W' he => hK _ _ ⟨upd V 4 (.slice A0 n0 c0), rfl, HV.up 4 _ (fun x hx => Option.some.inj hx), fun h0 => PsSA.ext (s0 (by unfold More at h0; rwa [if_neg (by decide)] at h0)) he, fun h0 h1 => PsTA.ext HLW.out (s1 (more_ne h0 rfl) (by unfold More at h1; rwa [if_neg (by decide)] at h1)) he, fun h0 => PsUA.ext HLW.out (s2 (more_ne h0 rfl)) he, fun h0 => keepQ (f6 (more_ne h0 rfl)) he, fun h0 => keepQ (f7 (more_ne h0 rfl)) he, fun h0 => keepQ (f8 (more_ne h0 rfl)) he⟩)
    have HU := Lib.hid (show (upd V 4 (.slice A0 n0 c0)) 3 = .pointer (some ⟨g, 0, none⟩) from e3)
    clear hK hC hW hL HV s0 s1 s2 f6 f7 f8
    rw [HFR.out]
    rw [e3]
    clear e3
    have hcl := hB.1.1.1.1.cell 0 _ rfl
    clear hB
    go_wp2_with fail
    show K _ _
    have := H.out _ (Ext.refl _)
    rw [HFR.out] at this
    obtain u3 := HU.out
    rw [u3] at this
    exact this
  · rintro L A W K hL hC hW ⟨V, rfl, HV, s0, s1, s2, f6, f7, f8⟩ hK
    have hB := s0 (hC.no hL 6 _ rfl rfl)
    have H := Lib.hid (show ∀ W', Ext W W' → K (fr (upd V 5 (.int .u64 (q.addr : Nat)))) W' from fun W' he => hK _ _ ⟨upd V 5 (.int .u64 (q.addr : Nat)), rfl, HV.up 5 _ (fun x hx => Option.some.inj hx), fun h0 => PsSA.ext (s0 (by unfold More at h0; rwa [if_neg (by decide)] at h0)) he, fun h0 h1 => PsTA.ext HLW.out (s1 (more_ne h0 rfl) (by unfold More at h1; rwa [if_neg (by decide)] at h1)) he, fun h0 => PsUA.ext HLW.out (s2 (more_ne h0 rfl)) he, fun h0 => keepQ (f6 (more_ne h0 rfl)) he, fun h0 => keepQ (f7 (more_ne h0 rfl)) he, fun h0 => keepQ (f8 (more_ne h0 rfl)) he⟩)
    clear hK hC hW hL HV s0 s1 s2 f6 f7 f8
    rw [HFR.out]
    have hcl := hB.2.2.1.cell 0 _ rfl
    clear hB
    go_wp2_with fail
    show K _ _
    have := H.out _ (Ext.refl _)
    rw [HFR.out] at this
    exact this
  · rintro L A W K hL hC hW ⟨V, rfl, HV, s0, s1, s2, f6, f7, f8⟩ hK
    have e4 : V 4 = .slice A0 n0 c0 := HV 4 _ rfl (hW 4 rfl)
    have e5 : V 5 = .int .u64 (q.addr : Nat) := HV 5 _ rfl (hW 5 rfl)
    have hB := s0 hL
    have H := Lib.hid (show ∀ v W', (PsTA lo g (.slice A0 n0 c0) us up x q wr W' v) → (PtTA x.a q v) → K (fr (upd V 6 v)) W' from fun v W' hA hp => hK _ _ ⟨upd V 6 v, rfl, HV.up 6 _ (fun x hx => absurd hx (by intro h; cases h)), fun h0 => absurd h0 (by unfold More; rw [if_pos rfl]; simp), fun h0 h1 => hA, fun h0 => absurd (more_ne h0 rfl) (by rw [(hC.no (hC.no (hC.no hL 7 _ rfl rfl) 8 _ rfl rfl) 13 _ rfl rfl)]; simp), fun h0 => hp, fun h0 => absurd (more_ne h0 rfl) (by rw [hC.no hL 7 _ rfl rfl]; simp), fun h0 => absurd (more_ne h0 rfl) (by rw [hC.no (hC.no hL 7 _ rfl rfl) 8 _ rfl rfl]; simp)⟩)
    have HU := Lib.hid (show ∀ v, (upd V 6 v) 4 = .slice A0 n0 c0 ∧ (upd V 6 v) 5 = .int .u64 (q.addr : Nat) from fun v => ⟨e4, e5⟩)
    clear hK hC hW hL HV s0 s1 s2 f6 f7 f8
    rw [HFR.out]
    rw [e4, e5]
    clear e4 e5
    have HB := Lib.hid hB
    clear hB
    go_wp2_with fail
    refine (putA_any _ x.a q lo _ (HB.out.1.1.2.1) HRS.out HQ.out HB.out.1.2).mono ?_
    rintro e wx ⟨v5, rfl, ho, hg⟩
    obtain ⟨A5, c5, e5, _, _⟩ := ho.sl
    subst e5
    have HAA := Lib.hid (HB.out.1.1.putA HB.out.1.2 ho hg)
    have HBB := Lib.hid (Below.trans (Below.mono HB.out.2.1 HLW.out) HAA.out.2.2.2.2)
    have HA := Lib.hid (show PsTA lo g (.slice A0 n0 c0) us up x q wr wx (.tuple #[.slice A5 (ptL x.a q).length c5, .bool (ptB x.a q), .int .i64 (ptE x.a q)]) from ⟨A5, c5, rfl, ⟨HAA.out.1, HAA.out.2.1, HAA.out.2.2.1, HAA.out.2.2.2.1⟩, HBB.out⟩)
    have HP : Hid (PtTA x.a q (.tuple #[.slice A5 (ptL x.a q).length c5, .bool (ptB x.a q), .int .i64 (ptE x.a q)])) := Lib.hid ⟨A5, c5, rfl⟩
    clear ho hg HAA HBB
    go_wp2_with fail
    show K _ _
    have := H.out _ _ HA.out HP.out
    rw [HFR.out] at this
    obtain ⟨u4, u5⟩ := HU.out _
    rw [u4, u5] at this
    exact this
  · rintro L A W K hL hC hW ⟨V, rfl, HV, s0, s1, s2, f6, f7, f8⟩ hK
    have q6 := f6 (hW 6 rfl)
    obtain ⟨A6, c6, e6⟩ := q6
    have H := Lib.hid (show ∀ v W', Ext W W' → ((v = V 6 ∧ PtTA x.a q v)) → K (fr (upd V 7 v)) W' from fun v W' he hp => hK _ _ ⟨upd V 7 v, rfl, HV.up 7 _ (fun x hx => absurd hx (by intro h; cases h)), fun h0 => PsSA.ext (s0 (by unfold More at h0; rwa [if_neg (by decide)] at h0)) he, fun h0 h1 => PsTA.ext HLW.out (s1 (more_ne h0 rfl) (by unfold More at h1; rwa [if_neg (by decide)] at h1)) he, fun h0 => PsUA.ext HLW.out (s2 (more_ne h0 rfl)) he, fun h0 => keepQ (f6 (more_ne h0 rfl)) he, fun h0 => hp, fun h0 => keepQ (f8 (more_ne h0 rfl)) he⟩)
    have HU := Lib.hid (show ∀ v, (upd V 7 v) 6 = .tuple #[.slice A6 (ptL x.a q).length c6, .bool (ptB x.a q), .int .i64 (ptE x.a q)] from fun v => e6)
    clear hK hC hW hL HV s0 s1 s2 f6 f7 f8
    rw [HFR.out]
    rw [e6]
    clear e6
    go_wp2_with fail
    show K _ _
    have := H.out (.tuple #[.slice A6 (ptL x.a q).length c6, .bool (ptB x.a q), .int .i64 (ptE x.a q)]) _ (Ext.refl _) (⟨(HU.out undef).symm, _, _, rfl⟩)
    rw [HFR.out] at this
    obtain u6 := HU.out _
    rw [u6] at this
    exact this
  · rintro L A W K hL hC hW ⟨V, rfl, HV, s0, s1, s2, f6, f7, f8⟩ hK
    have q6 := f6 (hC 7 _ rfl (hW 7 rfl) 6 rfl)
    have q7 := f7 (hW 7 rfl)
    obtain ⟨A7, c7, e7⟩ := q7.2
    have H := Lib.hid (show ∀ v W', Ext W W' → ((∃ A c, V 6 = .tuple #[.slice A (ptL x.a q).length c, .bool (ptB x.a q), .int .i64 (ptE x.a q)] ∧ v = .slice A (ptL x.a q).length c)) → K (fr (upd V 8 v)) W' from fun v W' he hp => hK _ _ ⟨upd V 8 v, rfl, HV.up 8 _ (fun x hx => absurd hx (by intro h; cases h)), fun h0 => PsSA.ext (s0 (by unfold More at h0; rwa [if_neg (by decide)] at h0)) he, fun h0 h1 => PsTA.ext HLW.out (s1 (more_ne h0 rfl) (by unfold More at h1; rwa [if_neg (by decide)] at h1)) he, fun h0 => PsUA.ext HLW.out (s2 (more_ne h0 rfl)) he, fun h0 => keepQ (f6 (more_ne h0 rfl)) he, fun h0 => keepQ (f7 (more_ne h0 rfl)) he, fun h0 => hp⟩)
    have HU := Lib.hid (show ∀ v, (upd V 8 v) 7 = .tuple #[.slice A7 (ptL x.a q).length c7, .bool (ptB x.a q), .int .i64 (ptE x.a q)] from fun v => e7)
    clear hK hC hW hL HV s0 s1 s2 f6 f7 f8
    rw [HFR.out]
    rw [e7]
    clear e7
    go_wp2_with fail
    show K _ _
    have := H.out (.slice A7 (ptL x.a q).length c7) _ (Ext.refl _) (⟨A7, c7, q7.1.symm.trans (HU.out undef), rfl⟩)
    rw [HFR.out] at this
    obtain u7 := HU.out _
    rw [u7] at this
    exact this
  · rintro L A W K hL hC hW ⟨V, rfl, HV, s0, s1, s2, f6, f7, f8⟩ hK
    have q7 := f7 (hW 7 rfl)
    obtain ⟨A7, c7, e7⟩ := q7.2
    have H := Lib.hid (show ∀ W', Ext W W' → K (fr (upd V 9 (.bool (ptB x.a q)))) W' from fun W' he => hK _ _ ⟨upd V 9 (.bool (ptB x.a q)), rfl, HV.up 9 _ (fun x hx => Option.some.inj hx), fun h0 => PsSA.ext (s0 (by unfold More at h0; rwa [if_neg (by decide)] at h0)) he, fun h0 h1 => PsTA.ext HLW.out (s1 (more_ne h0 rfl) (by unfold More at h1; rwa [if_neg (by decide)] at h1)) he, fun h0 => PsUA.ext HLW.out (s2 (more_ne h0 rfl)) he, fun h0 => keepQ (f6 (more_ne h0 rfl)) he, fun h0 => keepQ (f7 (more_ne h0 rfl)) he, fun h0 => keepQ (f8 (more_ne h0 rfl)) he⟩)
    have HU := Lib.hid (show (upd V 9 (.bool (ptB x.a q))) 7 = .tuple #[.slice A7 (ptL x.a q).length c7, .bool (ptB x.a q), .int .i64 (ptE x.a q)] from e7)
    clear hK hC hW hL HV s0 s1 s2 f6 f7 f8
    rw [HFR.out]
    rw [e7]
    clear e7
    go_wp2_with fail
    show K _ _
    have := H.out _ (Ext.refl _)
    rw [HFR.out] at this
    obtain u7 := HU.out
    rw [u7] at this
    exact this
  · rintro L A W K hL hC hW ⟨V, rfl, HV, s0, s1, s2, f6, f7, f8⟩ hK
    have q7 := f7 (hW 7 rfl)
    obtain ⟨A7, c7, e7⟩ := q7.2
    have H := Lib.hid (show ∀ W', Ext W W' → K (fr (upd V 10 (.int .i64 (ptE x.a q)))) W' from fun W' he => hK _ _ ⟨upd V 10 (.int .i64 (ptE x.a q)), rfl, HV.up 10 _ (fun x hx => Option.some.inj hx), fun h0 => PsSA.ext (s0 (by unfold More at h0; rwa [if_neg (by decide)] at h0)) he, fun h0 h1 => PsTA.ext HLW.out (s1 (more_ne h0 rfl) (by unfold More at h1; rwa [if_neg (by decide)] at h1)) he, fun h0 => PsUA.ext HLW.out (s2 (more_ne h0 rfl)) he, fun h0 => keepQ (f6 (more_ne h0 rfl)) he, fun h0 => keepQ (f7 (more_ne h0 rfl)) he, fun h0 => keepQ (f8 (more_ne h0 rfl)) he⟩)
    have HU := Lib.hid (show (upd V 10 (.int .i64 (ptE x.a q))) 7 = .tuple #[.slice A7 (ptL x.a q).length c7, .bool (ptB x.a q), .int .i64 (ptE x.a q)] from e7)
    clear hK hC hW hL HV s0 s1 s2 f6 f7 f8
    rw [HFR.out]
    rw [e7]
    clear e7
    go_wp2_with fail
    show K _ _
    have := H.out _ (Ext.refl _)
    rw [HFR.out] at this
    obtain u7 := HU.out
    rw [u7] at this
    exact this
  · rintro L A W K hL hC hW ⟨V, rfl, HV, s0, s1, s2, f6, f7, f8⟩ hK
    have e0 : V 0 = .pointer (some ⟨g, 0, none⟩) := HV 0 _ rfl (hW 0 rfl)
    have H := Lib.hid (show ∀ W', Ext W W' → K (fr (upd V 11 (.pointer (some ⟨g, 0, none⟩)))) W' from fun W' he => hK _ _ ⟨upd V 11 (.pointer (some ⟨g, 0, none⟩)), rfl, HV.up 11 _ (fun x hx => Option.some.inj hx), fun h0 => PsSA.ext (s0 (by unfold More at h0; rwa [if_neg (by decide)] at h0)) he, fun h0 h1 => PsTA.ext HLW.out (s1 (more_ne h0 rfl) (by unfold More at h1; rwa [if_neg (by decide)] at h1)) he, fun h0 => PsUA.ext HLW.out (s2 (more_ne h0 rfl)) he, fun h0 => keepQ (f6 (more_ne h0 rfl)) he, fun h0 => keepQ (f7 (more_ne h0 rfl)) he, fun h0 => keepQ (f8 (more_ne h0 rfl)) he⟩)
    have HU := Lib.hid (show (upd V 11 (.pointer (some ⟨g, 0, none⟩))) 0 = .pointer (some ⟨g, 0, none⟩) from e0)
    clear hK hC hW hL HV s0 s1 s2 f6 f7 f8
    rw [HFR.out]
    rw [e0]
    clear e0
    go_wp2_with fail
    show K _ _
    have := H.out _ (Ext.refl _)
    rw [HFR.out] at this
    obtain u0 := HU.out
    rw [u0] at this
    exact this
  · rintro L A W K hL hC hW ⟨V, rfl, HV, s0, s1, s2, f6, f7, f8⟩ hK
    have e11 : V 11 = .pointer (some ⟨g, 0, none⟩) := HV 11 _ rfl (hW 11 rfl)
    have H := Lib.hid (show ∀ W', Ext W W' → K (fr (upd V 12 (.pointer (some ⟨g, 0, none⟩)))) W' from fun W' he => hK _ _ ⟨upd V 12 (.pointer (some ⟨g, 0, none⟩)), rfl, HV.up 12 _ (fun x hx => Option.some.inj hx), fun h0 => PsSA.ext (s0 (by unfold More at h0; rwa [if_neg (by decide)] at h0)) he, fun h0 h1 => PsTA.ext HLW.out (s1 (more_ne h0 rfl) (by unfold More at h1; rwa [if_neg (by decide)] at h1)) he, fun h0 => PsUA.ext HLW.out (s2 (more_ne h0 rfl)) he, fun h0 => keepQ (f6 (more_ne h0 rfl)) he, fun h0 => keepQ (f7 (more_ne h0 rfl)) he, fun h0 => keepQ (f8 (more_ne h0 rfl)) he⟩)
    have HU := Lib.hid (show (upd V 12 (.pointer (some ⟨g, 0, none⟩))) 11 = .pointer (some ⟨g, 0, none⟩) from e11)
    clear hK hC hW hL HV s0 s1 s2 f6 f7 f8
    rw [HFR.out]
    rw [e11]
    clear e11
    go_wp2_with fail
    show K _ _
    have := H.out _ (Ext.refl _)
    rw [HFR.out] at this
    obtain u11 := HU.out
    rw [u11] at this
    exact this
  · rintro L A W K hL hC hW ⟨V, rfl, HV, s0, s1, s2, f6, f7, f8⟩ hK
    have e12 : V 12 = .pointer (some ⟨g, 0, none⟩) := HV 12 _ rfl (hW 12 rfl)
    have hB := s1 (hC 7 _ rfl (hC 8 _ rfl (hW 8 rfl) 7 rfl) 6 rfl) hL
    have q8 := f8 (hW 8 rfl)
    obtain ⟨A8, c8, k8, e8⟩ := q8
    have H := Lib.hid (show ∀ W', (PsUA lo g (.slice A0 n0 c0) us up x q wr W') → K (fr (V)) W' from fun W' hA => hK _ _ ⟨V, rfl, HV.st 13 rfl, fun h0 => absurd (show L 6 = false by unfold More at h0; rwa [if_neg (by decide)] at h0) (by rw [(hC 7 _ rfl (hC 8 _ rfl (hW 8 rfl) 7 rfl) 6 rfl)]; simp), fun h0 h1 => absurd h1 (by unfold More; rw [if_pos rfl]; simp), fun h0 => hA, fun h0 => (f6 (more_ne h0 rfl)), fun h0 => (f7 (more_ne h0 rfl)), fun h0 => (f8 (more_ne h0 rfl))⟩)
    have HU := Lib.hid (show (V) 12 = .pointer (some ⟨g, 0, none⟩) ∧ (V) 8 = .slice A8 (ptL x.a q).length c8 from ⟨e12, e8⟩)
    clear hK hC hW hL HV s0 s1 s2 f6 f7 f8
    rw [HFR.out]
    rw [e12, e8]
    clear e12 e8
    obtain ⟨A7, c7, e7, h7, hb7⟩ := hB
    rw [k8] at e7
    injection e7 with e7
    injection e7 with e7
    injection e7 with e7 _
    injection e7 with e7 _ e8
    subst e7 e8
    have HB := Lib.hid h7
    have HBB := Lib.hid hb7
    have hc : W.cell? ⟨g, 0, none⟩ = some (.slice A0 n0 c0) := h7.1.1.cell 0 _ rfl
    have hf : W.frozen? ⟨g, 0, none⟩ = false := h7.1.1.frozen 0
    clear h7 hb7 k8
    go_wp2_with fail
    have HA := Lib.hid (show PsUA lo g (.slice A0 n0 c0) us up x q wr (W.setCell ⟨g, 0, none⟩ (.slice A8 (ptL x.a q).length c8)) from ⟨_, AxO.setA HB.out, Below.trans HBB.out (below_grown (by have := HBB.out.size; have := HLW.out; omega) (grown_set _ _ _ _) (fun j hj => by injection hj with hj; have := HB.out.1.2; omega))⟩)
    show K _ _
    have := H.out _ HA.out
    rw [HFR.out] at this
    obtain ⟨u12, u8⟩ := HU.out
    rw [u12, u8] at this
    exact this
  · rintro L A W K hL hC hW ⟨V, rfl, HV, s0, s1, s2, f6, f7, f8⟩ hK
    have e9 : V 9 = .bool (ptB x.a q) := HV 9 _ rfl (hW 9 rfl)
    have H := Lib.hid (show ∀ W', Ext W W' → K (fr (upd V 14 (.bool (ptB x.a q)))) W' from fun W' he => hK _ _ ⟨upd V 14 (.bool (ptB x.a q)), rfl, HV.up 14 _ (fun x hx => Option.some.inj hx), fun h0 => PsSA.ext (s0 (by unfold More at h0; rwa [if_neg (by decide)] at h0)) he, fun h0 h1 => PsTA.ext HLW.out (s1 (more_ne h0 rfl) (by unfold More at h1; rwa [if_neg (by decide)] at h1)) he, fun h0 => PsUA.ext HLW.out (s2 (more_ne h0 rfl)) he, fun h0 => keepQ (f6 (more_ne h0 rfl)) he, fun h0 => keepQ (f7 (more_ne h0 rfl)) he, fun h0 => keepQ (f8 (more_ne h0 rfl)) he⟩)
    have HU := Lib.hid (show (upd V 14 (.bool (ptB x.a q))) 9 = .bool (ptB x.a q) from e9)
    clear hK hC hW hL HV s0 s1 s2 f6 f7 f8
    rw [HFR.out]
    rw [e9]
    clear e9
    go_wp2_with fail
    show K _ _
    have := H.out _ (Ext.refl _)
    rw [HFR.out] at this
    obtain u9 := HU.out
    rw [u9] at this
    exact this
  · rintro L A W K hL hC hW ⟨V, rfl, HV, s0, s1, s2, f6, f7, f8⟩ hK
    have e10 : V 10 = .int .i64 (ptE x.a q) := HV 10 _ rfl (hW 10 rfl)
    have H := Lib.hid (show ∀ W', Ext W W' → K (fr (upd V 15 (.int .i64 (ptE x.a q)))) W' from fun W' he => hK _ _ ⟨upd V 15 (.int .i64 (ptE x.a q)), rfl, HV.up 15 _ (fun x hx => Option.some.inj hx), fun h0 => PsSA.ext (s0 (by unfold More at h0; rwa [if_neg (by decide)] at h0)) he, fun h0 h1 => PsTA.ext HLW.out (s1 (more_ne h0 rfl) (by unfold More at h1; rwa [if_neg (by decide)] at h1)) he, fun h0 => PsUA.ext HLW.out (s2 (more_ne h0 rfl)) he, fun h0 => keepQ (f6 (more_ne h0 rfl)) he, fun h0 => keepQ (f7 (more_ne h0 rfl)) he, fun h0 => keepQ (f8 (more_ne h0 rfl)) he⟩)
    have HU := Lib.hid (show (upd V 15 (.int .i64 (ptE x.a q))) 10 = .int .i64 (ptE x.a q) from e10)
    clear hK hC hW hL HV s0 s1 s2 f6 f7 f8
    rw [HFR.out]
    rw [e10]
    clear e10
    go_wp2_with fail
    show K _ _
    have := H.out _ (Ext.refl _)
    rw [HFR.out] at this
    obtain u10 := HU.out
    rw [u10] at this
    exact this
  · rintro L A W hL ⟨V, rfl, HV, s0, s1, s2, f6, f7, f8⟩
    have e0 : V 0 = .pointer (some ⟨g, 0, none⟩) := HV 0 _ rfl (hL 0 (by simp))
    have e1 : V 1 = .pointer (some ⟨g, 0, none⟩) := HV 1 _ rfl (hL 1 (by simp))
    have e2 : V 2 = .pointer (some ⟨g, 0, none⟩) := HV 2 _ rfl (hL 2 (by simp))
    have e3 : V 3 = .pointer (some ⟨g, 0, none⟩) := HV 3 _ rfl (hL 3 (by simp))
    have e4 : V 4 = .slice A0 n0 c0 := HV 4 _ rfl (hL 4 (by simp))
    have e5 : V 5 = .int .u64 (q.addr : Nat) := HV 5 _ rfl (hL 5 (by simp))
    have e9 : V 9 = .bool (ptB x.a q) := HV 9 _ rfl (hL 9 (by simp))
    have e10 : V 10 = .int .i64 (ptE x.a q) := HV 10 _ rfl (hL 10 (by simp))
    have e11 : V 11 = .pointer (some ⟨g, 0, none⟩) := HV 11 _ rfl (hL 11 (by simp))
    have e12 : V 12 = .pointer (some ⟨g, 0, none⟩) := HV 12 _ rfl (hL 12 (by simp))
    have e14 : V 14 = .bool (ptB x.a q) := HV 14 _ rfl (hL 14 (by simp))
    have e15 : V 15 = .int .i64 (ptE x.a q) := HV 15 _ rfl (hL 15 (by simp))
    have hA := s2 (hL 13 (by simp))
    have p12 := f6 (hL 6 (by simp))
    have p5 := f7 (hL 7 (by simp))
    have p13 := f8 (hL 8 (by simp))
    rw [HFR.out]
    rw [e0, e1, e2, e3, e4, e5, e9, e10, e11, e12, e14, e15]
    clear hL HV HFR e0 e1 e2 e3 e4 e5 e9 e10 e11 e12 e14 e15 s0 s1 s2 f6 f7 f8
    have HAA := Lib.hid hA
    clear hA
    go_wp2_with fail
    refine bodyPost_ret (results_tmp2 rfl _ _ _) rfl ?_
    exact ⟨rfl, HAA.out⟩
def PsTS (lo g : Nat) (ua us up : Value) (x : Ax) (q : Pe) (wr W : World) (val : Value) : Prop := ∃ A c, val = .tuple #[.slice A (ptL x.s q).length c, .bool (ptB x.s q), .int .i64 (ptE x.s q)] ∧ ((Cs W g 26 #[ua, us, up] ∧ lo ≤ g) ∧ OwnA W lo ua x.a ∧ OwnS W lo (.slice A (ptL x.s q).length c) (ptL x.s q) ∧ OwnP W lo up x.p) ∧ Below lo wr W
set_option maxRecDepth 100000 in
theorem PsTS.ext {lo g : Nat} {ua us up : Value} {x : Ax} {q : Pe} {wr W W' : World} {val : Value} (hw : lo ≤ wr.heap.size) (h : PsTS lo g ua us up x q wr W val) (he : Ext W W') : PsTS lo g ua us up x q wr W' val := by
  obtain ⟨A, c, e, ⟨⟨h0, h1⟩, h2, h3, h4⟩, hb⟩ := h
  exact ⟨A, c, e, ⟨⟨Cs.ext h0 he, h1⟩, h2.ext he, h3.ext he, h4.ext he⟩, Below.trans hb (Below.mono he (Nat.le_trans hw hb.size))⟩
def PsUS (lo g : Nat) (ua _us up : Value) (x : Ax) (q : Pe) (wr W : World) : Prop := ∃ v', AxO lo g W ua v' up { x with s := ptL x.s q } ∧ Below lo wr W
set_option maxRecDepth 100000 in
theorem PsUS.ext {lo g : Nat} {ua us up : Value} {x : Ax} {q : Pe} {wr W W' : World} (hw : lo ≤ wr.heap.size) (h : PsUS lo g ua us up x q wr W) (he : Ext W W') : PsUS lo g ua us up x q wr W' := by
  obtain ⟨v', h, hb⟩ := h
  exact ⟨v', h.ext he, Below.trans hb (Below.mono he (Nat.le_trans hw hb.size))⟩
def PtTS (l : List Pe) (q : Pe) (val : Value) : Prop := ∃ A c, val = .tuple #[.slice A (ptL l q).length c, .bool (ptB l q), .int .i64 (ptE l q)]
set_option maxRecDepth 100000 in
theorem PsSS.ext {lo g ga : Nat} {ua us up : Value} {x : Ax} {cs : Array Value} {wr W W' : World} (h : (AxO lo g W ua us up x ∧ lo ≤ W.heap.size) ∧ Ext wr W ∧ Cs W ga 32 cs ∧ True) (he : Ext W W') : (AxO lo g W' ua us up x ∧ lo ≤ W'.heap.size) ∧ Ext wr W' ∧ Cs W' ga 32 cs ∧ True := ⟨⟨h.1.1.ext he, Nat.le_trans h.1.2 he.size⟩, h.2.1.trans he, Cs.ext h.2.2.1 he, trivial⟩
set_option maxRecDepth 100000 in
set_option maxHeartbeats 8000000 in
theorem reach1_any (lo g ga : Nat) (ua us up : Value) (x : Ax) (q : Pe) (wr : World) (ho : AxO lo g wr ua us up x) (hlw : lo ≤ wr.heap.size) (hrs : rsB x.s = true) (hq : okS q) (hga : Cs wr ga 32 (cS q)) :
    Calls Try.prog 62 #[.pointer (some ⟨g, 0, none⟩), .pointer (some ⟨ga, 0, none⟩)] wr fun e w' => e = .returned (.tuple #[.bool (ptB x.s q), .int .i64 (ptE x.s q)]) ∧ PsUS lo g ua us up x q wr w' := by
  have HO := Lib.hid ho
  have HLW := Lib.hid hlw
  have HRS := Lib.hid hrs
  have HQ := Lib.hid hq
  have HGA := Lib.hid hga
  obtain ⟨A0, c0, e0, _, _⟩ := ho.2.2.1.sl
  obtain ⟨n0, hn0⟩ : ∃ n, x.s.length = n := ⟨_, rfl⟩
  rw [hn0] at e0
  subst e0
  clear ho hlw hrs hq hga hn0
  go_enter Try.func62, Try.ntmps62
  go_upto_region 1 with fail
  refine wp_named fun a0 ha0 => ?_
  obtain ⟨fr, hfr⟩ : ∃ fr : (Nat → Value) → Act, ∀ V, fr V = (((((((((((((((a0.put (some 6) (V 0)).put (some 7) (V 1)).put (some 8) (V 2)).put (some 9) (V 3)).put (some 10) (V 4)).put (some 11) (V 5)).put (some 12) (V 6)).put (some 5) (V 7)).put (some 13) (V 8)).put (some 14) (V 9)).put (some 15) (V 10)).put (some 16) (V 11)).put (some 17) (V 12)).put (some 3) (V 14)).put (some 4) (V 15)) := ⟨fun V => (((((((((((((((a0.put (some 6) (V 0)).put (some 7) (V 1)).put (some 8) (V 2)).put (some 9) (V 3)).put (some 10) (V 4)).put (some 11) (V 5)).put (some 12) (V 6)).put (some 5) (V 7)).put (some 13) (V 8)).put (some 14) (V 9)).put (some 15) (V 10)).put (some 16) (V 11)).put (some 17) (V 12)).put (some 3) (V 14)).put (some 4) (V 15)), fun _ => rfl⟩
  rw [ha0] at hfr
  simp only [Act.put, List.setIfInBounds_toArray, List.set_cons_zero, List.set_cons_succ] at hfr
  have HFR := Lib.hid hfr
  clear hfr
  refine wp_region_inv (by kernel_rfl) (by kernel_rfl) (fun L A W => ∃ V : Nat → Value, A = fr V ∧ Vals (fun j => ([some (.pointer (some ⟨g, 0, none⟩)), some (.pointer (some ⟨g, 0, none⟩)), some (.pointer (some ⟨g, 0, none⟩)), some (.pointer (some ⟨g, 1, none⟩)), some (.slice A0 n0 c0), some (.agg (cS q)), none, none, none, some (.bool (ptB x.s q)), some (.int .i64 (ptE x.s q)), some (.pointer (some ⟨g, 0, none⟩)), some (.pointer (some ⟨g, 1, none⟩)), none, some (.bool (ptB x.s q)), some (.int .i64 (ptE x.s q))] : List (Option Value)).getD j none) L V ∧ (L 6 = false → (AxO lo g W ua (.slice A0 n0 c0) up x ∧ lo ≤ W.heap.size) ∧ Ext wr W ∧ Cs W ga 32 (cS q) ∧ True) ∧ (L 6 = true → L 13 = false → PsTS lo g ua (.slice A0 n0 c0) up x q wr W (V 6)) ∧ (L 13 = true → PsUS lo g ua (.slice A0 n0 c0) up x q wr W) ∧ (L 6 = true → PtTS x.s q (V 6)) ∧ (L 7 = true → ((V 7) = V 6 ∧ PtTS x.s q (V 7))) ∧ (L 8 = true → (∃ A c, V 6 = .tuple #[.slice A (ptL x.s q).length c, .bool (ptB x.s q), .int .i64 (ptE x.s q)] ∧ (V 8) = .slice A (ptL x.s q).length c))) ?_ ⟨?_, ?_, ?_, ?_, ?_, ?_, ?_, ?_, ?_, ?_, ?_, ?_, ?_, ?_, ?_, ?_, trivial⟩ ?_
  · refine ⟨fun j => a0.tmps.getD (([6, 7, 8, 9, 10, 11, 12, 5, 13, 14, 15, 16, 17, 0, 3, 4] : List Nat).getD j 0) undef, ?_, Vals.no _ _ _ (far_none _ _ rfl), fun _ => ⟨⟨HO.out.ext (Ext.refl _).drew, by have := HLW.out; simpa using this⟩, (Ext.refl _).drew, Cs.ext HGA.out (Ext.refl _).drew, trivial⟩, fun h0 h1 => absurd h0 (by decide), fun h0 => absurd h0 (by decide), fun h0 => absurd h0 (by decide), fun h0 => absurd h0 (by decide), fun h0 => absurd h0 (by decide)⟩
    rw [HFR.out, ha0]
    rfl
  all_goals clear ha0
  · rintro L A W K hL hC hW ⟨V, rfl, HV, s0, s1, s2, f6, f7, f8⟩ hK
    have H := Lib.hid (show ∀ W', Ext W W' → K (fr (upd V 0 (.pointer (some ⟨g, 0, none⟩)))) W' from fun W' he => hK _ _ ⟨upd V 0 (.pointer (some ⟨g, 0, none⟩)), rfl, HV.up 0 _ (fun x hx => Option.some.inj hx), fun h0 => PsSS.ext (s0 (by unfold More at h0; rwa [if_neg (by decide)] at h0)) he, fun h0 h1 => PsTS.ext HLW.out (s1 (more_ne h0 rfl) (by unfold More at h1; rwa [if_neg (by decide)] at h1)) he, fun h0 => PsUS.ext HLW.out (s2 (more_ne h0 rfl)) he, fun h0 => keepQ (f6 (more_ne h0 rfl)) he, fun h0 => keepQ (f7 (more_ne h0 rfl)) he, fun h0 => keepQ (f8 (more_ne h0 rfl)) he⟩)
    clear hK hC hW hL HV s0 s1 s2 f6 f7 f8
    rw [HFR.out]
    go_wp2_with fail
    show K _ _
    have := H.out _ (Ext.refl _)
    rw [HFR.out] at this
    exact this
  · rintro L A W K hL hC hW ⟨V, rfl, HV, s0, s1, s2, f6, f7, f8⟩ hK
    have H := Lib.hid (show ∀ W', Ext W W' → K (fr (upd V 1 (.pointer (some ⟨g, 0, none⟩)))) W' from fun W' he => hK _ _ ⟨upd V 1 (.pointer (some ⟨g, 0, none⟩)), rfl, HV.up 1 _ (fun x hx => Option.some.inj hx), fun h0 => PsSS.ext (s0 (by unfold More at h0; rwa [if_neg (by decide)] at h0)) he, fun h0 h1 => PsTS.ext HLW.out (s1 (more_ne h0 rfl) (by unfold More at h1; rwa [if_neg (by decide)] at h1)) he, fun h0 => PsUS.ext HLW.out (s2 (more_ne h0 rfl)) he, fun h0 => keepQ (f6 (more_ne h0 rfl)) he, fun h0 => keepQ (f7 (more_ne h0 rfl)) he, fun h0 => keepQ (f8 (more_ne h0 rfl)) he⟩)
    clear hK hC hW hL HV s0 s1 s2 f6 f7 f8
    rw [HFR.out]
    go_wp2_with fail
    show K _ _
    have := H.out _ (Ext.refl _)
    rw [HFR.out] at this
    exact this
  · rintro L A W K hL hC hW ⟨V, rfl, HV, s0, s1, s2, f6, f7, f8⟩ hK
    have e1 : V 1 = .pointer (some ⟨g, 0, none⟩) := HV 1 _ rfl (hW 1 rfl)
    have H := Lib.hid (show ∀ W', Ext W W' → K (fr (upd V 2 (.pointer (some ⟨g, 0, none⟩)))) W' from fun W' he => hK _ _ ⟨upd V 2 (.pointer (some ⟨g, 0, none⟩)), rfl, HV.up 2 _ (fun x hx => Option.some.inj hx), fun h0 => PsSS.ext (s0 (by unfold More at h0; rwa [if_neg (by decide)] at h0)) he, fun h0 h1 => PsTS.ext HLW.out (s1 (more_ne h0 rfl) (by unfold More at h1; rwa [if_neg (by decide)] at h1)) he, fun h0 => PsUS.ext HLW.out (s2 (more_ne h0 rfl)) he, fun h0 => keepQ (f6 (more_ne h0 rfl)) he, fun h0 => keepQ (f7 (more_ne h0 rfl)) he, fun h0 => keepQ (f8 (more_ne h0 rfl)) he⟩)
    have HU := Lib.hid (show (upd V 2 (.pointer (some ⟨g, 0, none⟩))) 1 = .pointer (some ⟨g, 0, none⟩) from e1)
    clear hK hC hW hL HV s0 s1 s2 f6 f7 f8
    rw [HFR.out]
    rw [e1]
    clear e1
    go_wp2_with fail
    show K _ _
    have := H.out _ (Ext.refl _)
    rw [HFR.out] at this
    obtain u1 := HU.out
    rw [u1] at this
    exact this
  · rintro L A W K hL hC hW ⟨V, rfl, HV, s0, s1, s2, f6, f7, f8⟩ hK
    have e2 : V 2 = .pointer (some ⟨g, 0, none⟩) := HV 2 _ rfl (hW 2 rfl)
    have H := Lib.hid (show ∀ W', Ext W W' → K (fr (upd V 3 (.pointer (some ⟨g, 1, none⟩)))) W' from fun W' he => hK _ _ ⟨upd V 3 (.pointer (some ⟨g, 1, none⟩)), rfl, HV.up 3 _ (fun x hx => Option.some.inj hx), fun h0 => PsSS.ext (s0 (by unfold More at h0; rwa [if_neg (by decide)] at h0)) he, fun h0 h1 => PsTS.ext HLW.out (s1 (more_ne h0 rfl) (by unfold More at h1; rwa [if_neg (by decide)] at h1)) he, fun h0 => PsUS.ext HLW.out (s2 (more_ne h0 rfl)) he, fun h0 => keepQ (f6 (more_ne h0 rfl)) he, fun h0 => keepQ (f7 (more_ne h0 rfl)) he, fun h0 => keepQ (f8 (more_ne h0 rfl)) he⟩)
    have HU := Lib.hid (show (upd V 3 (.pointer (some ⟨g, 1, none⟩))) 2 = .pointer (some ⟨g, 0, none⟩) from e2)
    clear hK hC hW hL HV s0 s1 s2 f6 f7 f8
    rw [HFR.out]
    rw [e2]
    clear e2
    go_wp2_with fail
    show K _ _
    have := H.out _ (Ext.refl _)
    rw [HFR.out] at this
    obtain u2 := HU.out
    rw [u2] at this
    exact this
  · rintro L A W K hL hC hW ⟨V, rfl, HV, s0, s1, s2, f6, f7, f8⟩ hK
    have e3 : V 3 = .pointer (some ⟨g, 1, none⟩) := HV 3 _ rfl (hW 3 rfl)
    have hB := s0 (hC.no hL 6 _ rfl rfl)
    have H := Lib.hid (show ∀ W', Ext W W' → K (fr (upd V 4 (.slice A0 n0 c0))) W' from fun W' he => hK _ _ ⟨upd V 4 (.slice A0 n0 c0), rfl, HV.up 4 _ (fun x hx => Option.some.inj hx), fun h0 => PsSS.ext (s0 (by unfold More at h0; rwa [if_neg (by decide)] at h0)) he, fun h0 h1 => PsTS.ext HLW.out (s1 (more_ne h0 rfl) (by unfold More at h1; rwa [if_neg (by decide)] at h1)) he, fun h0 => PsUS.ext HLW.out (s2 (more_ne h0 rfl)) he, fun h0 => keepQ (f6 (more_ne h0 rfl)) he, fun h0 => keepQ (f7 (more_ne h0 rfl)) he, fun h0 => keepQ (f8 (more_ne h0 rfl)) he⟩)
    have HU := Lib.hid (show (upd V 4 (.slice A0 n0 c0)) 3 = .pointer (some ⟨g, 1, none⟩) from e3)
    clear hK hC hW hL HV s0 s1 s2 f6 f7 f8
    rw [HFR.out]
    rw [e3]
    clear e3
    have hcl := hB.1.1.1.1.cell 1 _ rfl
    clear hB
    go_wp2_with fail
    show K _ _
    have := H.out _ (Ext.refl _)
    rw [HFR.out] at this
    obtain u3 := HU.out
    rw [u3] at this
    exact this
  · rintro L A W K hL hC hW ⟨V, rfl, HV, s0, s1, s2, f6, f7, f8⟩ hK
    have hB := s0 (hC.no hL 6 _ rfl rfl)
    have H := Lib.hid (show ∀ W', Ext W W' → K (fr (upd V 5 (.agg (cS q)))) W' from fun W' he => hK _ _ ⟨upd V 5 (.agg (cS q)), rfl, HV.up 5 _ (fun x hx => Option.some.inj hx), fun h0 => PsSS.ext (s0 (by unfold More at h0; rwa [if_neg (by decide)] at h0)) he, fun h0 h1 => PsTS.ext HLW.out (s1 (more_ne h0 rfl) (by unfold More at h1; rwa [if_neg (by decide)] at h1)) he, fun h0 => PsUS.ext HLW.out (s2 (more_ne h0 rfl)) he, fun h0 => keepQ (f6 (more_ne h0 rfl)) he, fun h0 => keepQ (f7 (more_ne h0 rfl)) he, fun h0 => keepQ (f8 (more_ne h0 rfl)) he⟩)
    clear hK hC hW hL HV s0 s1 s2 f6 f7 f8
    rw [HFR.out]
    have HWD := Lib.hid (Cs.rg hB.2.2.1)
    clear hB
    refine wpList_loadS rfl (.tmp 1) rfl ga 0 q rfl HWD.out ?_
    show K _ _
    have := H.out _ (Ext.refl _)
    rw [HFR.out] at this
    exact this
  · rintro L A W K hL hC hW ⟨V, rfl, HV, s0, s1, s2, f6, f7, f8⟩ hK
    have e4 : V 4 = .slice A0 n0 c0 := HV 4 _ rfl (hW 4 rfl)
    have e5 : V 5 = .agg (cS q) := HV 5 _ rfl (hW 5 rfl)
    have hB := s0 hL
    have H := Lib.hid (show ∀ v W', (PsTS lo g ua (.slice A0 n0 c0) up x q wr W' v) → (PtTS x.s q v) → K (fr (upd V 6 v)) W' from fun v W' hA hp => hK _ _ ⟨upd V 6 v, rfl, HV.up 6 _ (fun x hx => absurd hx (by intro h; cases h)), fun h0 => absurd h0 (by unfold More; rw [if_pos rfl]; simp), fun h0 h1 => hA, fun h0 => absurd (more_ne h0 rfl) (by rw [(hC.no (hC.no (hC.no hL 7 _ rfl rfl) 8 _ rfl rfl) 13 _ rfl rfl)]; simp), fun h0 => hp, fun h0 => absurd (more_ne h0 rfl) (by rw [hC.no hL 7 _ rfl rfl]; simp), fun h0 => absurd (more_ne h0 rfl) (by rw [hC.no (hC.no hL 7 _ rfl rfl) 8 _ rfl rfl]; simp)⟩)
    have HU := Lib.hid (show ∀ v, (upd V 6 v) 4 = .slice A0 n0 c0 ∧ (upd V 6 v) 5 = .agg (cS q) from fun v => ⟨e4, e5⟩)
    clear hK hC hW hL HV s0 s1 s2 f6 f7 f8
    rw [HFR.out]
    rw [e4, e5]
    clear e4 e5
    have HB := Lib.hid hB
    clear hB
    go_wp2_with fail
    refine (putS_any _ x.s q lo _ (HB.out.1.1.2.2.1) HRS.out HQ.out HB.out.1.2).mono ?_
    rintro e wx ⟨v5, rfl, ho, hg⟩
    obtain ⟨A5, c5, e5, _, _⟩ := ho.sl
    subst e5
    have HAA := Lib.hid (HB.out.1.1.putS HB.out.1.2 ho hg)
    have HBB := Lib.hid (Below.trans (Below.mono HB.out.2.1 HLW.out) HAA.out.2.2.2.2)
    have HA := Lib.hid (show PsTS lo g ua (.slice A0 n0 c0) up x q wr wx (.tuple #[.slice A5 (ptL x.s q).length c5, .bool (ptB x.s q), .int .i64 (ptE x.s q)]) from ⟨A5, c5, rfl, ⟨HAA.out.1, HAA.out.2.1, HAA.out.2.2.1, HAA.out.2.2.2.1⟩, HBB.out⟩)
    have HP : Hid (PtTS x.s q (.tuple #[.slice A5 (ptL x.s q).length c5, .bool (ptB x.s q), .int .i64 (ptE x.s q)])) := Lib.hid ⟨A5, c5, rfl⟩
    clear ho hg HAA HBB
    go_wp2_with fail
    show K _ _
    have := H.out _ _ HA.out HP.out
    rw [HFR.out] at this
    obtain ⟨u4, u5⟩ := HU.out _
    rw [u4, u5] at this
    exact this
  · rintro L A W K hL hC hW ⟨V, rfl, HV, s0, s1, s2, f6, f7, f8⟩ hK
    have q6 := f6 (hW 6 rfl)
    obtain ⟨A6, c6, e6⟩ := q6
    have H := Lib.hid (show ∀ v W', Ext W W' → ((v = V 6 ∧ PtTS x.s q v)) → K (fr (upd V 7 v)) W' from fun v W' he hp => hK _ _ ⟨upd V 7 v, rfl, HV.up 7 _ (fun x hx => absurd hx (by intro h; cases h)), fun h0 => PsSS.ext (s0 (by unfold More at h0; rwa [if_neg (by decide)] at h0)) he, fun h0 h1 => PsTS.ext HLW.out (s1 (more_ne h0 rfl) (by unfold More at h1; rwa [if_neg (by decide)] at h1)) he, fun h0 => PsUS.ext HLW.out (s2 (more_ne h0 rfl)) he, fun h0 => keepQ (f6 (more_ne h0 rfl)) he, fun h0 => hp, fun h0 => keepQ (f8 (more_ne h0 rfl)) he⟩)
    have HU := Lib.hid (show ∀ v, (upd V 7 v) 6 = .tuple #[.slice A6 (ptL x.s q).length c6, .bool (ptB x.s q), .int .i64 (ptE x.s q)] from fun v => e6)
    clear hK hC hW hL HV s0 s1 s2 f6 f7 f8
    rw [HFR.out]
    rw [e6]
    clear e6
    go_wp2_with fail
    show K _ _
    have := H.out (.tuple #[.slice A6 (ptL x.s q).length c6, .bool (ptB x.s q), .int .i64 (ptE x.s q)]) _ (Ext.refl _) (⟨(HU.out undef).symm, _, _, rfl⟩)
    rw [HFR.out] at this
    obtain u6 := HU.out _
    rw [u6] at this
    exact this
  · rintro L A W K hL hC hW ⟨V, rfl, HV, s0, s1, s2, f6, f7, f8⟩ hK
    have q6 := f6 (hC 7 _ rfl (hW 7 rfl) 6 rfl)
    have q7 := f7 (hW 7 rfl)
    obtain ⟨A7, c7, e7⟩ := q7.2
    have H := Lib.hid (show ∀ v W', Ext W W' → ((∃ A c, V 6 = .tuple #[.slice A (ptL x.s q).length c, .bool (ptB x.s q), .int .i64 (ptE x.s q)] ∧ v = .slice A (ptL x.s q).length c)) → K (fr (upd V 8 v)) W' from fun v W' he hp => hK _ _ ⟨upd V 8 v, rfl, HV.up 8 _ (fun x hx => absurd hx (by intro h; cases h)), fun h0 => PsSS.ext (s0 (by unfold More at h0; rwa [if_neg (by decide)] at h0)) he, fun h0 h1 => PsTS.ext HLW.out (s1 (more_ne h0 rfl) (by unfold More at h1; rwa [if_neg (by decide)] at h1)) he, fun h0 => PsUS.ext HLW.out (s2 (more_ne h0 rfl)) he, fun h0 => keepQ (f6 (more_ne h0 rfl)) he, fun h0 => keepQ (f7 (more_ne h0 rfl)) he, fun h0 => hp⟩)
    have HU := Lib.hid (show ∀ v, (upd V 8 v) 7 = .tuple #[.slice A7 (ptL x.s q).length c7, .bool (ptB x.s q), .int .i64 (ptE x.s q)] from fun v => e7)
    clear hK hC hW hL HV s0 s1 s2 f6 f7 f8
    rw [HFR.out]
    rw [e7]
    clear e7
    go_wp2_with fail
    show K _ _
    have := H.out (.slice A7 (ptL x.s q).length c7) _ (Ext.refl _) (⟨A7, c7, q7.1.symm.trans (HU.out undef), rfl⟩)
    rw [HFR.out] at this
    obtain u7 := HU.out _
    rw [u7] at this
    exact this
  · rintro L A W K hL hC hW ⟨V, rfl, HV, s0, s1, s2, f6, f7, f8⟩ hK
    have q7 := f7 (hW 7 rfl)
    obtain ⟨A7, c7, e7⟩ := q7.2
    have H := Lib.hid (show ∀ W', Ext W W' → K (fr (upd V 9 (.bool (ptB x.s q)))) W' from fun W' he => hK _ _ ⟨upd V 9 (.bool (ptB x.s q)), rfl, HV.up 9 _ (fun x hx => Option.some.inj hx), fun h0 => PsSS.ext (s0 (by unfold More at h0; rwa [if_neg (by decide)] at h0)) he, fun h0 h1 => PsTS.ext HLW.out (s1 (more_ne h0 rfl) (by unfold More at h1; rwa [if_neg (by decide)] at h1)) he, fun h0 => PsUS.ext HLW.out (s2 (more_ne h0 rfl)) he, fun h0 => keepQ (f6 (more_ne h0 rfl)) he, fun h0 => keepQ (f7 (more_ne h0 rfl)) he, fun h0 => keepQ (f8 (more_ne h0 rfl)) he⟩)
    have HU := Lib.hid (show (upd V 9 (.bool (ptB x.s q))) 7 = .tuple #[.slice A7 (ptL x.s q).length c7, .bool (ptB x.s q), .int .i64 (ptE x.s q)] from e7)
    clear hK hC hW hL HV s0 s1 s2 f6 f7 f8
    rw [HFR.out]
    rw [e7]
    clear e7
    go_wp2_with fail
    show K _ _
    have := H.out _ (Ext.refl _)
    rw [HFR.out] at this
    obtain u7 := HU.out
    rw [u7] at this
    exact this
  · rintro L A W K hL hC hW ⟨V, rfl, HV, s0, s1, s2, f6, f7, f8⟩ hK
    have q7 := f7 (hW 7 rfl)
    obtain ⟨A7, c7, e7⟩ := q7.2
    have H := Lib.hid (show ∀ W', Ext W W' → K (fr (upd V 10 (.int .i64 (ptE x.s q)))) W' from fun W' he => hK _ _ ⟨upd V 10 (.int .i64 (ptE x.s q)), rfl, HV.up 10 _ (fun x hx => Option.some.inj hx), fun h0 => PsSS.ext (s0 (by unfold More at h0; rwa [if_neg (by decide)] at h0)) he, fun h0 h1 => PsTS.ext HLW.out (s1 (more_ne h0 rfl) (by unfold More at h1; rwa [if_neg (by decide)] at h1)) he, fun h0 => PsUS.ext HLW.out (s2 (more_ne h0 rfl)) he, fun h0 => keepQ (f6 (more_ne h0 rfl)) he, fun h0 => keepQ (f7 (more_ne h0 rfl)) he, fun h0 => keepQ (f8 (more_ne h0 rfl)) he⟩)
    have HU := Lib.hid (show (upd V 10 (.int .i64 (ptE x.s q))) 7 = .tuple #[.slice A7 (ptL x.s q).length c7, .bool (ptB x.s q), .int .i64 (ptE x.s q)] from e7)
    clear hK hC hW hL HV s0 s1 s2 f6 f7 f8
    rw [HFR.out]
    rw [e7]
    clear e7
    go_wp2_with fail
    show K _ _
    have := H.out _ (Ext.refl _)
    rw [HFR.out] at this
    obtain u7 := HU.out
    rw [u7] at this
    exact this
  · rintro L A W K hL hC hW ⟨V, rfl, HV, s0, s1, s2, f6, f7, f8⟩ hK
    have e0 : V 0 = .pointer (some ⟨g, 0, none⟩) := HV 0 _ rfl (hW 0 rfl)
    have H := Lib.hid (show ∀ W', Ext W W' → K (fr (upd V 11 (.pointer (some ⟨g, 0, none⟩)))) W' from fun W' he => hK _ _ ⟨upd V 11 (.pointer (some ⟨g, 0, none⟩)), rfl, HV.up 11 _ (fun x hx => Option.some.inj hx), fun h0 => PsSS.ext (s0 (by unfold More at h0; rwa [if_neg (by decide)] at h0)) he, fun h0 h1 => PsTS.ext HLW.out (s1 (more_ne h0 rfl) (by unfold More at h1; rwa [if_neg (by decide)] at h1)) he, fun h0 => PsUS.ext HLW.out (s2 (more_ne h0 rfl)) he, fun h0 => keepQ (f6 (more_ne h0 rfl)) he, fun h0 => keepQ (f7 (more_ne h0 rfl)) he, fun h0 => keepQ (f8 (more_ne h0 rfl)) he⟩)
    have HU := Lib.hid (show (upd V 11 (.pointer (some ⟨g, 0, none⟩))) 0 = .pointer (some ⟨g, 0, none⟩) from e0)
    clear hK hC hW hL HV s0 s1 s2 f6 f7 f8
    rw [HFR.out]
    rw [e0]
    clear e0
    go_wp2_with fail
    show K _ _
    have := H.out _ (Ext.refl _)
    rw [HFR.out] at this
    obtain u0 := HU.out
    rw [u0] at this
    exact this
  · rintro L A W K hL hC hW ⟨V, rfl, HV, s0, s1, s2, f6, f7, f8⟩ hK
    have e11 : V 11 = .pointer (some ⟨g, 0, none⟩) := HV 11 _ rfl (hW 11 rfl)
    have H := Lib.hid (show ∀ W', Ext W W' → K (fr (upd V 12 (.pointer (some ⟨g, 1, none⟩)))) W' from fun W' he => hK _ _ ⟨upd V 12 (.pointer (some ⟨g, 1, none⟩)), rfl, HV.up 12 _ (fun x hx => Option.some.inj hx), fun h0 => PsSS.ext (s0 (by unfold More at h0; rwa [if_neg (by decide)] at h0)) he, fun h0 h1 => PsTS.ext HLW.out (s1 (more_ne h0 rfl) (by unfold More at h1; rwa [if_neg (by decide)] at h1)) he, fun h0 => PsUS.ext HLW.out (s2 (more_ne h0 rfl)) he, fun h0 => keepQ (f6 (more_ne h0 rfl)) he, fun h0 => keepQ (f7 (more_ne h0 rfl)) he, fun h0 => keepQ (f8 (more_ne h0 rfl)) he⟩)
    have HU := Lib.hid (show (upd V 12 (.pointer (some ⟨g, 1, none⟩))) 11 = .pointer (some ⟨g, 0, none⟩) from e11)
    clear hK hC hW hL HV s0 s1 s2 f6 f7 f8
    rw [HFR.out]
    rw [e11]
    clear e11
    go_wp2_with fail
    show K _ _
    have := H.out _ (Ext.refl _)
    rw [HFR.out] at this
    obtain u11 := HU.out
    rw [u11] at this
    exact this
  · rintro L A W K hL hC hW ⟨V, rfl, HV, s0, s1, s2, f6, f7, f8⟩ hK
    have e12 : V 12 = .pointer (some ⟨g, 1, none⟩) := HV 12 _ rfl (hW 12 rfl)
    have hB := s1 (hC 7 _ rfl (hC 8 _ rfl (hW 8 rfl) 7 rfl) 6 rfl) hL
    have q8 := f8 (hW 8 rfl)
    obtain ⟨A8, c8, k8, e8⟩ := q8
    have H := Lib.hid (show ∀ W', (PsUS lo g ua (.slice A0 n0 c0) up x q wr W') → K (fr (V)) W' from fun W' hA => hK _ _ ⟨V, rfl, HV.st 13 rfl, fun h0 => absurd (show L 6 = false by unfold More at h0; rwa [if_neg (by decide)] at h0) (by rw [(hC 7 _ rfl (hC 8 _ rfl (hW 8 rfl) 7 rfl) 6 rfl)]; simp), fun h0 h1 => absurd h1 (by unfold More; rw [if_pos rfl]; simp), fun h0 => hA, fun h0 => (f6 (more_ne h0 rfl)), fun h0 => (f7 (more_ne h0 rfl)), fun h0 => (f8 (more_ne h0 rfl))⟩)
    have HU := Lib.hid (show (V) 12 = .pointer (some ⟨g, 1, none⟩) ∧ (V) 8 = .slice A8 (ptL x.s q).length c8 from ⟨e12, e8⟩)
    clear hK hC hW hL HV s0 s1 s2 f6 f7 f8
    rw [HFR.out]
    rw [e12, e8]
    clear e12 e8
    obtain ⟨A7, c7, e7, h7, hb7⟩ := hB
    rw [k8] at e7
    injection e7 with e7
    injection e7 with e7
    injection e7 with e7 _
    injection e7 with e7 _ e8
    subst e7 e8
    have HB := Lib.hid h7
    have HBB := Lib.hid hb7
    have hc : W.cell? ⟨g, 1, none⟩ = some (.slice A0 n0 c0) := h7.1.1.cell 1 _ rfl
    have hf : W.frozen? ⟨g, 1, none⟩ = false := h7.1.1.frozen 1
    clear h7 hb7 k8
    go_wp2_with fail
    have HA := Lib.hid (show PsUS lo g ua (.slice A0 n0 c0) up x q wr (W.setCell ⟨g, 1, none⟩ (.slice A8 (ptL x.s q).length c8)) from ⟨_, AxO.setS HB.out, Below.trans HBB.out (below_grown (by have := HBB.out.size; have := HLW.out; omega) (grown_set _ _ _ _) (fun j hj => by injection hj with hj; have := HB.out.1.2; omega))⟩)
    show K _ _
    have := H.out _ HA.out
    rw [HFR.out] at this
    obtain ⟨u12, u8⟩ := HU.out
    rw [u12, u8] at this
    exact this
  · rintro L A W K hL hC hW ⟨V, rfl, HV, s0, s1, s2, f6, f7, f8⟩ hK
    have e9 : V 9 = .bool (ptB x.s q) := HV 9 _ rfl (hW 9 rfl)
    have H := Lib.hid (show ∀ W', Ext W W' → K (fr (upd V 14 (.bool (ptB x.s q)))) W' from fun W' he => hK _ _ ⟨upd V 14 (.bool (ptB x.s q)), rfl, HV.up 14 _ (fun x hx => Option.some.inj hx), fun h0 => PsSS.ext (s0 (by unfold More at h0; rwa [if_neg (by decide)] at h0)) he, fun h0 h1 => PsTS.ext HLW.out (s1 (more_ne h0 rfl) (by unfold More at h1; rwa [if_neg (by decide)] at h1)) he, fun h0 => PsUS.ext HLW.out (s2 (more_ne h0 rfl)) he, fun h0 => keepQ (f6 (more_ne h0 rfl)) he, fun h0 => keepQ (f7 (more_ne h0 rfl)) he, fun h0 => keepQ (f8 (more_ne h0 rfl)) he⟩)
    have HU := Lib.hid (show (upd V 14 (.bool (ptB x.s q))) 9 = .bool (ptB x.s q) from e9)
    clear hK hC hW hL HV s0 s1 s2 f6 f7 f8
    rw [HFR.out]
    rw [e9]
    clear e9
    go_wp2_with fail
    show K _ _
    have := H.out _ (Ext.refl _)
    rw [HFR.out] at this
    obtain u9 := HU.out
    rw [u9] at this
    exact this
  · rintro L A W K hL hC hW ⟨V, rfl, HV, s0, s1, s2, f6, f7, f8⟩ hK
    have e10 : V 10 = .int .i64 (ptE x.s q) := HV 10 _ rfl (hW 10 rfl)
    have H := Lib.hid (show ∀ W', Ext W W' → K (fr (upd V 15 (.int .i64 (ptE x.s q)))) W' from fun W' he => hK _ _ ⟨upd V 15 (.int .i64 (ptE x.s q)), rfl, HV.up 15 _ (fun x hx => Option.some.inj hx), fun h0 => PsSS.ext (s0 (by unfold More at h0; rwa [if_neg (by decide)] at h0)) he, fun h0 h1 => PsTS.ext HLW.out (s1 (more_ne h0 rfl) (by unfold More at h1; rwa [if_neg (by decide)] at h1)) he, fun h0 => PsUS.ext HLW.out (s2 (more_ne h0 rfl)) he, fun h0 => keepQ (f6 (more_ne h0 rfl)) he, fun h0 => keepQ (f7 (more_ne h0 rfl)) he, fun h0 => keepQ (f8 (more_ne h0 rfl)) he⟩)
    have HU := Lib.hid (show (upd V 15 (.int .i64 (ptE x.s q))) 10 = .int .i64 (ptE x.s q) from e10)
    clear hK hC hW hL HV s0 s1 s2 f6 f7 f8
    rw [HFR.out]
    rw [e10]
    clear e10
    go_wp2_with fail
    show K _ _
    have := H.out _ (Ext.refl _)
    rw [HFR.out] at this
    obtain u10 := HU.out
    rw [u10] at this
    exact this
  · rintro L A W hL ⟨V, rfl, HV, s0, s1, s2, f6, f7, f8⟩
    have e0 : V 0 = .pointer (some ⟨g, 0, none⟩) := HV 0 _ rfl (hL 0 (by simp))
    have e1 : V 1 = .pointer (some ⟨g, 0, none⟩) := HV 1 _ rfl (hL 1 (by simp))
    have e2 : V 2 = .pointer (some ⟨g, 0, none⟩) := HV 2 _ rfl (hL 2 (by simp))
    have e3 : V 3 = .pointer (some ⟨g, 1, none⟩) := HV 3 _ rfl (hL 3 (by simp))
    have e4 : V 4 = .slice A0 n0 c0 := HV 4 _ rfl (hL 4 (by simp))
    have e5 : V 5 = .agg (cS q) := HV 5 _ rfl (hL 5 (by simp))
    have e9 : V 9 = .bool (ptB x.s q) := HV 9 _ rfl (hL 9 (by simp))
    have e10 : V 10 = .int .i64 (ptE x.s q) := HV 10 _ rfl (hL 10 (by simp))
    have e11 : V 11 = .pointer (some ⟨g, 0, none⟩) := HV 11 _ rfl (hL 11 (by simp))
    have e12 : V 12 = .pointer (some ⟨g, 1, none⟩) := HV 12 _ rfl (hL 12 (by simp))
    have e14 : V 14 = .bool (ptB x.s q) := HV 14 _ rfl (hL 14 (by simp))
    have e15 : V 15 = .int .i64 (ptE x.s q) := HV 15 _ rfl (hL 15 (by simp))
    have hA := s2 (hL 13 (by simp))
    have p12 := f6 (hL 6 (by simp))
    have p5 := f7 (hL 7 (by simp))
    have p13 := f8 (hL 8 (by simp))
    rw [HFR.out]
    rw [e0, e1, e2, e3, e4, e5, e9, e10, e11, e12, e14, e15]
    clear hL HV HFR e0 e1 e2 e3 e4 e5 e9 e10 e11 e12 e14 e15 s0 s1 s2 f6 f7 f8
    have HAA := Lib.hid hA
    clear hA
    go_wp2_with fail
    refine bodyPost_ret (results_tmp2 rfl _ _ _) rfl ?_
    exact ⟨rfl, HAA.out⟩
end Go.Proofs.Ytjampleddeidaaa
