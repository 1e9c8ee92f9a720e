/- The document's sum of layer 7. -/
import Derived.Test.YtepggbhibpjkpaaLra
namespace Go.Proofs.Ytepggbhibpjkpaa
open Go.ChangeShapes Go.WideShapes Go.ChangeAt Go.RowKit Go.Shelf

set_option maxRecDepth 100000 in
theorem sums_over : ∀ (M : List Nat) (s : Nat × Bool), s.2 = true → (M.foldl sumS s).2 = true
  | [], _, h => h
  | x :: M, s, h => sums_over M _ (by unfold sumS; rw [h]; rfl)
set_option maxRecDepth 100000 in
theorem sumW_app (L M : List Nat) : sumW (L ++ M) = M.foldl sumS (sumW L) := by unfold sumW; rw [List.foldl_append]
set_option maxRecDepth 100000 in
theorem flatH_split (l : List Hd) (k : Nat) : flatH l = flatH (l.take k) ++ flatH (l.drop k) := by
  unfold flatH
  rw [← List.flatMap_append, List.take_append_drop]
set_option maxRecDepth 100000 in
/-- The sum goes on by a row: its deposit, its stake. -/
theorem flat_dep {l : List Hd} {k : Nat} (hk : k < l.length) (_h : (sumW (flatH (l.take k))).2 = false) (ho : ovr (sumW (flatH (l.take k))).1 (l.getD k hz0).dep = true) : (sumW (flatH l)).2 = true := by
  rw [flatH_split l (k + 1), flatH_snoc l k hk, sumW_app, sumW_app]
  refine sums_over _ _ ?_
  show ((_ || ovr (sumW (flatH (l.take k))).1 (l.getD k hz0).dep) || _) = true
  rw [ho]
  simp
set_option maxRecDepth 100000 in
theorem flat_stk {l : List Hd} {k : Nat} (hk : k < l.length) (_h : (sumW (flatH (l.take k))).2 = false) (ho : ovr (addN (sumW (flatH (l.take k))).1 (l.getD k hz0).dep) (l.getD k hz0).stk = true) : (sumW (flatH l)).2 = true := by
  rw [flatH_split l (k + 1), flatH_snoc l k hk, sumW_app, sumW_app]
  refine sums_over _ _ ?_
  show (_ || ovr (addN (sumW (flatH (l.take k))).1 (l.getD k hz0).dep) (l.getD k hz0).stk) = true
  rw [ho]
  simp
set_option maxRecDepth 100000 in
theorem flat_on {l : List Hd} {k : Nat} (hk : k < l.length) (h : (sumW (flatH (l.take k))).2 = false) (h1 : ovr (sumW (flatH (l.take k))).1 (l.getD k hz0).dep = false) (h2 : ovr (addN (sumW (flatH (l.take k))).1 (l.getD k hz0).dep) (l.getD k hz0).stk = false) :
    sumW (flatH (l.take (k + 1))) = (addN (addN (sumW (flatH (l.take k))).1 (l.getD k hz0).dep) (l.getD k hz0).stk, false) := by
  rw [flatH_snoc l k hk, sumW_app]
  show (addN (addN (sumW (flatH (l.take k))).1 (l.getD k hz0).dep) (l.getD k hz0).stk, ((sumW (flatH (l.take k))).2 || ovr (sumW (flatH (l.take k))).1 (l.getD k hz0).dep) || ovr (addN (sumW (flatH (l.take k))).1 (l.getD k hz0).dep) (l.getD k hz0).stk) = _
  rw [h, h1, h2]
  rfl
/-- What lies there while the document sums. -/
def RsJ (w : World) (gL gR gN : Nat) (v : Value) (s : Nat) (W : World) : Prop := Cs W gL 88 #[v] ∧ Cs W gR 29 (wc 0) ∧ Cs W gN 29 (wc s) ∧ Ext w W
set_option maxRecDepth 100000 in
theorem RsJ.ext {w : World} {gL gR gN : Nat} {v : Value} {s : Nat} {W W' : World} (h : RsJ w gL gR gN v s W) (he : Ext W W') : RsJ w gL gR gN v s W' := ⟨Cs.ext h.1 he, Cs.ext h.2.1 he, Cs.ext h.2.2.1 he, h.2.2.2.trans he⟩
set_option maxRecDepth 100000 in
set_option maxHeartbeats 4000000 in
theorem refSumL_any (v : Value) (l : List Hd) (w : World) (hs : Hds w v l) : Calls Try.prog 135 #[.agg #[v]] w fun e w' => ∃ n, e = .returned (.tuple #[wv n, .bool (!(sumW (flatH l)).2)]) ∧ Ext w w' := by
  have HS := Lib.hid hs
  have HOK := Lib.hid hs.oks
  obtain ⟨A1, c1, rfl, h1, h2⟩ := hs.len
  unfold maxLen at h2
  obtain ⟨w0, hw0⟩ : ∃ w0, ((w.alloc (.cells #[.slice A1 l.length c1] 88)).alloc (.cells (wc 0) 29)).alloc (.cells (wc 0) 29) = w0 := ⟨_, rfl⟩
  have HW0 := Lib.hid hw0
  have HJ0 : Hid (RsJ w w.heap.size (w.heap.size + 1) (w.heap.size + 1 + 1) (.slice A1 l.length c1) 0 w0) := Lib.hid (by
    rw [← hw0]
    exact ⟨Cs.alloc (Cs.alloc (Cs.new _ _ _ _ rfl) _) _, Cs.alloc (Cs.new _ _ _ _ (by simp)) _, Cs.new _ _ _ _ (by simp), (((Ext.refl w).alloc _).alloc _).alloc _⟩)
  clear hw0 hs
  go_enter Try.func135, Try.ntmps135
  go_upto_region 2 with fail
  rw [show ((w.alloc (.cells #[.slice A1 l.length c1] 88)).alloc (.cells #[.int .u64 0, .int .u64 0, .int .u64 0, .int .u64 0] 29)).alloc (.cells #[.int .u64 0, .int .u64 0, .int .u64 0, .int .u64 0] 29) = w0 from HW0.out]
  clear HW0
  have HGG := Lib.hid (show w.heap.size < w.heap.size + 1 ∧ w.heap.size + 1 < w.heap.size + 1 + 1 ∧ w.heap.size ≤ w.heap.size by omega)
  obtain ⟨gL, hgL⟩ : ∃ g, w.heap.size = g := ⟨_, rfl⟩
  rw [show (w.heap.size < w.heap.size + 1 ∧ w.heap.size + 1 < w.heap.size + 1 + 1 ∧ w.heap.size ≤ w.heap.size) = (gL < gL + 1 ∧ gL + 1 < gL + 1 + 1 ∧ w.heap.size ≤ gL) by rw [hgL]] at HGG
  rw [hgL] at HJ0 ⊢
  clear hgL
  obtain ⟨gR, hgR⟩ : ∃ g, gL + 1 = g := ⟨_, rfl⟩
  rw [hgR] at HJ0 HGG ⊢
  obtain ⟨gN, hgN⟩ : ∃ g, gR + 1 = g := ⟨_, rfl⟩
  rw [hgN] at HJ0 HGG ⊢
  clear hgR hgN
  go_wp2_with fail
  go_loopw [5, 6] (fun ov iv wr => ∃ k : Nat, k ≤ l.length ∧ iv = .int .i64 k ∧ ov = .bool false ∧ Hid ((sumW (flatH (l.take k))).2 = false ∧ RsJ w gL gR gN (.slice A1 l.length c1) (sumW (flatH (l.take k))).1 wr)) (fun _ iv _ => l.length - (intOf iv).toNat)
  case atStart => exact ⟨0, by omega, rfl, rfl, Lib.hid ⟨rfl, HJ0.out⟩⟩
  case round =>
    clear HJ0
    obtain ⟨k, hk, rfl, rfl, HJ⟩ := hrel
    have qL := HJ.out.2.1.cell 0 _ rfl
    by_cases hlt : k < l.length
    · have hd : decide (k < l.length) = true := decide_eq_true hlt
      have hd2 : decide ((k : Int) < (l.length : Int)) = true := decide_eq_true (by omega)
      obtain ⟨bb, oo, rfl, hrg, hp⟩ := HS.out.at k hlt
      have HR := Lib.hid hrg
      have HP1 := Lib.hid hp.2.1
      have HP2 := Lib.hid hp.2.2.1
      have HD1 := Lib.hid (flat_dep hlt HJ.out.1)
      have HD2 := Lib.hid (flat_stk hlt HJ.out.1)
      have HD3 := Lib.hid (flat_on hlt HJ.out.1)
      have HSL := Lib.hid (sumW_lt (flatH (l.take k)))
      have HJ6 := Lib.hid HJ.out.2
      clear hrg hp HJ
      generalize (sumW (flatH (l.take k))).1 = s at *
      generalize l.getD k hz0 = p at *
      go_upto_region 6 with fail
      clear qL
      refine wp_named fun a0 ha0 => ?_
      obtain ⟨fr, hfr⟩ : ∃ fr : (Nat → Value) → Act, ∀ V, fr V = ((((((((((((a0.put (some 15) (V 0)).put (some 16) (V 1)).put (some 17) (V 2)).put (some 18) (V 3)).put (some 19) (V 4)).put (some 20) (V 5)).put (some 21) (V 6)).put (some 22) (V 7)).put (some 14) (V 8)).put (some 23) (V 9)).put (some 24) (V 10)).put (some 5) (V 12)) := ⟨fun V => ((((((((((((a0.put (some 15) (V 0)).put (some 16) (V 1)).put (some 17) (V 2)).put (some 18) (V 3)).put (some 19) (V 4)).put (some 20) (V 5)).put (some 21) (V 6)).put (some 22) (V 7)).put (some 14) (V 8)).put (some 23) (V 9)).put (some 24) (V 10)).put (some 5) (V 12)), fun _ => rfl⟩
      rw [ha0] at hfr
      simp only [Act.put, List.setIfInBounds_toArray, List.set_cons_zero, List.set_cons_succ] at hfr
      have HFR := Lib.hid hfr
      clear hfr
      refine wp_region_inv (by kernel_rfl) (by kernel_rfl) (fun L A W => ∃ V : Nat → Value, A = fr V ∧ Vals (fun j => ([some (wv (s)), some (.pointer (some ⟨gL, 0, none⟩)), some (.slice (some ⟨bb, oo, none⟩) l.length c1), some (.int .i64 k), some (.pointer (some ⟨bb, oo + k * 11, none⟩)), some (.pointer (some ⟨bb, oo + k * 11 + 1, none⟩)), some (wv (p.dep)), some (.tuple #[wv (addN (s) (p.dep)), .bool (ovr (s) (p.dep))]), some (.tuple #[wv (addN (s) (p.dep)), .bool (ovr (s) (p.dep))]), some (wv (addN (s) (p.dep))), some (.bool (ovr (s) (p.dep))), none, some (.bool (ovr (s) (p.dep)))] : List (Option Value)).getD j none) L V ∧ (L 11 = false → RsJ w gL gR gN (.slice (some ⟨bb, oo, none⟩) l.length c1) (s) W) ∧ (L 11 = true → RsJ w gL gR gN (.slice (some ⟨bb, oo, none⟩) l.length c1) (addN (s) (p.dep)) W)) ?_ ⟨?_, ?_, ?_, ?_, ?_, ?_, ?_, ?_, ?_, ?_, ?_, ?_, ?_, trivial⟩ ?_
      · refine ⟨fun j => a0.tmps.getD (([15, 16, 17, 18, 19, 20, 21, 22, 14, 23, 24, 0, 5] : List Nat).getD j 0) undef, ?_, Vals.no _ _ _ (far_none _ _ rfl), fun _ => HJ6.out.ext ((Ext.refl _).drew), fun h0 => absurd h0 (by decide)⟩
        rw [HFR.out, ha0]
        rfl
      all_goals clear ha0
      · rintro L A W K hL hC hW ⟨V, rfl, HV, s0, s1⟩ hK
        have hB := s0 (hC.no (hC.no (hC.no (hC.no hL 7 _ rfl rfl) 8 _ rfl rfl) 9 _ rfl rfl) 11 _ rfl rfl)
        have H := Lib.hid (show ∀ W', Ext W W' → K (fr (upd V 0 (wv (s)))) W' from fun W' he => hK _ _ ⟨upd V 0 (wv (s)), rfl, HV.up 0 _ (fun x hx => Option.some.inj hx), fun h0 => RsJ.ext (s0 (by unfold More at h0; rwa [if_neg (by decide)] at h0)) he, fun h0 => RsJ.ext (s1 (more_ne h0 rfl)) he⟩)
        clear hK hC hW hL HV s0 s1
        rw [HFR.out]
        have HWW := Lib.hid (Cs.rg hB.2.2.1)
        clear hB
        refine wpList_load_wordIn rfl (.tmp 4) rfl gN 0 (s) rfl HWW.out ?_
        show K _ _
        have := H.out _ (Ext.refl _)
        rw [HFR.out] at this
        exact this
      · rintro L A W K hL hC hW ⟨V, rfl, HV, s0, s1⟩ hK
        have H := Lib.hid (show ∀ W', Ext W W' → K (fr (upd V 1 (.pointer (some ⟨gL, 0, none⟩)))) W' from fun W' he => hK _ _ ⟨upd V 1 (.pointer (some ⟨gL, 0, none⟩)), rfl, HV.up 1 _ (fun x hx => Option.some.inj hx), fun h0 => RsJ.ext (s0 (by unfold More at h0; rwa [if_neg (by decide)] at h0)) he, fun h0 => RsJ.ext (s1 (more_ne h0 rfl)) he⟩)
        clear hK hC hW hL HV s0 s1
        rw [HFR.out]
        go_wp2_with fail
        show K _ _
        have := H.out _ (Ext.refl _)
        rw [HFR.out] at this
        exact this
      · rintro L A W K hL hC hW ⟨V, rfl, HV, s0, s1⟩ hK
        have e1 : V 1 = .pointer (some ⟨gL, 0, none⟩) := HV 1 _ rfl (hW 1 rfl)
        have hB := s0 (hC.no (hC.no (hC.no (hC.no (hC.no (hC.no (hC.no hL 4 _ rfl rfl) 5 _ rfl rfl) 6 _ rfl rfl) 7 _ rfl rfl) 8 _ rfl rfl) 9 _ rfl rfl) 11 _ rfl rfl)
        have H := Lib.hid (show ∀ W', Ext W W' → K (fr (upd V 2 (.slice (some ⟨bb, oo, none⟩) l.length c1))) W' from fun W' he => hK _ _ ⟨upd V 2 (.slice (some ⟨bb, oo, none⟩) l.length c1), rfl, HV.up 2 _ (fun x hx => Option.some.inj hx), fun h0 => RsJ.ext (s0 (by unfold More at h0; rwa [if_neg (by decide)] at h0)) he, fun h0 => RsJ.ext (s1 (more_ne h0 rfl)) he⟩)
        have HU := Lib.hid (show (upd V 2 (.slice (some ⟨bb, oo, none⟩) l.length c1)) 1 = .pointer (some ⟨gL, 0, none⟩) from e1)
        clear hK hC hW hL HV s0 s1
        rw [HFR.out]
        rw [e1]
        clear e1
        have hcl := hB.1.cell 0 _ rfl
        clear hB
        go_wp2_with fail
        show K _ _
        have := H.out _ (Ext.refl _)
        rw [HFR.out] at this
        obtain u1 := HU.out
        rw [u1] at this
        exact this
      · rintro L A W K hL hC hW ⟨V, rfl, HV, s0, s1⟩ hK
        have H := Lib.hid (show ∀ W', Ext W W' → K (fr (upd V 3 (.int .i64 k))) W' from fun W' he => hK _ _ ⟨upd V 3 (.int .i64 k), rfl, HV.up 3 _ (fun x hx => Option.some.inj hx), fun h0 => RsJ.ext (s0 (by unfold More at h0; rwa [if_neg (by decide)] at h0)) he, fun h0 => RsJ.ext (s1 (more_ne h0 rfl)) he⟩)
        clear hK hC hW hL HV s0 s1
        rw [HFR.out]
        go_wp2_with fail
        show K _ _
        have := H.out _ (Ext.refl _)
        rw [HFR.out] at this
        exact this
      · rintro L A W K hL hC hW ⟨V, rfl, HV, s0, s1⟩ hK
        have e2 : V 2 = .slice (some ⟨bb, oo, none⟩) l.length c1 := HV 2 _ rfl (hW 2 rfl)
        have e3 : V 3 = .int .i64 k := HV 3 _ rfl (hW 3 rfl)
        have H := Lib.hid (show ∀ W', Ext W W' → K (fr (upd V 4 (.pointer (some ⟨bb, oo + k * 11, none⟩)))) W' from fun W' he => hK _ _ ⟨upd V 4 (.pointer (some ⟨bb, oo + k * 11, none⟩)), rfl, HV.up 4 _ (fun x hx => Option.some.inj hx), fun h0 => RsJ.ext (s0 (by unfold More at h0; rwa [if_neg (by decide)] at h0)) he, fun h0 => RsJ.ext (s1 (more_ne h0 rfl)) he⟩)
        have HU := Lib.hid (show (upd V 4 (.pointer (some ⟨bb, oo + k * 11, none⟩))) 2 = .slice (some ⟨bb, oo, none⟩) l.length c1 ∧ (upd V 4 (.pointer (some ⟨bb, oo + k * 11, none⟩))) 3 = .int .i64 k from ⟨e2, e3⟩)
        clear hK hC hW hL HV s0 s1
        rw [HFR.out]
        rw [e2, e3]
        clear e2 e3
        go_wp2_with fail
        show K _ _
        have := H.out _ (Ext.refl _)
        rw [HFR.out] at this
        obtain ⟨u2, u3⟩ := HU.out
        rw [u2, u3] at this
        exact this
      · rintro L A W K hL hC hW ⟨V, rfl, HV, s0, s1⟩ hK
        have e4 : V 4 = .pointer (some ⟨bb, oo + k * 11, none⟩) := HV 4 _ rfl (hW 4 rfl)
        have H := Lib.hid (show ∀ W', Ext W W' → K (fr (upd V 5 (.pointer (some ⟨bb, oo + k * 11 + 1, none⟩)))) W' from fun W' he => hK _ _ ⟨upd V 5 (.pointer (some ⟨bb, oo + k * 11 + 1, none⟩)), rfl, HV.up 5 _ (fun x hx => Option.some.inj hx), fun h0 => RsJ.ext (s0 (by unfold More at h0; rwa [if_neg (by decide)] at h0)) he, fun h0 => RsJ.ext (s1 (more_ne h0 rfl)) he⟩)
        have HU := Lib.hid (show (upd V 5 (.pointer (some ⟨bb, oo + k * 11 + 1, none⟩))) 4 = .pointer (some ⟨bb, oo + k * 11, none⟩) from e4)
        clear hK hC hW hL HV s0 s1
        rw [HFR.out]
        rw [e4]
        clear e4
        go_wp2_with fail
        show K _ _
        have := H.out _ (Ext.refl _)
        rw [HFR.out] at this
        obtain u4 := HU.out
        rw [u4] at this
        exact this
      · rintro L A W K hL hC hW ⟨V, rfl, HV, s0, s1⟩ hK
        have e5 : V 5 = .pointer (some ⟨bb, oo + k * 11 + 1, none⟩) := HV 5 _ rfl (hW 5 rfl)
        have hB := s0 (hC.no (hC.no (hC.no (hC.no hL 7 _ rfl rfl) 8 _ rfl rfl) 9 _ rfl rfl) 11 _ rfl rfl)
        have H := Lib.hid (show ∀ W', Ext W W' → K (fr (upd V 6 (wv (p.dep)))) W' from fun W' he => hK _ _ ⟨upd V 6 (wv (p.dep)), rfl, HV.up 6 _ (fun x hx => Option.some.inj hx), fun h0 => RsJ.ext (s0 (by unfold More at h0; rwa [if_neg (by decide)] at h0)) he, fun h0 => RsJ.ext (s1 (more_ne h0 rfl)) he⟩)
        have HU := Lib.hid (show (upd V 6 (wv (p.dep))) 5 = .pointer (some ⟨bb, oo + k * 11 + 1, none⟩) from e5)
        clear hK hC hW hL HV s0 s1
        rw [HFR.out]
        rw [e5]
        clear e5
        have HWW := Lib.hid (fun (j : Nat) (x : Value) (hx : (wc (p.dep)).toList[j]? = some x) => hB.2.2.2.cell (hd_dep (HR.out) j x hx))
        clear hB
        refine wpList_load_wordIn rfl (.tmp 20) rfl bb (oo + k * 11 + 1) (p.dep) rfl HWW.out ?_
        show K _ _
        have := H.out _ (Ext.refl _)
        rw [HFR.out] at this
        obtain u5 := HU.out
        rw [u5] at this
        exact this
      · rintro L A W K hL hC hW ⟨V, rfl, HV, s0, s1⟩ hK
        have e0 : V 0 = wv (s) := HV 0 _ rfl (hW 0 rfl)
        have e6 : V 6 = wv (p.dep) := HV 6 _ rfl (hW 6 rfl)
        have hB := s0 (hC.no (hC.no (hC.no hL 8 _ rfl rfl) 9 _ rfl rfl) 11 _ rfl rfl)
        have H := Lib.hid (show ∀ W', Ext W W' → K (fr (upd V 7 (.tuple #[wv (addN (s) (p.dep)), .bool (ovr (s) (p.dep))]))) W' from fun W' he => hK _ _ ⟨upd V 7 (.tuple #[wv (addN (s) (p.dep)), .bool (ovr (s) (p.dep))]), rfl, HV.up 7 _ (fun x hx => Option.some.inj hx), fun h0 => RsJ.ext (s0 (by unfold More at h0; rwa [if_neg (by decide)] at h0)) he, fun h0 => RsJ.ext (s1 (more_ne h0 rfl)) he⟩)
        have HU := Lib.hid (show (upd V 7 (.tuple #[wv (addN (s) (p.dep)), .bool (ovr (s) (p.dep))])) 0 = wv (s) ∧ (upd V 7 (.tuple #[wv (addN (s) (p.dep)), .bool (ovr (s) (p.dep))])) 6 = wv (p.dep) from ⟨e0, e6⟩)
        clear hK hC hW hL HV s0 s1
        rw [HFR.out]
        rw [e0, e6]
        clear e0 e6
        clear hB
        go_wp2_with fail
        refine (refAdd_any (s) (p.dep) _ HSL.out HP1.out).mono ?_
        rintro e wx ⟨rfl, _, he⟩
        have := H.out _ he
        clear H
        go_wp2_with fail
        show K _ _
        rw [HFR.out] at this
        obtain ⟨u0, u6⟩ := HU.out
        rw [u0, u6] at this
        exact this
      · rintro L A W K hL hC hW ⟨V, rfl, HV, s0, s1⟩ hK
        have e7 : V 7 = .tuple #[wv (addN (s) (p.dep)), .bool (ovr (s) (p.dep))] := HV 7 _ rfl (hW 7 rfl)
        have H := Lib.hid (show ∀ W', Ext W W' → K (fr (upd V 8 (.tuple #[wv (addN (s) (p.dep)), .bool (ovr (s) (p.dep))]))) W' from fun W' he => hK _ _ ⟨upd V 8 (.tuple #[wv (addN (s) (p.dep)), .bool (ovr (s) (p.dep))]), rfl, HV.up 8 _ (fun x hx => Option.some.inj hx), fun h0 => RsJ.ext (s0 (by unfold More at h0; rwa [if_neg (by decide)] at h0)) he, fun h0 => RsJ.ext (s1 (more_ne h0 rfl)) he⟩)
        have HU := Lib.hid (show (upd V 8 (.tuple #[wv (addN (s) (p.dep)), .bool (ovr (s) (p.dep))])) 7 = .tuple #[wv (addN (s) (p.dep)), .bool (ovr (s) (p.dep))] from e7)
        clear hK hC hW hL HV s0 s1
        rw [HFR.out]
        rw [e7]
        clear e7
        go_wp2_with fail
        show K _ _
        have := H.out _ (Ext.refl _)
        rw [HFR.out] at this
        obtain u7 := HU.out
        rw [u7] at this
        exact this
      · rintro L A W K hL hC hW ⟨V, rfl, HV, s0, s1⟩ hK
        have e8 : V 8 = .tuple #[wv (addN (s) (p.dep)), .bool (ovr (s) (p.dep))] := HV 8 _ rfl (hW 8 rfl)
        have H := Lib.hid (show ∀ W', Ext W W' → K (fr (upd V 9 (wv (addN (s) (p.dep))))) W' from fun W' he => hK _ _ ⟨upd V 9 (wv (addN (s) (p.dep))), rfl, HV.up 9 _ (fun x hx => Option.some.inj hx), fun h0 => RsJ.ext (s0 (by unfold More at h0; rwa [if_neg (by decide)] at h0)) he, fun h0 => RsJ.ext (s1 (more_ne h0 rfl)) he⟩)
        have HU := Lib.hid (show (upd V 9 (wv (addN (s) (p.dep)))) 8 = .tuple #[wv (addN (s) (p.dep)), .bool (ovr (s) (p.dep))] from e8)
        clear hK hC hW hL HV s0 s1
        rw [HFR.out]
        rw [e8]
        clear e8
        go_wp2_with fail
        show K _ _
        have := H.out _ (Ext.refl _)
        rw [HFR.out] at this
        obtain u8 := HU.out
        rw [u8] at this
        exact this
      · rintro L A W K hL hC hW ⟨V, rfl, HV, s0, s1⟩ hK
        have e8 : V 8 = .tuple #[wv (addN (s) (p.dep)), .bool (ovr (s) (p.dep))] := HV 8 _ rfl (hW 8 rfl)
        have H := Lib.hid (show ∀ W', Ext W W' → K (fr (upd V 10 (.bool (ovr (s) (p.dep))))) W' from fun W' he => hK _ _ ⟨upd V 10 (.bool (ovr (s) (p.dep))), rfl, HV.up 10 _ (fun x hx => Option.some.inj hx), fun h0 => RsJ.ext (s0 (by unfold More at h0; rwa [if_neg (by decide)] at h0)) he, fun h0 => RsJ.ext (s1 (more_ne h0 rfl)) he⟩)
        have HU := Lib.hid (show (upd V 10 (.bool (ovr (s) (p.dep)))) 8 = .tuple #[wv (addN (s) (p.dep)), .bool (ovr (s) (p.dep))] from e8)
        clear hK hC hW hL HV s0 s1
        rw [HFR.out]
        rw [e8]
        clear e8
        go_wp2_with fail
        show K _ _
        have := H.out _ (Ext.refl _)
        rw [HFR.out] at this
        obtain u8 := HU.out
        rw [u8] at this
        exact this
      · rintro L A W K hL hC hW ⟨V, rfl, HV, s0, s1⟩ hK
        have e9 : V 9 = wv (addN (s) (p.dep)) := HV 9 _ rfl (hW 9 rfl)
        have hB := s0 hL
        have H := Lib.hid (show ∀ W', (RsJ w gL gR gN (.slice (some ⟨bb, oo, none⟩) l.length c1) (addN (s) (p.dep)) W') → K (fr (V)) W' from fun W' hA => hK _ _ ⟨V, rfl, HV.st 11 rfl, fun h0 => absurd h0 (by unfold More; rw [if_pos rfl]; simp), fun h0 => hA⟩)
        have HU := Lib.hid (show (V) 9 = wv (addN (s) (p.dep)) from e9)
        clear hK hC hW hL HV s0 s1
        rw [HFR.out]
        rw [e9]
        clear e9
        have HB' := Lib.hid hB
        clear hB
        refine wpList_store_word rfl rfl 29 (.tmp 4) (.tmp 23) rfl winfo gN (wc (s)) (addN (s) (p.dep)) rfl rfl HB'.out.2.2.1 rfl ?_
        intro w' kk gg
        have HA := Lib.hid (show RsJ w gL gR gN (.slice (some ⟨bb, oo, none⟩) l.length c1) (addN (s) (p.dep)) w' from ⟨Cs.kept HB'.out.1 gg (some_ne (by have := HGG.out; omega)), Cs.kept HB'.out.2.1 gg (some_ne (by have := HGG.out; omega)), kk, HB'.out.2.2.2.grown gg (by have := HGG.out; omega)⟩)
        clear kk gg
        show K _ _
        have := H.out _ HA.out
        rw [HFR.out] at this
        obtain u9 := HU.out
        rw [u9] at this
        exact this
      · rintro L A W K hL hC hW ⟨V, rfl, HV, s0, s1⟩ hK
        have e10 : V 10 = .bool (ovr (s) (p.dep)) := HV 10 _ rfl (hW 10 rfl)
        have H := Lib.hid (show ∀ W', Ext W W' → K (fr (upd V 12 (.bool (ovr (s) (p.dep))))) W' from fun W' he => hK _ _ ⟨upd V 12 (.bool (ovr (s) (p.dep))), rfl, HV.up 12 _ (fun x hx => Option.some.inj hx), fun h0 => RsJ.ext (s0 (by unfold More at h0; rwa [if_neg (by decide)] at h0)) he, fun h0 => RsJ.ext (s1 (more_ne h0 rfl)) he⟩)
        have HU := Lib.hid (show (upd V 12 (.bool (ovr (s) (p.dep)))) 10 = .bool (ovr (s) (p.dep)) from e10)
        clear hK hC hW hL HV s0 s1
        rw [HFR.out]
        rw [e10]
        clear e10
        go_wp2_with fail
        show K _ _
        have := H.out _ (Ext.refl _)
        rw [HFR.out] at this
        obtain u10 := HU.out
        rw [u10] at this
        exact this
      · rintro L A W hL ⟨V, rfl, HV, s0, s1⟩
        have e0 : V 0 = wv (s) := HV 0 _ rfl (hL 0 (by simp))
        have e1 : V 1 = .pointer (some ⟨gL, 0, none⟩) := HV 1 _ rfl (hL 1 (by simp))
        have e2 : V 2 = .slice (some ⟨bb, oo, none⟩) l.length c1 := HV 2 _ rfl (hL 2 (by simp))
        have e3 : V 3 = .int .i64 k := HV 3 _ rfl (hL 3 (by simp))
        have e4 : V 4 = .pointer (some ⟨bb, oo + k * 11, none⟩) := HV 4 _ rfl (hL 4 (by simp))
        have e5 : V 5 = .pointer (some ⟨bb, oo + k * 11 + 1, none⟩) := HV 5 _ rfl (hL 5 (by simp))
        have e6 : V 6 = wv (p.dep) := HV 6 _ rfl (hL 6 (by simp))
        have e7 : V 7 = .tuple #[wv (addN (s) (p.dep)), .bool (ovr (s) (p.dep))] := HV 7 _ rfl (hL 7 (by simp))
        have e8 : V 8 = .tuple #[wv (addN (s) (p.dep)), .bool (ovr (s) (p.dep))] := HV 8 _ rfl (hL 8 (by simp))
        have e9 : V 9 = wv (addN (s) (p.dep)) := HV 9 _ rfl (hL 9 (by simp))
        have e10 : V 10 = .bool (ovr (s) (p.dep)) := HV 10 _ rfl (hL 10 (by simp))
        have e12 : V 12 = .bool (ovr (s) (p.dep)) := HV 12 _ rfl (hL 12 (by simp))
        have hA := s1 (hL 11 (by simp))
        rw [HFR.out]
        rw [e0, e1, e2, e3, e4, e5, e6, e7, e8, e9, e10, e12]
        clear hL HV HFR e0 e1 e2 e3 e4 e5 e6 e7 e8 e9 e10 e12 s0 s1
        obtain ⟨sd, hs1⟩ : ∃ x, addN s p.dep = x := ⟨_, rfl⟩
        have HS1 := Lib.hid (show sd < M256 by rw [← hs1]; exact addN_lt _ _)
        rw [hs1] at hA HD2 HD3 ⊢
        clear hs1
        cases ho : ovr s p.dep with
        | true =>
          have HF := Lib.hid (HD1.out ho)
          clear ho
          have HWN := Lib.hid (Cs.rg hA.2.2.1)
          have HWR := Lib.hid hA.2.1
          have HXX := Lib.hid hA.2.2.2
          go_wp2_with (first
            | ((with_reducible refine wpList_load_wordIn ?_ (.tmp 4) ?_ gN 0 (sd) ?_ ?_ ?_); (exact rfl); (exact rfl); (exact rfl); (exact HWN.out))
            | ((with_reducible refine wpList_store_word ?_ ?_ 29 (.tmp 2) (.tmp 26) ?_ winfo gR (wc 0) (sd) ?_ ?_ ?_ ?_ ?_); (exact rfl); (exact rfl); (exact rfl); (exact rfl); (exact rfl); (exact HWR.out); (exact rfl); intro w9 k9 g9; have K9 := Lib.hid k9; have G9 := Lib.hid g9; clear k9 g9))
          refine bodyPost_ret (results_word_tmp Try.results135 _ _ gR (sd) rfl K9.out Try.underlying29 winfo) rfl ?_
          exact ⟨sd, by rw [HF.out]; rfl, HXX.out.grown G9.out (by have := HGG.out; omega)⟩
        | false =>
          have HO1 := Lib.hid ho
          have HJ9 := Lib.hid hA
          clear ho hA HJ6
          generalize hWW : W = wb at *
          clear hWW W
          have qL := HJ9.out.1.cell 0 _ rfl
          go_upto_region 9 with fail
          clear qL
          refine wp_named fun a0 ha0 => ?_
          obtain ⟨fr, hfr⟩ : ∃ fr : (Nat → Value) → Act, ∀ V, fr V = ((((((((((((a0.put (some 28) (V 0)).put (some 29) (V 1)).put (some 30) (V 2)).put (some 31) (V 3)).put (some 32) (V 4)).put (some 33) (V 5)).put (some 34) (V 6)).put (some 35) (V 7)).put (some 27) (V 8)).put (some 36) (V 9)).put (some 37) (V 10)).put (some 5) (V 12)) := ⟨fun V => ((((((((((((a0.put (some 28) (V 0)).put (some 29) (V 1)).put (some 30) (V 2)).put (some 31) (V 3)).put (some 32) (V 4)).put (some 33) (V 5)).put (some 34) (V 6)).put (some 35) (V 7)).put (some 27) (V 8)).put (some 36) (V 9)).put (some 37) (V 10)).put (some 5) (V 12)), fun _ => rfl⟩
          rw [ha0] at hfr
          simp only [Act.put, List.setIfInBounds_toArray, List.set_cons_zero, List.set_cons_succ] at hfr
          have HFR := Lib.hid hfr
          clear hfr
          refine wp_region_inv (by kernel_rfl) (by kernel_rfl) (fun L A W => ∃ V : Nat → Value, A = fr V ∧ Vals (fun j => ([some (wv (sd)), some (.pointer (some ⟨gL, 0, none⟩)), some (.slice (some ⟨bb, oo, none⟩) l.length c1), some (.int .i64 k), some (.pointer (some ⟨bb, oo + k * 11, none⟩)), some (.pointer (some ⟨bb, oo + k * 11 + 5, none⟩)), some (wv (p.stk)), some (.tuple #[wv (addN (sd) (p.stk)), .bool (ovr (sd) (p.stk))]), some (.tuple #[wv (addN (sd) (p.stk)), .bool (ovr (sd) (p.stk))]), some (wv (addN (sd) (p.stk))), some (.bool (ovr (sd) (p.stk))), none, some (.bool (ovr (sd) (p.stk)))] : List (Option Value)).getD j none) L V ∧ (L 11 = false → RsJ w gL gR gN (.slice (some ⟨bb, oo, none⟩) l.length c1) (sd) W) ∧ (L 11 = true → RsJ w gL gR gN (.slice (some ⟨bb, oo, none⟩) l.length c1) (addN (sd) (p.stk)) W)) ?_ ⟨?_, ?_, ?_, ?_, ?_, ?_, ?_, ?_, ?_, ?_, ?_, ?_, ?_, trivial⟩ ?_
          · refine ⟨fun j => a0.tmps.getD (([28, 29, 30, 31, 32, 33, 34, 35, 27, 36, 37, 0, 5] : List Nat).getD j 0) undef, ?_, Vals.no _ _ _ (far_none _ _ rfl), fun _ => HJ9.out.ext ((Ext.refl _).drew), fun h0 => absurd h0 (by decide)⟩
            rw [HFR.out, ha0]
            rfl
          all_goals clear ha0
          · rintro L A W K hL hC hW ⟨V, rfl, HV, s0, s1⟩ hK
            have hB := s0 (hC.no (hC.no (hC.no (hC.no hL 7 _ rfl rfl) 8 _ rfl rfl) 9 _ rfl rfl) 11 _ rfl rfl)
            have H := Lib.hid (show ∀ W', Ext W W' → K (fr (upd V 0 (wv (sd)))) W' from fun W' he => hK _ _ ⟨upd V 0 (wv (sd)), rfl, HV.up 0 _ (fun x hx => Option.some.inj hx), fun h0 => RsJ.ext (s0 (by unfold More at h0; rwa [if_neg (by decide)] at h0)) he, fun h0 => RsJ.ext (s1 (more_ne h0 rfl)) he⟩)
            clear hK hC hW hL HV s0 s1
            rw [HFR.out]
            have HWW := Lib.hid (Cs.rg hB.2.2.1)
            clear hB
            refine wpList_load_wordIn rfl (.tmp 4) rfl gN 0 (sd) rfl HWW.out ?_
            show K _ _
            have := H.out _ (Ext.refl _)
            rw [HFR.out] at this
            exact this
          · rintro L A W K hL hC hW ⟨V, rfl, HV, s0, s1⟩ hK
            have H := Lib.hid (show ∀ W', Ext W W' → K (fr (upd V 1 (.pointer (some ⟨gL, 0, none⟩)))) W' from fun W' he => hK _ _ ⟨upd V 1 (.pointer (some ⟨gL, 0, none⟩)), rfl, HV.up 1 _ (fun x hx => Option.some.inj hx), fun h0 => RsJ.ext (s0 (by unfold More at h0; rwa [if_neg (by decide)] at h0)) he, fun h0 => RsJ.ext (s1 (more_ne h0 rfl)) he⟩)
            clear hK hC hW hL HV s0 s1
            rw [HFR.out]
            go_wp2_with fail
            show K _ _
            have := H.out _ (Ext.refl _)
            rw [HFR.out] at this
            exact this
          · rintro L A W K hL hC hW ⟨V, rfl, HV, s0, s1⟩ hK
            have e1 : V 1 = .pointer (some ⟨gL, 0, none⟩) := HV 1 _ rfl (hW 1 rfl)
            have hB := s0 (hC.no (hC.no (hC.no (hC.no (hC.no (hC.no (hC.no hL 4 _ rfl rfl) 5 _ rfl rfl) 6 _ rfl rfl) 7 _ rfl rfl) 8 _ rfl rfl) 9 _ rfl rfl) 11 _ rfl rfl)
            have H := Lib.hid (show ∀ W', Ext W W' → K (fr (upd V 2 (.slice (some ⟨bb, oo, none⟩) l.length c1))) W' from fun W' he => hK _ _ ⟨upd V 2 (.slice (some ⟨bb, oo, none⟩) l.length c1), rfl, HV.up 2 _ (fun x hx => Option.some.inj hx), fun h0 => RsJ.ext (s0 (by unfold More at h0; rwa [if_neg (by decide)] at h0)) he, fun h0 => RsJ.ext (s1 (more_ne h0 rfl)) he⟩)
            have HU := Lib.hid (show (upd V 2 (.slice (some ⟨bb, oo, none⟩) l.length c1)) 1 = .pointer (some ⟨gL, 0, none⟩) from e1)
            clear hK hC hW hL HV s0 s1
            rw [HFR.out]
            rw [e1]
            clear e1
            have hcl := hB.1.cell 0 _ rfl
            clear hB
            go_wp2_with fail
            show K _ _
            have := H.out _ (Ext.refl _)
            rw [HFR.out] at this
            obtain u1 := HU.out
            rw [u1] at this
            exact this
          · rintro L A W K hL hC hW ⟨V, rfl, HV, s0, s1⟩ hK
            have H := Lib.hid (show ∀ W', Ext W W' → K (fr (upd V 3 (.int .i64 k))) W' from fun W' he => hK _ _ ⟨upd V 3 (.int .i64 k), rfl, HV.up 3 _ (fun x hx => Option.some.inj hx), fun h0 => RsJ.ext (s0 (by unfold More at h0; rwa [if_neg (by decide)] at h0)) he, fun h0 => RsJ.ext (s1 (more_ne h0 rfl)) he⟩)
            clear hK hC hW hL HV s0 s1
            rw [HFR.out]
            go_wp2_with fail
            show K _ _
            have := H.out _ (Ext.refl _)
            rw [HFR.out] at this
            exact this
          · rintro L A W K hL hC hW ⟨V, rfl, HV, s0, s1⟩ hK
            have e2 : V 2 = .slice (some ⟨bb, oo, none⟩) l.length c1 := HV 2 _ rfl (hW 2 rfl)
            have e3 : V 3 = .int .i64 k := HV 3 _ rfl (hW 3 rfl)
            have H := Lib.hid (show ∀ W', Ext W W' → K (fr (upd V 4 (.pointer (some ⟨bb, oo + k * 11, none⟩)))) W' from fun W' he => hK _ _ ⟨upd V 4 (.pointer (some ⟨bb, oo + k * 11, none⟩)), rfl, HV.up 4 _ (fun x hx => Option.some.inj hx), fun h0 => RsJ.ext (s0 (by unfold More at h0; rwa [if_neg (by decide)] at h0)) he, fun h0 => RsJ.ext (s1 (more_ne h0 rfl)) he⟩)
            have HU := Lib.hid (show (upd V 4 (.pointer (some ⟨bb, oo + k * 11, none⟩))) 2 = .slice (some ⟨bb, oo, none⟩) l.length c1 ∧ (upd V 4 (.pointer (some ⟨bb, oo + k * 11, none⟩))) 3 = .int .i64 k from ⟨e2, e3⟩)
            clear hK hC hW hL HV s0 s1
            rw [HFR.out]
            rw [e2, e3]
            clear e2 e3
            go_wp2_with fail
            show K _ _
            have := H.out _ (Ext.refl _)
            rw [HFR.out] at this
            obtain ⟨u2, u3⟩ := HU.out
            rw [u2, u3] at this
            exact this
          · rintro L A W K hL hC hW ⟨V, rfl, HV, s0, s1⟩ hK
            have e4 : V 4 = .pointer (some ⟨bb, oo + k * 11, none⟩) := HV 4 _ rfl (hW 4 rfl)
            have H := Lib.hid (show ∀ W', Ext W W' → K (fr (upd V 5 (.pointer (some ⟨bb, oo + k * 11 + 5, none⟩)))) W' from fun W' he => hK _ _ ⟨upd V 5 (.pointer (some ⟨bb, oo + k * 11 + 5, none⟩)), rfl, HV.up 5 _ (fun x hx => Option.some.inj hx), fun h0 => RsJ.ext (s0 (by unfold More at h0; rwa [if_neg (by decide)] at h0)) he, fun h0 => RsJ.ext (s1 (more_ne h0 rfl)) he⟩)
            have HU := Lib.hid (show (upd V 5 (.pointer (some ⟨bb, oo + k * 11 + 5, none⟩))) 4 = .pointer (some ⟨bb, oo + k * 11, none⟩) from e4)
            clear hK hC hW hL HV s0 s1
            rw [HFR.out]
            rw [e4]
            clear e4
            go_wp2_with fail
            show K _ _
            have := H.out _ (Ext.refl _)
            rw [HFR.out] at this
            obtain u4 := HU.out
            rw [u4] at this
            exact this
          · rintro L A W K hL hC hW ⟨V, rfl, HV, s0, s1⟩ hK
            have e5 : V 5 = .pointer (some ⟨bb, oo + k * 11 + 5, none⟩) := HV 5 _ rfl (hW 5 rfl)
            have hB := s0 (hC.no (hC.no (hC.no (hC.no hL 7 _ rfl rfl) 8 _ rfl rfl) 9 _ rfl rfl) 11 _ rfl rfl)
            have H := Lib.hid (show ∀ W', Ext W W' → K (fr (upd V 6 (wv (p.stk)))) W' from fun W' he => hK _ _ ⟨upd V 6 (wv (p.stk)), rfl, HV.up 6 _ (fun x hx => Option.some.inj hx), fun h0 => RsJ.ext (s0 (by unfold More at h0; rwa [if_neg (by decide)] at h0)) he, fun h0 => RsJ.ext (s1 (more_ne h0 rfl)) he⟩)
            have HU := Lib.hid (show (upd V 6 (wv (p.stk))) 5 = .pointer (some ⟨bb, oo + k * 11 + 5, none⟩) from e5)
            clear hK hC hW hL HV s0 s1
            rw [HFR.out]
            rw [e5]
            clear e5
            have HWW := Lib.hid (fun (j : Nat) (x : Value) (hx : (wc (p.stk)).toList[j]? = some x) => hB.2.2.2.cell (hd_stk (HR.out) j x hx))
            clear hB
            refine wpList_load_wordIn rfl (.tmp 33) rfl bb (oo + k * 11 + 5) (p.stk) rfl HWW.out ?_
            show K _ _
            have := H.out _ (Ext.refl _)
            rw [HFR.out] at this
            obtain u5 := HU.out
            rw [u5] at this
            exact this
          · rintro L A W K hL hC hW ⟨V, rfl, HV, s0, s1⟩ hK
            have e0 : V 0 = wv (sd) := HV 0 _ rfl (hW 0 rfl)
            have e6 : V 6 = wv (p.stk) := HV 6 _ rfl (hW 6 rfl)
            have hB := s0 (hC.no (hC.no (hC.no hL 8 _ rfl rfl) 9 _ rfl rfl) 11 _ rfl rfl)
            have H := Lib.hid (show ∀ W', Ext W W' → K (fr (upd V 7 (.tuple #[wv (addN (sd) (p.stk)), .bool (ovr (sd) (p.stk))]))) W' from fun W' he => hK _ _ ⟨upd V 7 (.tuple #[wv (addN (sd) (p.stk)), .bool (ovr (sd) (p.stk))]), rfl, HV.up 7 _ (fun x hx => Option.some.inj hx), fun h0 => RsJ.ext (s0 (by unfold More at h0; rwa [if_neg (by decide)] at h0)) he, fun h0 => RsJ.ext (s1 (more_ne h0 rfl)) he⟩)
            have HU := Lib.hid (show (upd V 7 (.tuple #[wv (addN (sd) (p.stk)), .bool (ovr (sd) (p.stk))])) 0 = wv (sd) ∧ (upd V 7 (.tuple #[wv (addN (sd) (p.stk)), .bool (ovr (sd) (p.stk))])) 6 = wv (p.stk) from ⟨e0, e6⟩)
            clear hK hC hW hL HV s0 s1
            rw [HFR.out]
            rw [e0, e6]
            clear e0 e6
            clear hB
            go_wp2_with fail
            refine (refAdd_any (sd) (p.stk) _ HS1.out HP2.out).mono ?_
            rintro e wx ⟨rfl, _, he⟩
            have := H.out _ he
            clear H
            go_wp2_with fail
            show K _ _
            rw [HFR.out] at this
            obtain ⟨u0, u6⟩ := HU.out
            rw [u0, u6] at this
            exact this
          · rintro L A W K hL hC hW ⟨V, rfl, HV, s0, s1⟩ hK
            have e7 : V 7 = .tuple #[wv (addN (sd) (p.stk)), .bool (ovr (sd) (p.stk))] := HV 7 _ rfl (hW 7 rfl)
            have H := Lib.hid (show ∀ W', Ext W W' → K (fr (upd V 8 (.tuple #[wv (addN (sd) (p.stk)), .bool (ovr (sd) (p.stk))]))) W' from fun W' he => hK _ _ ⟨upd V 8 (.tuple #[wv (addN (sd) (p.stk)), .bool (ovr (sd) (p.stk))]), rfl, HV.up 8 _ (fun x hx => Option.some.inj hx), fun h0 => RsJ.ext (s0 (by unfold More at h0; rwa [if_neg (by decide)] at h0)) he, fun h0 => RsJ.ext (s1 (more_ne h0 rfl)) he⟩)
            have HU := Lib.hid (show (upd V 8 (.tuple #[wv (addN (sd) (p.stk)), .bool (ovr (sd) (p.stk))])) 7 = .tuple #[wv (addN (sd) (p.stk)), .bool (ovr (sd) (p.stk))] from e7)
            clear hK hC hW hL HV s0 s1
            rw [HFR.out]
            rw [e7]
            clear e7
            go_wp2_with fail
            show K _ _
            have := H.out _ (Ext.refl _)
            rw [HFR.out] at this
            obtain u7 := HU.out
            rw [u7] at this
            exact this
          · rintro L A W K hL hC hW ⟨V, rfl, HV, s0, s1⟩ hK
            have e8 : V 8 = .tuple #[wv (addN (sd) (p.stk)), .bool (ovr (sd) (p.stk))] := HV 8 _ rfl (hW 8 rfl)
            have H := Lib.hid (show ∀ W', Ext W W' → K (fr (upd V 9 (wv (addN (sd) (p.stk))))) W' from fun W' he => hK _ _ ⟨upd V 9 (wv (addN (sd) (p.stk))), rfl, HV.up 9 _ (fun x hx => Option.some.inj hx), fun h0 => RsJ.ext (s0 (by unfold More at h0; rwa [if_neg (by decide)] at h0)) he, fun h0 => RsJ.ext (s1 (more_ne h0 rfl)) he⟩)
            have HU := Lib.hid (show (upd V 9 (wv (addN (sd) (p.stk)))) 8 = .tuple #[wv (addN (sd) (p.stk)), .bool (ovr (sd) (p.stk))] from e8)
            clear hK hC hW hL HV s0 s1
            rw [HFR.out]
            rw [e8]
            clear e8
            go_wp2_with fail
            show K _ _
            have := H.out _ (Ext.refl _)
            rw [HFR.out] at this
            obtain u8 := HU.out
            rw [u8] at this
            exact this
          · rintro L A W K hL hC hW ⟨V, rfl, HV, s0, s1⟩ hK
            have e8 : V 8 = .tuple #[wv (addN (sd) (p.stk)), .bool (ovr (sd) (p.stk))] := HV 8 _ rfl (hW 8 rfl)
            have H := Lib.hid (show ∀ W', Ext W W' → K (fr (upd V 10 (.bool (ovr (sd) (p.stk))))) W' from fun W' he => hK _ _ ⟨upd V 10 (.bool (ovr (sd) (p.stk))), rfl, HV.up 10 _ (fun x hx => Option.some.inj hx), fun h0 => RsJ.ext (s0 (by unfold More at h0; rwa [if_neg (by decide)] at h0)) he, fun h0 => RsJ.ext (s1 (more_ne h0 rfl)) he⟩)
            have HU := Lib.hid (show (upd V 10 (.bool (ovr (sd) (p.stk)))) 8 = .tuple #[wv (addN (sd) (p.stk)), .bool (ovr (sd) (p.stk))] from e8)
            clear hK hC hW hL HV s0 s1
            rw [HFR.out]
            rw [e8]
            clear e8
            go_wp2_with fail
            show K _ _
            have := H.out _ (Ext.refl _)
            rw [HFR.out] at this
            obtain u8 := HU.out
            rw [u8] at this
            exact this
          · rintro L A W K hL hC hW ⟨V, rfl, HV, s0, s1⟩ hK
            have e9 : V 9 = wv (addN (sd) (p.stk)) := HV 9 _ rfl (hW 9 rfl)
            have hB := s0 hL
            have H := Lib.hid (show ∀ W', (RsJ w gL gR gN (.slice (some ⟨bb, oo, none⟩) l.length c1) (addN (sd) (p.stk)) W') → K (fr (V)) W' from fun W' hA => hK _ _ ⟨V, rfl, HV.st 11 rfl, fun h0 => absurd h0 (by unfold More; rw [if_pos rfl]; simp), fun h0 => hA⟩)
            have HU := Lib.hid (show (V) 9 = wv (addN (sd) (p.stk)) from e9)
            clear hK hC hW hL HV s0 s1
            rw [HFR.out]
            rw [e9]
            clear e9
            have HB' := Lib.hid hB
            clear hB
            refine wpList_store_word rfl rfl 29 (.tmp 4) (.tmp 36) rfl winfo gN (wc (sd)) (addN (sd) (p.stk)) rfl rfl HB'.out.2.2.1 rfl ?_
            intro w' kk gg
            have HA := Lib.hid (show RsJ w gL gR gN (.slice (some ⟨bb, oo, none⟩) l.length c1) (addN (sd) (p.stk)) w' from ⟨Cs.kept HB'.out.1 gg (some_ne (by have := HGG.out; omega)), Cs.kept HB'.out.2.1 gg (some_ne (by have := HGG.out; omega)), kk, HB'.out.2.2.2.grown gg (by have := HGG.out; omega)⟩)
            clear kk gg
            show K _ _
            have := H.out _ HA.out
            rw [HFR.out] at this
            obtain u9 := HU.out
            rw [u9] at this
            exact this
          · rintro L A W K hL hC hW ⟨V, rfl, HV, s0, s1⟩ hK
            have e10 : V 10 = .bool (ovr (sd) (p.stk)) := HV 10 _ rfl (hW 10 rfl)
            have H := Lib.hid (show ∀ W', Ext W W' → K (fr (upd V 12 (.bool (ovr (sd) (p.stk))))) W' from fun W' he => hK _ _ ⟨upd V 12 (.bool (ovr (sd) (p.stk))), rfl, HV.up 12 _ (fun x hx => Option.some.inj hx), fun h0 => RsJ.ext (s0 (by unfold More at h0; rwa [if_neg (by decide)] at h0)) he, fun h0 => RsJ.ext (s1 (more_ne h0 rfl)) he⟩)
            have HU := Lib.hid (show (upd V 12 (.bool (ovr (sd) (p.stk)))) 10 = .bool (ovr (sd) (p.stk)) from e10)
            clear hK hC hW hL HV s0 s1
            rw [HFR.out]
            rw [e10]
            clear e10
            go_wp2_with fail
            show K _ _
            have := H.out _ (Ext.refl _)
            rw [HFR.out] at this
            obtain u10 := HU.out
            rw [u10] at this
            exact this
          · rintro L A W hL ⟨V, rfl, HV, s0, s1⟩
            have e0 : V 0 = wv (sd) := HV 0 _ rfl (hL 0 (by simp))
            have e1 : V 1 = .pointer (some ⟨gL, 0, none⟩) := HV 1 _ rfl (hL 1 (by simp))
            have e2 : V 2 = .slice (some ⟨bb, oo, none⟩) l.length c1 := HV 2 _ rfl (hL 2 (by simp))
            have e3 : V 3 = .int .i64 k := HV 3 _ rfl (hL 3 (by simp))
            have e4 : V 4 = .pointer (some ⟨bb, oo + k * 11, none⟩) := HV 4 _ rfl (hL 4 (by simp))
            have e5 : V 5 = .pointer (some ⟨bb, oo + k * 11 + 5, none⟩) := HV 5 _ rfl (hL 5 (by simp))
            have e6 : V 6 = wv (p.stk) := HV 6 _ rfl (hL 6 (by simp))
            have e7 : V 7 = .tuple #[wv (addN (sd) (p.stk)), .bool (ovr (sd) (p.stk))] := HV 7 _ rfl (hL 7 (by simp))
            have e8 : V 8 = .tuple #[wv (addN (sd) (p.stk)), .bool (ovr (sd) (p.stk))] := HV 8 _ rfl (hL 8 (by simp))
            have e9 : V 9 = wv (addN (sd) (p.stk)) := HV 9 _ rfl (hL 9 (by simp))
            have e10 : V 10 = .bool (ovr (sd) (p.stk)) := HV 10 _ rfl (hL 10 (by simp))
            have e12 : V 12 = .bool (ovr (sd) (p.stk)) := HV 12 _ rfl (hL 12 (by simp))
            have hA := s1 (hL 11 (by simp))
            rw [HFR.out]
            rw [e0, e1, e2, e3, e4, e5, e6, e7, e8, e9, e10, e12]
            clear hL HV HFR e0 e1 e2 e3 e4 e5 e6 e7 e8 e9 e10 e12 s0 s1
            cases ho : ovr sd p.stk with
            | true =>
              have HF := Lib.hid (HD2.out ho)
              clear ho
              have HWN := Lib.hid (Cs.rg hA.2.2.1)
              have HWR := Lib.hid hA.2.1
              have HXX := Lib.hid hA.2.2.2
              go_wp2_with (first
                | ((with_reducible refine wpList_load_wordIn ?_ (.tmp 4) ?_ gN 0 (addN sd p.stk) ?_ ?_ ?_); (exact rfl); (exact rfl); (exact rfl); (exact HWN.out))
                | ((with_reducible refine wpList_store_word ?_ ?_ 29 (.tmp 2) (.tmp 39) ?_ winfo gR (wc 0) (addN sd p.stk) ?_ ?_ ?_ ?_ ?_); (exact rfl); (exact rfl); (exact rfl); (exact rfl); (exact rfl); (exact HWR.out); (exact rfl); intro w9 k9 g9; have K9 := Lib.hid k9; have G9 := Lib.hid g9; clear k9 g9))
              refine bodyPost_ret (results_word_tmp Try.results135 _ _ gR (addN sd p.stk) rfl K9.out Try.underlying29 winfo) rfl ?_
              exact ⟨addN sd p.stk, by rw [HF.out]; rfl, HXX.out.grown G9.out (by have := HGG.out; omega)⟩
            | false =>
              have HN := Lib.hid (HD3.out HO1.out ho)
              have HAA := Lib.hid hA
              clear ho hA
              go_wp2_with fail
              exact ⟨⟨k + 1, by omega, by go_num, rfl, Lib.hid ⟨by rw [HN.out], by rw [HN.out]; exact HAA.out⟩⟩, by simp [intOf]; omega⟩
    · obtain rfl : k = l.length := by omega
      have hd : decide (l.length < l.length) = false := decide_eq_false (by omega)
      have hd2 : decide ((l.length : Int) < (l.length : Int)) = false := decide_eq_false (by omega)
      rw [List.take_length] at HJ
      have HF := Lib.hid HJ.out.1
      have HSJ := Lib.hid HJ.out.2
      clear HJ
      generalize (sumW (flatH l)).1 = s at *
      have HWN := Lib.hid (Cs.rg HSJ.out.2.2.1)
      have HWR := Lib.hid HSJ.out.2.1
      have HXX := Lib.hid HSJ.out.2.2.2
      go_wp2_with (first
        | ((with_reducible refine wpList_load_wordIn ?_ (.tmp 4) ?_ gN 0 (s) ?_ ?_ ?_); (exact rfl); (exact rfl); (exact rfl); (exact HWN.out))
        | ((with_reducible refine wpList_store_word ?_ ?_ 29 (.tmp 2) (.tmp 40) ?_ winfo gR (wc 0) (s) ?_ ?_ ?_ ?_ ?_); (exact rfl); (exact rfl); (exact rfl); (exact rfl); (exact rfl); (exact HWR.out); (exact rfl); intro w9 k9 g9; have K9 := Lib.hid k9; have G9 := Lib.hid g9; clear k9 g9))
      refine bodyPost_ret (results_word_tmp Try.results135 _ _ gR (s) rfl K9.out Try.underlying29 winfo) rfl ?_
      exact ⟨s, by rw [HF.out]; rfl, HXX.out.grown G9.out (by have := HGG.out; omega)⟩
end Go.Proofs.Ytepggbhibpjkpaa
