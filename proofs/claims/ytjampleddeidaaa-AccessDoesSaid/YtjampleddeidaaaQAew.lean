/- Package access: the document's Load and Touch. -/
import Derived.Test.YtjampleddeidaaaQAev
import Derived.Test.YtjampleddeidaaaQAeu
import Derived.Test.YtjampleddeidaaaQAem
namespace Go.Proofs.Ytjampleddeidaaa
open Go.ChangeShapes Go.WideShapes Go.ChangeAt Go.RowKit Go.Shelf

set_option maxRecDepth 100000 in
theorem srX_same {l : List Pe} (hl : ∀ p ∈ l, okA p) (hr : RiseX l) : srX l = l := rise_same (srX_rise l) hr fun p => mem_srX hl p
set_option maxRecDepth 100000 in
theorem srX_one {l : List Pe} {p : Pe} (hl : ∀ p ∈ l, okA p) (hr : RiseX l) : srX (l ++ [p]) = plX l p := by
  have h := srX_same hl hr
  unfold srX at h ⊢
  rw [List.foldl_append, h]
  rfl
set_option maxRecDepth 100000 in
theorem pt_room {l : List Pe} (hr : rsB l = true) (p : Pe) : (plX l p).length ≤ 400 ↔ ptE l p = 0 := by
  obtain ⟨h4, h⟩ := rs_iff.1 hr
  rw [plX_length h p]
  unfold ptE
  cases hh : hasX l p.cod with
  | true => simp [h4]
  | false =>
    by_cases he : l.length = 400
    · simp [he]
    · simp [he]; omega
set_option maxRecDepth 100000 in
theorem pt_more {l : List Pe} (hr : rsB l = true) {p : Pe} : decide (l.length < (plX l p).length) = !hasX l p.cod := by
  rw [plX_length (rs_iff.1 hr).2 p]
  cases hasX l p.cod with
  | true => exact decide_eq_false (by simp)
  | false => exact decide_eq_true (by simp)
set_option maxRecDepth 100000 in
theorem pt_ok {l : List Pe} {p : Pe} (h : ptE l p = 0) : ptL l p = plX l p ∧ ptB l p = !hasX l p.cod := by
  unfold ptL ptB
  rw [if_pos h, if_pos h]
  exact ⟨rfl, rfl⟩
set_option maxRecDepth 100000 in
theorem infoLA : (Try.prog.info? 22).map (·.size) = some 1 := by kernel_rfl
set_option maxRecDepth 100000 in
theorem infoLS : (Try.prog.info? 23).map (·.size) = some 1 := by kernel_rfl
set_option maxRecDepth 100000 in
theorem infoLP : (Try.prog.info? 24).map (·.size) = some 1 := by kernel_rfl
def KpX (lo : Nat) (W : World) (va vs vp : Value) (x : Ax) (ua us up : Value) (y : Ax) : Prop := (OwnA W lo ua y.a ∨ (ua = va ∧ y.a = x.a)) ∧ (OwnS W lo us y.s ∨ (us = vs ∧ y.s = x.s)) ∧ (OwnP W lo up y.p ∨ (up = vp ∧ y.p = x.p))
set_option maxRecDepth 100000 in
theorem KpX.nil (lo : Nat) (W : World) (va vs vp : Value) (x : Ax) : KpX lo W va vs vp x (.slice none 0 0) (.slice none 0 0) (.slice none 0 0) ax0 := ⟨.inl (OwnA.nil _ _), .inl (OwnS.nil _ _), .inl (OwnP.nil _ _)⟩
set_option maxRecDepth 100000 in
theorem KpX.ax {lo : Nat} {W W' : World} {va vs vp ua us up : Value} {x y : Ax} (h : KpX lo W' va vs vp x ua us up y) (hx : AxR W va vs vp x) (he : Ext W W') : AxR W' ua us up y := by
  obtain ⟨h1, h2, h3⟩ := h
  refine ⟨?_, ?_, ?_⟩
  · rcases h1 with h | ⟨rfl, h⟩
    · exact h.xs
    · rw [h]; exact hx.1.ext he
  · rcases h2 with h | ⟨rfl, h⟩
    · exact h.xs
    · rw [h]; exact hx.2.1.ext he
  · rcases h3 with h | ⟨rfl, h⟩
    · exact h.xs
    · rw [h]; exact hx.2.2.ext he
def RfX (W : World) (va vs vp : Value) (x y : Ax) (b ok : Bool) (e : Ending) (w' : World) : Prop := ∃ ua us up, e = .returned (.tuple #[.agg #[ua, us, up], .bool b, .bool ok]) ∧ KpX W.heap.size w' va vs vp x ua us up y ∧ Ext W w'
set_option maxRecDepth 100000 in
theorem ownA_app {W : World} {lo : Nat} {v : Value} {l m : List Pe} (h : W.ownsRow lo 28 1 v (l.length + m.length) (fA l ++ fA m)) (hl : ∀ p ∈ l, okA p) (hm : ∀ p ∈ m, okA p) : OwnA W lo v (l ++ m) := by
  refine ⟨by rw [List.length_append, fA_app2]; exact h, fun p hp => ?_⟩
  rcases List.mem_append.1 hp with hp | hp
  · exact hl p hp
  · exact hm p hp
set_option maxRecDepth 100000 in
set_option maxHeartbeats 8000000 in
theorem refTouchX_any (va vs vp : Value) (x : Ax) (q : Pe) (w : World) (hx : AxR w va vs vp x) (hq : okA q) (hr : rsB x.a = true) :
    Calls Try.prog 17 #[.agg #[va, vs, vp], .int .u64 (q.addr : Nat)] w (RfX w va vs vp x (if ptE x.a q = 0 then { x with a := ptL x.a q } else ax0) (ptB x.a q) (decide (ptE x.a q = 0))) := by
  have HX := Lib.hid hx
  have HQ := Lib.hid hq
  have HL : Hid (x.a.length ≤ 400) := Lib.hid (rs_iff.1 hr).1
  have HSR := Lib.hid (srX_one (p := q) hx.1.oks (rs_iff.1 hr).2)
  have HRM := Lib.hid (pt_room hr q)
  have HMO := Lib.hid (pt_more (p := q) hr)
  obtain ⟨A1, c1, rfl, _, _⟩ := hx.1.len
  obtain ⟨A2, c2, rfl, _, _⟩ := hx.2.1.len
  obtain ⟨A3, c3, rfl, _, _⟩ := hx.2.2.len
  obtain ⟨w0, hw0⟩ : ∃ w0, (w.alloc (.cells #[.slice A1 x.a.length c1, .slice A2 x.s.length c2, .slice A3 x.p.length c3] 26)).alloc (.cells #[.slice none 0 0, .slice none 0 0, .slice none 0 0] 26) = w0 := ⟨_, rfl⟩
  have HC0 : Hid (Cs w0 w.heap.size 26 #[.slice A1 x.a.length c1, .slice A2 x.s.length c2, .slice A3 x.p.length c3]) := Lib.hid (by rw [← hw0]; exact Cs.alloc (Cs.new _ _ _ _ rfl) _)
  have HR0 : Hid (Cs w0 (w.heap.size + 1) 26 #[.slice none 0 0, .slice none 0 0, .slice none 0 0]) := Lib.hid (by rw [← hw0]; exact Cs.new _ _ _ _ (by simp))
  have HE0 : Hid (Ext w w0) := Lib.hid (by rw [← hw0]; exact ((Ext.refl w).alloc _).alloc _)
  have HW0 := Lib.hid hw0
  have HOK := Lib.hid hx.1.oks
  have HRS := Lib.hid (fun W (h : Ext w0 W) => (HX.out.1.ext (HE0.out.trans h)).rs)
  obtain ⟨ry, hry⟩ : ∃ y, (if ptE x.a q = 0 then { x with a := ptL x.a q } else ax0 : Ax) = y := ⟨_, rfl⟩
  obtain ⟨rb, hrb⟩ : ∃ b, decide (ptE x.a q = 0) = b := ⟨_, rfl⟩
  have HRY := Lib.hid hry
  have HRB := Lib.hid hrb
  rw [hry, hrb]
  clear hx hq hr hw0 hry hrb
  go_enter Try.func17, Try.ntmps17
  go_upto_region 1 with fail
  rw [HW0.out]
  clear HW0
  obtain ⟨gr, hgr⟩ : ∃ g, w.heap.size + 1 = g := ⟨_, rfl⟩
  have HGR : Hid (w.heap.size ≤ gr ∧ w.heap.size ≠ gr ∧ gr < w0.heap.size) := Lib.hid (by have := HR0.out.lt; omega)
  rw [hgr] at HR0 ⊢
  obtain ⟨g1, hg1⟩ : ∃ g, w.heap.size = g := ⟨_, rfl⟩
  have HG1 := Lib.hid hg1
  rw [hg1] at HC0 HGR ⊢
  clear hg1 hgr
  have q0 : (w0.alloc (.cells #[] 28)).cell? ⟨g1, 0, none⟩ = some (.slice A1 x.a.length c1) := (Cs.alloc HC0.out _).cell 0 _ rfl
  go_wp2_with (first
    | (at_builtin; refine wpList_append_row ?_ (.tmp 9) (.tmp 11) 22 rfl w0.heap.size 28 Try.underlying22 _ 1 8 infoA3 rfl (by decide) (.slice (some ⟨w0.heap.size, 0, none⟩) 0 0) ([] : List Pe).length (fA []) rfl (World.ownsRow_lit (e := 28) (size := 1) w0 #[] 0 (Nat.le_refl _) (by decide) (Nat.zero_mul _).symm) (.slice A1 x.a.length c1) x.a.length (fA x.a) rfl (HRS.out _ ((Ext.refl _).alloc _)) (fA_one _) (by have := HL.out; rw [List.length_nil]; omega) (by decide) (by rw [World.size_alloc]; exact Nat.le_succ _) ?_; (exact rfl); intro v5 w5 o5 g5 b5; have O5 := Lib.hid (show OwnA w5 w0.heap.size v5 x.a from ownA_app (l := []) o5 (fun p hp => nomatch hp) HOK.out); have E5 := Lib.hid (Ext.appendR ((Ext.refl w0).alloc (.cells #[] 28)) (World.ownsRow_lit (e := 28) (size := 1) w0 #[] 0 (Nat.le_refl _) (by decide) (Nat.zero_mul _).symm) g5); clear o5 g5 b5)
    | (at_builtin; refine wpList_append_row ?_ (.tmp 12) (.tmp 14) 22 rfl w0.heap.size 28 Try.underlying22 _ 1 8 infoA3 rfl (by decide) v5 x.a.length (fA x.a) rfl (own_ext O5.out.1 ((Ext.refl _).alloc _)) (.slice (some ⟨w5.heap.size, 0, none⟩) 1 1) [q].length (fA [q]) rfl (by rw [fA_single]; exact rs_oneA (Cs.new _ _ _ _ rfl)) (fA_one _) (by have := HL.out; rw [List.length_singleton]; omega) (by decide) (Nat.le_trans E5.out.size (by rw [World.size_alloc]; exact Nat.le_succ _)) ?_; (exact rfl); intro v6 w6 o6 g6 b6; have O6 := Lib.hid (ownA_app o6 HOK.out (fun p hp => by rw [List.mem_singleton.1 hp]; exact HQ.out)); have E6 := Lib.hid (Ext.appendR (E5.out.alloc (.cells (cA q) 28)) (own_ext O5.out.1 ((Ext.refl _).alloc _)) g6); clear o6 g6 b6))
  refine (refSortedX_any v6 (x.a ++ [q]) w6 O6.out.xs (by have := HL.out; simp; omega)).mono ?_
  rintro e w7 ⟨v7, rfl, ho, he⟩
  rw [HSR.out] at ho
  have HOW := Lib.hid ho
  have HE7 := Lib.hid (E6.out.trans he)
  have HEW6 := Lib.hid (HE0.out.trans E6.out).size
  have HC7 := Lib.hid (Cs.ext HC0.out HE7.out)
  have HR7 := Lib.hid (Cs.ext HR0.out HE7.out)
  have HEW := Lib.hid (HE0.out.trans HE7.out)
  obtain ⟨A7, c7, e7, _, _⟩ := ho.sl
  subst e7
  clear ho he O5 E5 O6 E6 q0 HC0 HR0 HRS HSR
  obtain ⟨m, hm⟩ : ∃ m, plX x.a q = m := ⟨_, rfl⟩
  have HM := Lib.hid hm
  rw [hm] at HOW HRM HMO ⊢
  clear hm
  by_cases hp : ptE x.a q = 0
  · have HP := Lib.hid hp
    have hm4 := HRM.out.2 hp
    have hd : decide (400 < m.length) = false := decide_eq_false (by omega)
    have hd2 : decide ((400 : Int) < (m.length : Int)) = false := decide_eq_false (by omega)
    obtain ⟨cb, hcb⟩ : ∃ b, decide (x.a.length < m.length) = b := ⟨_, rfl⟩
    have hcb2 : decide ((x.a.length : Int) < (m.length : Int)) = cb := by rw [← hcb]; exact decide_eq_decide.2 (by omega)
    have HCB := Lib.hid (show cb = ptB x.a q by rw [← hcb, HMO.out, (pt_ok hp).2])
    have HPL := Lib.hid (show ptL x.a q = m by rw [(pt_ok hp).1, HM.out])
    have q7 := HC7.out.cell 0 _ rfl
    clear hp hm4
    go_wp2_with (first
      | ((with_reducible refine wpList_store_one ?_ ?_ 22 (.tmp 28) (.tmp 27) ?_ g1 0 26 #[.slice A1 x.a.length c1, .slice A2 x.s.length c2, .slice A3 x.p.length c3] (.slice A7 m.length c7) rfl ?_ ?_ ?_ infoLA ?_ rfl ?_); (exact rfl); (exact rfl); (exact rfl); (exact rfl); (exact rfl); (exact HC7.out); (exact of_decide_eq_true rfl); intro w8 k8 g8; have K8 := Lib.hid (show Cs w8 g1 26 #[.slice A7 m.length c7, .slice A2 x.s.length c2, .slice A3 x.p.length c3] from k8); have G8 := Lib.hid g8; clear k8 g8)
      | ((with_reducible refine wpList_loadX ?_ (.tmp 2) ?_ g1 (.slice A7 m.length c7) (.slice A2 x.s.length c2) (.slice A3 x.p.length c3) ?_ ?_ ?_); (exact rfl); (exact rfl); (exact rfl); (exact K8.out))
      | ((with_reducible refine wpList_storeX ?_ ?_ (.tmp 4) (.tmp 29) ?_ gr (.slice none 0 0) (.slice none 0 0) (.slice none 0 0) (.slice A7 m.length c7) (.slice A2 x.s.length c2) (.slice A3 x.p.length c3) ?_ ?_ rfl rfl rfl ?_ ?_); (exact rfl); (exact rfl); (exact rfl); (exact rfl); (exact rfl); (exact Cs.kept HR7.out G8.out (fun e => HGR.out.2.1 (by injection e with e; exact e.symm))); intro w9 k9 g9; have K9 := Lib.hid k9; have G9 := Lib.hid g9; clear k9 g9))
    have HE9 := Lib.hid ((HEW.out.grown G8.out (Nat.le_of_eq HG1.out)).grown G9.out (Nat.le_trans (Nat.le_of_eq HG1.out) HGR.out.1))
    refine bodyPost_ret (results_ax_err Try.results17 _ _ gr _ _ _ rfl K9.out) rfl ?_
    refine ⟨_, _, _, by rw [← HCB.out, ← HRB.out, decide_eq_true HP.out]; rfl, ?_, HE9.out⟩
    rw [← HRY.out, if_pos HP.out, HPL.out]
    exact ⟨.inl (((HOW.out.keptT G8.out HC7.out (by decide)).keptT G9.out (Cs.kept HR7.out G8.out (fun e => HGR.out.2.1 (by injection e with e; exact e.symm))) (by decide)).mono HEW6.out), .inr ⟨rfl, rfl⟩, .inr ⟨rfl, rfl⟩⟩
  · have HP := Lib.hid hp
    have hm4 : 400 < m.length := by have := HRM.out; omega
    have hd : decide (400 < m.length) = true := decide_eq_true hm4
    have hd2 : decide ((400 : Int) < (m.length : Int)) = true := decide_eq_true (by omega)
    have HPB := Lib.hid (show ptB x.a q = false by unfold ptB; rw [if_neg hp])
    clear hp hm4
    go_wp2_with ((with_reducible refine wpList_storeX ?_ ?_ (.tmp 4) (.tmp 20) ?_ gr (.slice none 0 0) (.slice none 0 0) (.slice none 0 0) (.slice none 0 0) (.slice none 0 0) (.slice none 0 0) ?_ ?_ rfl rfl rfl HR7.out ?_); (exact rfl); (exact rfl); (exact rfl); (exact rfl); (exact rfl); intro w9 k9 g9; have K9 := Lib.hid k9; have G9 := Lib.hid g9; clear k9 g9)
    refine bodyPost_ret (results_ax_err Try.results17 _ _ gr _ _ _ rfl K9.out) rfl ?_
    refine ⟨_, _, _, by rw [HPB.out, ← HRB.out, decide_eq_false HP.out]; rfl, ?_, HEW.out.grown G9.out (Nat.le_trans (Nat.le_of_eq HG1.out) HGR.out.1)⟩
    rw [← HRY.out, if_neg HP.out]
    exact KpX.nil _ _ _ _ _ _
end Go.Proofs.Ytjampleddeidaaa
