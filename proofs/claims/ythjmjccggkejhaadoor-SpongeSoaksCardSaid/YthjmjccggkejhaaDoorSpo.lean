/- Does the layer do anything? -/
import Derived.Test.YthjmjccggkejhaaDoorSpn
import Derived.Test.YthjmjccggkejhaaDoorSpm
namespace Go.Proofs.YthjmjccggkejhaaDoor
open Go.RowKit Go.Shelf

def nilF (i : Nat) : Nat := nilD.getD i 0
def rl0 : Nat → Nat := rndF (fun _ => 0) 0
def one0 (i : Nat) : Nat := if i = 0 then 1 else 0
set_option maxRecDepth 100000 in
theorem nil_nil : same32 nilF nilF = true := by decide +kernel
set_option maxRecDepth 100000 in
theorem rl_one : same25 rl0 one0 = true := by decide +kernel
set_option maxRecDepth 100000 in
theorem prs_nil : prsV ⟨#[99, 53, 100, 50, 52, 54, 48, 49, 56, 54, 102, 55, 50, 51, 51, 99, 57, 50, 55, 101, 55, 100, 98, 50, 100, 99, 99, 55, 48, 51, 99, 48, 101, 53, 48, 48, 98, 54, 53, 51, 99, 97, 56, 50, 50, 55, 51, 98, 55, 98, 102, 97, 100, 56, 48, 52, 53, 100, 56, 53, 97, 52, 55, 48]⟩ = .tuple #[idv nilF, .int .i64 0] := by
  have hd : ∀ j, dS ⟨#[99, 53, 100, 50, 52, 54, 48, 49, 56, 54, 102, 55, 50, 51, 51, 99, 57, 50, 55, 101, 55, 100, 98, 50, 100, 99, 99, 55, 48, 51, 99, 48, 101, 53, 48, 48, 98, 54, 53, 51, 99, 97, 56, 50, 50, 55, 51, 98, 55, 98, 102, 97, 100, 56, 48, 52, 53, 100, 56, 53, 97, 52, 55, 48]⟩ j = dgN (([99, 53, 100, 50, 52, 54, 48, 49, 56, 54, 102, 55, 50, 51, 51, 99, 57, 50, 55, 101, 55, 100, 98, 50, 100, 99, 99, 55, 48, 51, 99, 48, 101, 53, 48, 48, 98, 54, 53, 51, 99, 97, 56, 50, 50, 55, 51, 98, 55, 98, 102, 97, 100, 56, 48, 52, 53, 100, 56, 53, 97, 52, 55, 48] : List UInt8).getD j 0).toNat := fun j => by
    unfold dS
    rw [ByteArray.toList_eq]
  have hok : okS ⟨#[99, 53, 100, 50, 52, 54, 48, 49, 56, 54, 102, 55, 50, 51, 51, 99, 57, 50, 55, 101, 55, 100, 98, 50, 100, 99, 99, 55, 48, 51, 99, 48, 101, 53, 48, 48, 98, 54, 53, 51, 99, 97, 56, 50, 50, 55, 51, 98, 55, 98, 102, 97, 100, 56, 48, 52, 53, 100, 56, 53, 97, 52, 55, 48]⟩ = true := okS_yes _ rfl fun j hj => by
    rw [hd]
    have h : ∀ i : Fin 64, dgN (([99, 53, 100, 50, 52, 54, 48, 49, 56, 54, 102, 55, 50, 51, 51, 99, 57, 50, 55, 101, 55, 100, 98, 50, 100, 99, 99, 55, 48, 51, 99, 48, 101, 53, 48, 48, 98, 54, 53, 51, 99, 97, 56, 50, 50, 55, 51, 98, 55, 98, 102, 97, 100, 56, 48, 52, 53, 100, 56, 53, 97, 52, 55, 48] : List UInt8).getD i.val 0).toNat < 16 := by decide +kernel
    exact h ⟨j, hj⟩
  unfold prsV
  rw [if_pos hok]
  unfold idv
  rw [ic_congr (g := nilF)]
  intro i hi
  unfold idP
  rw [hd, hd]
  have h : ∀ j : Fin 32, 16 * dgN (([99, 53, 100, 50, 52, 54, 48, 49, 56, 54, 102, 55, 50, 51, 51, 99, 57, 50, 55, 101, 55, 100, 98, 50, 100, 99, 99, 55, 48, 51, 99, 48, 101, 53, 48, 48, 98, 54, 53, 51, 99, 97, 56, 50, 50, 55, 51, 98, 55, 98, 102, 97, 100, 56, 48, 52, 53, 100, 56, 53, 97, 52, 55, 48] : List UInt8).getD (2 * j.val) 0).toNat + dgN (([99, 53, 100, 50, 52, 54, 48, 49, 56, 54, 102, 55, 50, 51, 51, 99, 57, 50, 55, 101, 55, 100, 98, 50, 100, 99, 99, 55, 48, 51, 99, 48, 101, 53, 48, 48, 98, 54, 53, 51, 99, 97, 56, 50, 50, 55, 51, 98, 55, 98, 102, 97, 100, 56, 48, 52, 53, 100, 56, 53, 97, 52, 55, 48] : List UInt8).getD (2 * j.val + 1) 0).toNat = nilF j.val := by decide +kernel
  exact h ⟨i, hi⟩
set_option maxRecDepth 100000 in
theorem sumNil (w : World) (ht : Tb w) : Calls Tryd.prog 14 #[.slice none 0 0] w fun e w' => e = .returned (idv nilF) ∧ Ext w w' := by
  have h := sum_any (.slice none 0 0) [] w (Bs.nil w) (by simp) ht
  rwa [sum_nil] at h
set_option maxRecDepth 100000 in
theorem lessNil (w : World) : Calls Tryd.prog 28 #[idv (fun _ => 0), idv nilF] w fun e w' => e = .returned (.bool true) ∧ Ext w w' := by
  have h := less_any (fun _ => 0) nilF w
  rwa [show lsR (fun _ => 0) nilF 32 0 = true by decide +kernel] at h
set_option maxRecDepth 100000 in
theorem roundZ (w : World) (ht : Tb w) : Calls Tryd.prog 24 #[lnv (fun _ => 0), .int .i64 0] w fun e w' => e = .returned (.tuple #[lnv rl0, .int .i64 0]) ∧ Ext w w' := by
  have h := round_any (fun _ => 0) 0 w (fun i _ => Nat.pow_pos (n := 64) (show 0 < 2 by decide)) ht
  rwa [show rndV (fun _ => 0) 0 = .tuple #[lnv rl0, .int .i64 0] from rfl] at h
set_option maxRecDepth 100000 in
theorem wpList_eql_id {ops : Array Oper} {rest : List Oper} {o : Oper} {a : Act} {w : World} {Q : Exit → Act → World → Prop} (hgd : Region.wanted o (yielded ops a.tmps) = true) (x y : Operand) (ho : o.op = .binOp .eql 27 x y 27)
    (f g : Nat → Nat) (b : Bool) (hx : a.eval x = idv f) (hy : a.eval y = idv g) (hb : same32 f g = b) (h : wpList Tryd.prog ops Q rest (a.put o.dst (.bool b)) w) : wpList Tryd.prog ops Q (o :: rest) a w := by
  refine wpList_step fun K hK => ?_
  rw [if_pos hgd]
  unfold Oper.wp
  simp only [execOp, ho, hx, hy, Sem.run_bind, run_guard_eql_id, Result.andThen_ok, run_eql_id f g, hb]
  exact hK _ _ h
set_option maxRecDepth 100000 in
theorem wpList_eql_lanes {ops : Array Oper} {rest : List Oper} {o : Oper} {a : Act} {w : World} {Q : Exit → Act → World → Prop} (hgd : Region.wanted o (yielded ops a.tmps) = true) (x y : Operand) (ho : o.op = .binOp .eql 35 x y 35)
    (f g : Nat → Nat) (b : Bool) (hx : a.eval x = lnv f) (hy : a.eval y = lnv g) (hb : same25 f g = b) (h : wpList Tryd.prog ops Q rest (a.put o.dst (.bool b)) w) : wpList Tryd.prog ops Q (o :: rest) a w := by
  refine wpList_step fun K hK => ?_
  rw [if_pos hgd]
  unfold Oper.wp
  simp only [execOp, ho, hx, hy, Sem.run_bind, run_guard_eql_lanes, Result.andThen_ok, run_eql_lanes f g, hb]
  exact hK _ _ h
/-- What lies there ahead of the last line. -/
def WkB (w : World) (g1 g3 : Nat) (W : World) : Prop := Ib W g1 nilF ∧ Ln W g3 rl0 ∧ Ext w W
set_option maxRecDepth 100000 in
theorem WkB.ext {w : World} {g1 g3 : Nat} {W W' : World} (h : WkB w g1 g3 W) (he : Ext W W') : WkB w g1 g3 W' := ⟨h.1.ext he, h.2.1.ext he, h.2.2.trans he⟩
set_option maxRecDepth 100000 in
theorem WkB.drew {w : World} {g1 g3 : Nat} {W : World} (h : WkB w g1 g3 W) : WkB w g1 g3 W.drew := h.ext (ext_of_grown (grown_drew (World.grownBy.refl _ _)))

set_option maxRecDepth 100000 in
set_option maxHeartbeats 2000000 in
theorem wakes_any (w : World) (ht : Tb w) : Calls Tryd.prog 11 #[] w fun e w' => e = .returned (.bool true) ∧ Ext w w' := by
  have HT := Lib.hid ht
  clear ht
  have HP := Lib.hid (fun w => parse_any ⟨#[99, 53, 100, 50, 52, 54, 48, 49, 56, 54, 102, 55, 50, 51, 51, 99, 57, 50, 55, 101, 55, 100, 98, 50, 100, 99, 99, 55, 48, 51, 99, 48, 101, 53, 48, 48, 98, 54, 53, 51, 99, 97, 56, 50, 50, 55, 51, 98, 55, 98, 102, 97, 100, 56, 48, 52, 53, 100, 56, 53, 97, 52, 55, 48]⟩ w)
  go_enter Tryd.func11, Tryd.ntmps11
  go_wp2_with fail
  refine (HP.out _).mono ?_
  rw [prs_nil]
  rintro e w1 ⟨rfl, he1⟩
  have HE1 := Lib.hid he1
  clear he1 HP
  go_wp2_with ((with_reducible refine wpList_store_id ?_ ?_ (.tmp 1) (.tmp 7) ?_ w1.heap.size (ic fun _ => 0) nilF ?_ ?_ ?_ ?_ ?_); (exact rfl); (exact rfl); (exact rfl); (exact rfl); (exact rfl); (exact Cs.new _ _ _ _ rfl); (exact ic_size _); intro w2 k2 e2; have K2 := Lib.hid k2; have HE2 := Lib.hid ((HE1.out.alloc _).grown e2 HE1.out.size); clear k2 e2)
  refine (roundZ _ (HT.out.ext HE2.out)).mono ?_
  rintro e w3 ⟨rfl, he3⟩
  have K3 := Lib.hid (K2.out.ext he3)
  have HE3 := Lib.hid (HE2.out.trans he3)
  clear he3 K2 HE2
  go_upto_region 3 with ((with_reducible refine wpList_store_lanes ?_ ?_ (.tmp 3) (.tmp 12) ?_ w3.heap.size (lc fun _ => 0) rl0 ?_ ?_ ?_ ?_ ?_); (exact rfl); (exact rfl); (exact rfl); (exact rfl); (exact rfl); (exact Cs.new _ _ _ _ rfl); (exact lc_size _); intro w4 k4 e4; have HB0 : Hid (WkB w w1.heap.size w3.heap.size w4) := ⟨Cs.kept (Cs.alloc K3.out _) e4 (some_ne (by have := Cs.lt K3.out; omega)), k4, (HE3.out.alloc _).grown e4 HE3.out.size⟩; clear k4 e4)
  clear K3 HE3 HE1
  generalize w1.heap.size = g1 at *
  generalize w3.heap.size = g3 at *
  refine wp_named fun a0 ha0 => ?_
  obtain ⟨fr, hfr⟩ : ∃ fr : (Nat → Value) → Act, ∀ V, fr V = ((((((((((((((((((((((a0.put (some 14) (V 0)).put (some 15) (V 1)).put (some 16) (V 2)).put (some 17) (V 3)).put (some 18) (V 4)).put (some 19) (V 5)).put (some 20) (V 6)).put (some 21) (V 7)).put (some 22) (V 8)).put (some 23) (V 9)).put (some 24) (V 10)).put (some 25) (V 11)).put (some 26) (V 12)).put (some 27) (V 13)).put (some 28) (V 14)).put (some 29) (V 15)).put (some 30) (V 16)).put (some 31) (V 17)).put (some 32) (V 18)).put (some 33) (V 19)).put (some 34) (V 20)).put (some 0) (V 21)) := ⟨fun V => ((((((((((((((((((((((a0.put (some 14) (V 0)).put (some 15) (V 1)).put (some 16) (V 2)).put (some 17) (V 3)).put (some 18) (V 4)).put (some 19) (V 5)).put (some 20) (V 6)).put (some 21) (V 7)).put (some 22) (V 8)).put (some 23) (V 9)).put (some 24) (V 10)).put (some 25) (V 11)).put (some 26) (V 12)).put (some 27) (V 13)).put (some 28) (V 14)).put (some 29) (V 15)).put (some 30) (V 16)).put (some 31) (V 17)).put (some 32) (V 18)).put (some 33) (V 19)).put (some 34) (V 20)).put (some 0) (V 21)), fun _ => rfl⟩
  rw [ha0] at hfr
  simp only [Act.put, List.setIfInBounds_toArray, List.set_cons_zero, List.set_cons_succ] at hfr
  have HFR := Lib.hid hfr
  clear hfr
  refine wp_region_inv (by kernel_rfl) (by kernel_rfl) (fun L A W => ∃ V : Nat → Value, A = fr V ∧ Vals (fun j => ([some (.int .i64 0), some (.bool true), some (.bool true), some (.int .i64 0), some (.bool true), some (.bool true), some (.bool true), some (idv nilF), some (idv nilF), some (.bool true), some (.bool true), some (.bool true), some (lnv rl0), some (lnv one0), some (.bool true), some (.bool true), some (.bool true), some (idv (fun _ => 0)), some (idv nilF), some (.bool true), some (.bool true), some (.bool true)] : List (Option Value)).getD j none) L V ∧ WkB w g1 g3 W) ?_ ⟨?_, ?_, ?_, ?_, ?_, ?_, ?_, ?_, ?_, ?_, ?_, ?_, ?_, ?_, ?_, ?_, ?_, ?_, ?_, ?_, ?_, ?_, trivial⟩ ?_
  · refine ⟨fun j => a0.tmps.getD (([14, 15, 16, 17, 18, 19, 20, 21, 22, 23, 24, 25, 26, 27, 28, 29, 30, 31, 32, 33, 34, 0] : List Nat).getD j 0) undef, ?_, Vals.no _ _ _ (far_none _ _ rfl), HB0.out.drew⟩
    rw [HFR.out, ha0]
    rfl
  all_goals clear ha0
  · rintro L A W K hL hC hW ⟨V, rfl, HV, hB⟩ hK
    have H := Lib.hid (show ∀ W', Ext W W' → K (fr (upd V 0 (.int .i64 0))) W' from fun W' he => hK _ W' ⟨upd V 0 (.int .i64 0), rfl, HV.up 0 _ (fun x hx => Option.some.inj hx), WkB.ext hB he⟩)
    clear hK hC hW hL HV
    rw [HFR.out]
    clear hB
    go_wp2_with fail
    show K _ _
    have := H.out _ (Ext.refl _)
    rw [HFR.out] at this
    exact this
  · rintro L A W K hL hC hW ⟨V, rfl, HV, hB⟩ hK
    have e0 : V 0 = .int .i64 0 := HV 0 _ rfl (hW 0 rfl)
    have H := Lib.hid (show ∀ W', Ext W W' → K (fr (upd V 1 (.bool true))) W' from fun W' he => hK _ W' ⟨upd V 1 (.bool true), rfl, HV.up 1 _ (fun x hx => Option.some.inj hx), WkB.ext hB he⟩)
    clear hK hC hW hL HV
    have u0 : (upd V 1 (.bool true)) 0 = .int .i64 0 := e0
    have HU := Lib.hid (show (upd V 1 (.bool true)) 0 = .int .i64 0 from u0)
    clear u0
    rw [HFR.out]
    rw [e0]
    clear e0
    clear hB
    go_wp2_with fail
    show K _ _
    have := H.out _ (Ext.refl _)
    rw [HFR.out] at this
    obtain u0 := HU.out
    rw [u0] at this
    exact this
  · rintro L A W K hL hC hW ⟨V, rfl, HV, hB⟩ hK
    have e1 : V 1 = .bool true := HV 1 _ rfl (hW 1 rfl)
    have H := Lib.hid (show ∀ W', Ext W W' → K (fr (upd V 2 (.bool true))) W' from fun W' he => hK _ W' ⟨upd V 2 (.bool true), rfl, HV.up 2 _ (fun x hx => Option.some.inj hx), WkB.ext hB he⟩)
    clear hK hC hW hL HV
    have u1 : (upd V 2 (.bool true)) 1 = .bool true := e1
    have HU := Lib.hid (show (upd V 2 (.bool true)) 1 = .bool true from u1)
    clear u1
    rw [HFR.out]
    rw [e1]
    clear e1
    clear hB
    go_wp2_with fail
    show K _ _
    have := H.out _ (Ext.refl _)
    rw [HFR.out] at this
    obtain u1 := HU.out
    rw [u1] at this
    exact this
  · rintro L A W K hL hC hW ⟨V, rfl, HV, hB⟩ hK
    have e2 : V 2 = .bool true := HV 2 _ rfl (hW 2 rfl)
    have H := Lib.hid (show ∀ W', Ext W W' → K (fr (upd V 3 (.int .i64 0))) W' from fun W' he => hK _ W' ⟨upd V 3 (.int .i64 0), rfl, HV.up 3 _ (fun x hx => Option.some.inj hx), WkB.ext hB he⟩)
    clear hK hC hW hL HV
    have u2 : (upd V 3 (.int .i64 0)) 2 = .bool true := e2
    have HU := Lib.hid (show (upd V 3 (.int .i64 0)) 2 = .bool true from u2)
    clear u2
    rw [HFR.out]
    rw [e2]
    clear e2
    clear hB
    go_wp2_with fail
    show K _ _
    have := H.out _ (Ext.refl _)
    rw [HFR.out] at this
    obtain u2 := HU.out
    rw [u2] at this
    exact this
  · rintro L A W K hL hC hW ⟨V, rfl, HV, hB⟩ hK
    have e2 : V 2 = .bool true := HV 2 _ rfl (hW 2 rfl)
    have e3 : V 3 = .int .i64 0 := HV 3 _ rfl (hW 3 rfl)
    have H := Lib.hid (show ∀ W', Ext W W' → K (fr (upd V 4 (.bool true))) W' from fun W' he => hK _ W' ⟨upd V 4 (.bool true), rfl, HV.up 4 _ (fun x hx => Option.some.inj hx), WkB.ext hB he⟩)
    clear hK hC hW hL HV
    have u2 : (upd V 4 (.bool true)) 2 = .bool true := e2
    have u3 : (upd V 4 (.bool true)) 3 = .int .i64 0 := e3
    have HU := Lib.hid (show (upd V 4 (.bool true)) 2 = .bool true ∧ (upd V 4 (.bool true)) 3 = .int .i64 0 from ⟨u2, u3⟩)
    clear u2 u3
    rw [HFR.out]
    rw [e2, e3]
    clear e2 e3
    clear hB
    go_wp2_with fail
    show K _ _
    have := H.out _ (Ext.refl _)
    rw [HFR.out] at this
    obtain ⟨u2, u3⟩ := HU.out
    rw [u2, u3] at this
    exact this
  · rintro L A W K hL hC hW ⟨V, rfl, HV, hB⟩ hK
    have e2 : V 2 = .bool true := HV 2 _ rfl (hW 2 rfl)
    have e4 : V 4 = .bool true := HV 4 _ rfl (hW 4 rfl)
    have H := Lib.hid (show ∀ W', Ext W W' → K (fr (upd V 5 (.bool true))) W' from fun W' he => hK _ W' ⟨upd V 5 (.bool true), rfl, HV.up 5 _ (fun x hx => Option.some.inj hx), WkB.ext hB he⟩)
    clear hK hC hW hL HV
    have u2 : (upd V 5 (.bool true)) 2 = .bool true := e2
    have u4 : (upd V 5 (.bool true)) 4 = .bool true := e4
    have HU := Lib.hid (show (upd V 5 (.bool true)) 2 = .bool true ∧ (upd V 5 (.bool true)) 4 = .bool true from ⟨u2, u4⟩)
    clear u2 u4
    rw [HFR.out]
    rw [e2, e4]
    clear e2 e4
    clear hB
    go_wp2_with fail
    show K _ _
    have := H.out _ (Ext.refl _)
    rw [HFR.out] at this
    obtain ⟨u2, u4⟩ := HU.out
    rw [u2, u4] at this
    exact this
  · rintro L A W K hL hC hW ⟨V, rfl, HV, hB⟩ hK
    have e5 : V 5 = .bool true := HV 5 _ rfl (hW 5 rfl)
    have H := Lib.hid (show ∀ W', Ext W W' → K (fr (upd V 6 (.bool true))) W' from fun W' he => hK _ W' ⟨upd V 6 (.bool true), rfl, HV.up 6 _ (fun x hx => Option.some.inj hx), WkB.ext hB he⟩)
    clear hK hC hW hL HV
    have u5 : (upd V 6 (.bool true)) 5 = .bool true := e5
    have HU := Lib.hid (show (upd V 6 (.bool true)) 5 = .bool true from u5)
    clear u5
    rw [HFR.out]
    rw [e5]
    clear e5
    clear hB
    go_wp2_with fail
    show K _ _
    have := H.out _ (Ext.refl _)
    rw [HFR.out] at this
    obtain u5 := HU.out
    rw [u5] at this
    exact this
  · rintro L A W K hL hC hW ⟨V, rfl, HV, hB⟩ hK
    have e6 : V 6 = .bool true := HV 6 _ rfl (hW 6 rfl)
    have H := Lib.hid (show ∀ W', Ext W W' → K (fr (upd V 7 (idv nilF))) W' from fun W' he => hK _ W' ⟨upd V 7 (idv nilF), rfl, HV.up 7 _ (fun x hx => Option.some.inj hx), WkB.ext hB he⟩)
    clear hK hC hW hL HV
    have u6 : (upd V 7 (idv nilF)) 6 = .bool true := e6
    have HU := Lib.hid (show (upd V 7 (idv nilF)) 6 = .bool true from u6)
    clear u6
    rw [HFR.out]
    rw [e6]
    clear e6
    go_wp2_with fail
    refine (sumNil _ (HT.out.ext hB.2.2)).mono ?_
    rintro e wx ⟨rfl, he⟩
    go_wp2_with fail
    show K _ _
    have := H.out _ he
    rw [HFR.out] at this
    obtain u6 := HU.out
    rw [u6] at this
    exact this
  · rintro L A W K hL hC hW ⟨V, rfl, HV, hB⟩ hK
    have e6 : V 6 = .bool true := HV 6 _ rfl (hW 6 rfl)
    have H := Lib.hid (show ∀ W', Ext W W' → K (fr (upd V 8 (idv nilF))) W' from fun W' he => hK _ W' ⟨upd V 8 (idv nilF), rfl, HV.up 8 _ (fun x hx => Option.some.inj hx), WkB.ext hB he⟩)
    clear hK hC hW hL HV
    have u6 : (upd V 8 (idv nilF)) 6 = .bool true := e6
    have HU := Lib.hid (show (upd V 8 (idv nilF)) 6 = .bool true from u6)
    clear u6
    rw [HFR.out]
    rw [e6]
    clear e6
    have HLn := Lib.hid hB.1
    clear hB
    go_wp2_with ((with_reducible refine wpList_load_id ?_ (.tmp 1) ?_ g1 nilF ?_ ?_ ?_); (exact rfl); (exact rfl); (exact rfl); (exact HLn.out))
    show K _ _
    have := H.out _ (Ext.refl _)
    rw [HFR.out] at this
    obtain u6 := HU.out
    rw [u6] at this
    exact this
  · rintro L A W K hL hC hW ⟨V, rfl, HV, hB⟩ hK
    have e6 : V 6 = .bool true := HV 6 _ rfl (hW 6 rfl)
    have e7 : V 7 = idv nilF := HV 7 _ rfl (hW 7 rfl)
    have e8 : V 8 = idv nilF := HV 8 _ rfl (hW 8 rfl)
    have H := Lib.hid (show ∀ W', Ext W W' → K (fr (upd V 9 (.bool true))) W' from fun W' he => hK _ W' ⟨upd V 9 (.bool true), rfl, HV.up 9 _ (fun x hx => Option.some.inj hx), WkB.ext hB he⟩)
    clear hK hC hW hL HV
    have u6 : (upd V 9 (.bool true)) 6 = .bool true := e6
    have u7 : (upd V 9 (.bool true)) 7 = idv nilF := e7
    have u8 : (upd V 9 (.bool true)) 8 = idv nilF := e8
    have HU := Lib.hid (show (upd V 9 (.bool true)) 6 = .bool true ∧ (upd V 9 (.bool true)) 7 = idv nilF ∧ (upd V 9 (.bool true)) 8 = idv nilF from ⟨u6, u7, u8⟩)
    clear u6 u7 u8
    rw [HFR.out]
    rw [e6, e7, e8]
    clear e6 e7 e8
    clear hB
    go_wp2_with ((with_reducible refine wpList_eql_id ?_ (.tmp 21) (.tmp 22) ?_ nilF nilF true ?_ ?_ nil_nil ?_); (exact rfl); (exact rfl); (exact rfl); (exact rfl))
    show K _ _
    have := H.out _ (Ext.refl _)
    rw [HFR.out] at this
    obtain ⟨u6, u7, u8⟩ := HU.out
    rw [u6, u7, u8] at this
    exact this
  · rintro L A W K hL hC hW ⟨V, rfl, HV, hB⟩ hK
    have e6 : V 6 = .bool true := HV 6 _ rfl (hW 6 rfl)
    have e9 : V 9 = .bool true := HV 9 _ rfl (hW 9 rfl)
    have H := Lib.hid (show ∀ W', Ext W W' → K (fr (upd V 10 (.bool true))) W' from fun W' he => hK _ W' ⟨upd V 10 (.bool true), rfl, HV.up 10 _ (fun x hx => Option.some.inj hx), WkB.ext hB he⟩)
    clear hK hC hW hL HV
    have u6 : (upd V 10 (.bool true)) 6 = .bool true := e6
    have u9 : (upd V 10 (.bool true)) 9 = .bool true := e9
    have HU := Lib.hid (show (upd V 10 (.bool true)) 6 = .bool true ∧ (upd V 10 (.bool true)) 9 = .bool true from ⟨u6, u9⟩)
    clear u6 u9
    rw [HFR.out]
    rw [e6, e9]
    clear e6 e9
    clear hB
    go_wp2_with fail
    show K _ _
    have := H.out _ (Ext.refl _)
    rw [HFR.out] at this
    obtain ⟨u6, u9⟩ := HU.out
    rw [u6, u9] at this
    exact this
  · rintro L A W K hL hC hW ⟨V, rfl, HV, hB⟩ hK
    have e10 : V 10 = .bool true := HV 10 _ rfl (hW 10 rfl)
    have H := Lib.hid (show ∀ W', Ext W W' → K (fr (upd V 11 (.bool true))) W' from fun W' he => hK _ W' ⟨upd V 11 (.bool true), rfl, HV.up 11 _ (fun x hx => Option.some.inj hx), WkB.ext hB he⟩)
    clear hK hC hW hL HV
    have u10 : (upd V 11 (.bool true)) 10 = .bool true := e10
    have HU := Lib.hid (show (upd V 11 (.bool true)) 10 = .bool true from u10)
    clear u10
    rw [HFR.out]
    rw [e10]
    clear e10
    clear hB
    go_wp2_with fail
    show K _ _
    have := H.out _ (Ext.refl _)
    rw [HFR.out] at this
    obtain u10 := HU.out
    rw [u10] at this
    exact this
  · rintro L A W K hL hC hW ⟨V, rfl, HV, hB⟩ hK
    have e11 : V 11 = .bool true := HV 11 _ rfl (hW 11 rfl)
    have H := Lib.hid (show ∀ W', Ext W W' → K (fr (upd V 12 (lnv rl0))) W' from fun W' he => hK _ W' ⟨upd V 12 (lnv rl0), rfl, HV.up 12 _ (fun x hx => Option.some.inj hx), WkB.ext hB he⟩)
    clear hK hC hW hL HV
    have u11 : (upd V 12 (lnv rl0)) 11 = .bool true := e11
    have HU := Lib.hid (show (upd V 12 (lnv rl0)) 11 = .bool true from u11)
    clear u11
    rw [HFR.out]
    rw [e11]
    clear e11
    have HLn := Lib.hid hB.2.1
    clear hB
    go_wp2_with ((with_reducible refine wpList_load_lanes ?_ (.tmp 3) ?_ g3 rl0 ?_ ?_ ?_); (exact rfl); (exact rfl); (exact rfl); (exact HLn.out))
    show K _ _
    have := H.out _ (Ext.refl _)
    rw [HFR.out] at this
    obtain u11 := HU.out
    rw [u11] at this
    exact this
  · rintro L A W K hL hC hW ⟨V, rfl, HV, hB⟩ hK
    have e11 : V 11 = .bool true := HV 11 _ rfl (hW 11 rfl)
    have H := Lib.hid (show ∀ W', Ext W W' → K (fr (upd V 13 (lnv one0))) W' from fun W' he => hK _ W' ⟨upd V 13 (lnv one0), rfl, HV.up 13 _ (fun x hx => Option.some.inj hx), WkB.ext hB he⟩)
    clear hK hC hW hL HV
    have u11 : (upd V 13 (lnv one0)) 11 = .bool true := e11
    have HU := Lib.hid (show (upd V 13 (lnv one0)) 11 = .bool true from u11)
    clear u11
    rw [HFR.out]
    rw [e11]
    clear e11
    clear hB
    go_wp2_with fail
    show K _ _
    have := H.out _ (Ext.refl _)
    rw [HFR.out] at this
    obtain u11 := HU.out
    rw [u11] at this
    exact this
  · rintro L A W K hL hC hW ⟨V, rfl, HV, hB⟩ hK
    have e11 : V 11 = .bool true := HV 11 _ rfl (hW 11 rfl)
    have e12 : V 12 = lnv rl0 := HV 12 _ rfl (hW 12 rfl)
    have e13 : V 13 = lnv one0 := HV 13 _ rfl (hW 13 rfl)
    have H := Lib.hid (show ∀ W', Ext W W' → K (fr (upd V 14 (.bool true))) W' from fun W' he => hK _ W' ⟨upd V 14 (.bool true), rfl, HV.up 14 _ (fun x hx => Option.some.inj hx), WkB.ext hB he⟩)
    clear hK hC hW hL HV
    have u11 : (upd V 14 (.bool true)) 11 = .bool true := e11
    have u12 : (upd V 14 (.bool true)) 12 = lnv rl0 := e12
    have u13 : (upd V 14 (.bool true)) 13 = lnv one0 := e13
    have HU := Lib.hid (show (upd V 14 (.bool true)) 11 = .bool true ∧ (upd V 14 (.bool true)) 12 = lnv rl0 ∧ (upd V 14 (.bool true)) 13 = lnv one0 from ⟨u11, u12, u13⟩)
    clear u11 u12 u13
    rw [HFR.out]
    rw [e11, e12, e13]
    clear e11 e12 e13
    clear hB
    go_wp2_with ((with_reducible refine wpList_eql_lanes ?_ (.tmp 26) (.tmp 27) ?_ rl0 one0 true ?_ ?_ rl_one ?_); (exact rfl); (exact rfl); (exact rfl); (exact rfl))
    show K _ _
    have := H.out _ (Ext.refl _)
    rw [HFR.out] at this
    obtain ⟨u11, u12, u13⟩ := HU.out
    rw [u11, u12, u13] at this
    exact this
  · rintro L A W K hL hC hW ⟨V, rfl, HV, hB⟩ hK
    have e11 : V 11 = .bool true := HV 11 _ rfl (hW 11 rfl)
    have e14 : V 14 = .bool true := HV 14 _ rfl (hW 14 rfl)
    have H := Lib.hid (show ∀ W', Ext W W' → K (fr (upd V 15 (.bool true))) W' from fun W' he => hK _ W' ⟨upd V 15 (.bool true), rfl, HV.up 15 _ (fun x hx => Option.some.inj hx), WkB.ext hB he⟩)
    clear hK hC hW hL HV
    have u11 : (upd V 15 (.bool true)) 11 = .bool true := e11
    have u14 : (upd V 15 (.bool true)) 14 = .bool true := e14
    have HU := Lib.hid (show (upd V 15 (.bool true)) 11 = .bool true ∧ (upd V 15 (.bool true)) 14 = .bool true from ⟨u11, u14⟩)
    clear u11 u14
    rw [HFR.out]
    rw [e11, e14]
    clear e11 e14
    clear hB
    go_wp2_with fail
    show K _ _
    have := H.out _ (Ext.refl _)
    rw [HFR.out] at this
    obtain ⟨u11, u14⟩ := HU.out
    rw [u11, u14] at this
    exact this
  · rintro L A W K hL hC hW ⟨V, rfl, HV, hB⟩ hK
    have e15 : V 15 = .bool true := HV 15 _ rfl (hW 15 rfl)
    have H := Lib.hid (show ∀ W', Ext W W' → K (fr (upd V 16 (.bool true))) W' from fun W' he => hK _ W' ⟨upd V 16 (.bool true), rfl, HV.up 16 _ (fun x hx => Option.some.inj hx), WkB.ext hB he⟩)
    clear hK hC hW hL HV
    have u15 : (upd V 16 (.bool true)) 15 = .bool true := e15
    have HU := Lib.hid (show (upd V 16 (.bool true)) 15 = .bool true from u15)
    clear u15
    rw [HFR.out]
    rw [e15]
    clear e15
    clear hB
    go_wp2_with fail
    show K _ _
    have := H.out _ (Ext.refl _)
    rw [HFR.out] at this
    obtain u15 := HU.out
    rw [u15] at this
    exact this
  · rintro L A W K hL hC hW ⟨V, rfl, HV, hB⟩ hK
    have e16 : V 16 = .bool true := HV 16 _ rfl (hW 16 rfl)
    have H := Lib.hid (show ∀ W', Ext W W' → K (fr (upd V 17 (idv (fun _ => 0)))) W' from fun W' he => hK _ W' ⟨upd V 17 (idv (fun _ => 0)), rfl, HV.up 17 _ (fun x hx => Option.some.inj hx), WkB.ext hB he⟩)
    clear hK hC hW hL HV
    have u16 : (upd V 17 (idv (fun _ => 0))) 16 = .bool true := e16
    have HU := Lib.hid (show (upd V 17 (idv (fun _ => 0))) 16 = .bool true from u16)
    clear u16
    rw [HFR.out]
    rw [e16]
    clear e16
    clear hB
    go_wp2_with fail
    show K _ _
    have := H.out _ (Ext.refl _)
    rw [HFR.out] at this
    obtain u16 := HU.out
    rw [u16] at this
    exact this
  · rintro L A W K hL hC hW ⟨V, rfl, HV, hB⟩ hK
    have e16 : V 16 = .bool true := HV 16 _ rfl (hW 16 rfl)
    have H := Lib.hid (show ∀ W', Ext W W' → K (fr (upd V 18 (idv nilF))) W' from fun W' he => hK _ W' ⟨upd V 18 (idv nilF), rfl, HV.up 18 _ (fun x hx => Option.some.inj hx), WkB.ext hB he⟩)
    clear hK hC hW hL HV
    have u16 : (upd V 18 (idv nilF)) 16 = .bool true := e16
    have HU := Lib.hid (show (upd V 18 (idv nilF)) 16 = .bool true from u16)
    clear u16
    rw [HFR.out]
    rw [e16]
    clear e16
    have HLn := Lib.hid hB.1
    clear hB
    go_wp2_with ((with_reducible refine wpList_load_id ?_ (.tmp 1) ?_ g1 nilF ?_ ?_ ?_); (exact rfl); (exact rfl); (exact rfl); (exact HLn.out))
    show K _ _
    have := H.out _ (Ext.refl _)
    rw [HFR.out] at this
    obtain u16 := HU.out
    rw [u16] at this
    exact this
  · rintro L A W K hL hC hW ⟨V, rfl, HV, hB⟩ hK
    have e16 : V 16 = .bool true := HV 16 _ rfl (hW 16 rfl)
    have e17 : V 17 = idv (fun _ => 0) := HV 17 _ rfl (hW 17 rfl)
    have e18 : V 18 = idv nilF := HV 18 _ rfl (hW 18 rfl)
    have H := Lib.hid (show ∀ W', Ext W W' → K (fr (upd V 19 (.bool true))) W' from fun W' he => hK _ W' ⟨upd V 19 (.bool true), rfl, HV.up 19 _ (fun x hx => Option.some.inj hx), WkB.ext hB he⟩)
    clear hK hC hW hL HV
    have u16 : (upd V 19 (.bool true)) 16 = .bool true := e16
    have u17 : (upd V 19 (.bool true)) 17 = idv (fun _ => 0) := e17
    have u18 : (upd V 19 (.bool true)) 18 = idv nilF := e18
    have HU := Lib.hid (show (upd V 19 (.bool true)) 16 = .bool true ∧ (upd V 19 (.bool true)) 17 = idv (fun _ => 0) ∧ (upd V 19 (.bool true)) 18 = idv nilF from ⟨u16, u17, u18⟩)
    clear u16 u17 u18
    rw [HFR.out]
    rw [e16, e17, e18]
    clear e16 e17 e18
    go_wp2_with fail
    refine (lessNil _).mono ?_
    rintro e wx ⟨rfl, he⟩
    go_wp2_with fail
    show K _ _
    have := H.out _ he
    rw [HFR.out] at this
    obtain ⟨u16, u17, u18⟩ := HU.out
    rw [u16, u17, u18] at this
    exact this
  · rintro L A W K hL hC hW ⟨V, rfl, HV, hB⟩ hK
    have e16 : V 16 = .bool true := HV 16 _ rfl (hW 16 rfl)
    have e19 : V 19 = .bool true := HV 19 _ rfl (hW 19 rfl)
    have H := Lib.hid (show ∀ W', Ext W W' → K (fr (upd V 20 (.bool true))) W' from fun W' he => hK _ W' ⟨upd V 20 (.bool true), rfl, HV.up 20 _ (fun x hx => Option.some.inj hx), WkB.ext hB he⟩)
    clear hK hC hW hL HV
    have u16 : (upd V 20 (.bool true)) 16 = .bool true := e16
    have u19 : (upd V 20 (.bool true)) 19 = .bool true := e19
    have HU := Lib.hid (show (upd V 20 (.bool true)) 16 = .bool true ∧ (upd V 20 (.bool true)) 19 = .bool true from ⟨u16, u19⟩)
    clear u16 u19
    rw [HFR.out]
    rw [e16, e19]
    clear e16 e19
    clear hB
    go_wp2_with fail
    show K _ _
    have := H.out _ (Ext.refl _)
    rw [HFR.out] at this
    obtain ⟨u16, u19⟩ := HU.out
    rw [u16, u19] at this
    exact this
  · rintro L A W K hL hC hW ⟨V, rfl, HV, hB⟩ hK
    have e20 : V 20 = .bool true := HV 20 _ rfl (hW 20 rfl)
    have H := Lib.hid (show ∀ W', Ext W W' → K (fr (upd V 21 (.bool true))) W' from fun W' he => hK _ W' ⟨upd V 21 (.bool true), rfl, HV.up 21 _ (fun x hx => Option.some.inj hx), WkB.ext hB he⟩)
    clear hK hC hW hL HV
    have u20 : (upd V 21 (.bool true)) 20 = .bool true := e20
    have HU := Lib.hid (show (upd V 21 (.bool true)) 20 = .bool true from u20)
    clear u20
    rw [HFR.out]
    rw [e20]
    clear e20
    clear hB
    go_wp2_with fail
    show K _ _
    have := H.out _ (Ext.refl _)
    rw [HFR.out] at this
    obtain u20 := HU.out
    rw [u20] at this
    exact this
  · rintro L A W hL ⟨V, rfl, HV, hB⟩
    have e0 : V 0 = .int .i64 0 := HV 0 _ rfl (hL 0 (by simp))
    have e1 : V 1 = .bool true := HV 1 _ rfl (hL 1 (by simp))
    have e2 : V 2 = .bool true := HV 2 _ rfl (hL 2 (by simp))
    have e3 : V 3 = .int .i64 0 := HV 3 _ rfl (hL 3 (by simp))
    have e4 : V 4 = .bool true := HV 4 _ rfl (hL 4 (by simp))
    have e5 : V 5 = .bool true := HV 5 _ rfl (hL 5 (by simp))
    have e6 : V 6 = .bool true := HV 6 _ rfl (hL 6 (by simp))
    have e7 : V 7 = idv nilF := HV 7 _ rfl (hL 7 (by simp))
    have e8 : V 8 = idv nilF := HV 8 _ rfl (hL 8 (by simp))
    have e9 : V 9 = .bool true := HV 9 _ rfl (hL 9 (by simp))
    have e10 : V 10 = .bool true := HV 10 _ rfl (hL 10 (by simp))
    have e11 : V 11 = .bool true := HV 11 _ rfl (hL 11 (by simp))
    have e12 : V 12 = lnv rl0 := HV 12 _ rfl (hL 12 (by simp))
    have e13 : V 13 = lnv one0 := HV 13 _ rfl (hL 13 (by simp))
    have e14 : V 14 = .bool true := HV 14 _ rfl (hL 14 (by simp))
    have e15 : V 15 = .bool true := HV 15 _ rfl (hL 15 (by simp))
    have e16 : V 16 = .bool true := HV 16 _ rfl (hL 16 (by simp))
    have e17 : V 17 = idv (fun _ => 0) := HV 17 _ rfl (hL 17 (by simp))
    have e18 : V 18 = idv nilF := HV 18 _ rfl (hL 18 (by simp))
    have e19 : V 19 = .bool true := HV 19 _ rfl (hL 19 (by simp))
    have e20 : V 20 = .bool true := HV 20 _ rfl (hL 20 (by simp))
    have e21 : V 21 = .bool true := HV 21 _ rfl (hL 21 (by simp))
    rw [HFR.out]
    rw [e0, e1, e2, e3, e4, e5, e6, e7, e8, e9, e10, e11, e12, e13, e14, e15, e16, e17, e18, e19, e20, e21]
    clear hL HV HFR e0 e1 e2 e3 e4 e5 e6 e7 e8 e9 e10 e11 e12 e13 e14 e15 e16 e17 e18 e19 e20 e21
    have HB1 := Lib.hid hB
    clear hB
    go_wp2_with fail
    go_ret
    exact ⟨rfl, HB1.out.2.2⟩
end Go.Proofs.YthjmjccggkejhaaDoor
