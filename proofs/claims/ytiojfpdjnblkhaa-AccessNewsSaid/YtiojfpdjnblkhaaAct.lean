/- Package access: Warm and Load. -/
import Derived.Test.YtiojfpdjnblkhaaAcq
namespace Go.Proofs.Ytiojfpdjnblkhaa
open Go.ChangeShapes Go.WideShapes Go.ChangeAt Go.RowKit Go.Shelf

set_option maxRecDepth 100000 in
theorem built_pas1 (q : Pe) : Try.prog.built 95 [(0, .agg (cS q))] = some (cP ⟨q.addr, q.key, 0⟩) := by kernel_rfl
set_option maxRecDepth 100000 in
theorem built_pas2 (q : Pe) (n : Nat) : Try.prog.built 95 [(0, .agg (cS q)), (1, wv n)] = some (cP ⟨q.addr, q.key, n⟩) := by kernel_rfl
set_option maxRecDepth 100000 in
theorem wpList_build_pas1 {ops : Array Oper} {rest : List Oper} {o : Oper} {a : Act} {w : World} {Q : Exit → Act → World → Prop} (hg : o.guard = none) (x : Operand) (ho : o.op = .build 95 #[(0, x)]) (q : Pe) (hx : a.eval x = .agg (cS q))
    (h : wpList Try.prog ops Q rest (a.put o.dst (.agg (cP ⟨q.addr, q.key, 0⟩))) w) : wpList Try.prog ops Q (o :: rest) a w := by
  refine wpList_build hg 95 #[(0, x)] ho ?_ ?_
  · simp only [List.map_toArray, List.map_cons, List.map_nil, hx, built_pas1]; rfl
  · simp only [List.map_toArray, List.map_cons, List.map_nil, hx, built_pas1, Option.getD_some]; exact h
set_option maxRecDepth 100000 in
theorem wpList_build_pas2 {ops : Array Oper} {rest : List Oper} {o : Oper} {a : Act} {w : World} {Q : Exit → Act → World → Prop} (hg : o.guard = none) (x y : Operand) (ho : o.op = .build 95 #[(0, x), (1, y)]) (q : Pe) (n : Nat) (hx : a.eval x = .agg (cS q)) (hy : a.eval y = wv n)
    (h : wpList Try.prog ops Q rest (a.put o.dst (.agg (cP ⟨q.addr, q.key, n⟩))) w) : wpList Try.prog ops Q (o :: rest) a w := by
  refine wpList_build hg 95 #[(0, x), (1, y)] ho ?_ ?_
  · simp only [List.map_toArray, List.map_cons, List.map_nil, hx, hy, built_pas2]; rfl
  · simp only [List.map_toArray, List.map_cons, List.map_nil, hx, hy, built_pas2, Option.getD_some]; exact h
def warmX (x : Ax) (q : Pe) : Bool := rightX x && hasX x.a q.cod
def loadX (x : Ax) (q : Pe) : Nat := if rightX x && hasX x.p q.cod then (x.p.getD (posX x.p q.cod) pz0).val else 0
set_option maxRecDepth 100000 in
set_option maxHeartbeats 8000000 in
theorem warmX_any (va vs vp : Value) (x : Ax) (q : Pe) (w : World) (hx : AxR w va vs vp x) (hq : okA q) :
    Calls Try.prog 22 #[.agg #[va, vs, vp], .int .u64 (q.addr : Nat)] w fun e w' => e = .returned (.bool (warmX x q)) ∧ Ext w w' := by
  have HX := Lib.hid hx
  have HQ := Lib.hid hq
  obtain ⟨A1, c1, rfl, _, _⟩ := hx.1.len
  obtain ⟨A2, c2, rfl, _, _⟩ := hx.2.1.len
  obtain ⟨A3, c3, rfl, hc3, hm3⟩ := hx.2.2.len
  unfold maxLen at hm3
  obtain ⟨w0, hw0⟩ : ∃ w0, w.alloc (.cells #[.slice A1 x.a.length c1, .slice A2 x.s.length c2, .slice A3 x.p.length c3] 49) = w0 := ⟨_, rfl⟩
  have HC0 : Hid (Cs w0 w.heap.size 49 #[.slice A1 x.a.length c1, .slice A2 x.s.length c2, .slice A3 x.p.length c3]) := Lib.hid (by rw [← hw0]; exact Cs.new _ _ _ _ rfl)
  have HE0 : Hid (Ext w w0) := Lib.hid (by rw [← hw0]; exact (Ext.refl w).alloc _)
  have HW0 := Lib.hid hw0
  have HDF : Hid (warmX x q = (rightX x && hasX x.a q.cod)) := Lib.hid rfl
  clear hx hw0 hq hc3 hm3
  go_enter Try.func22, Try.ntmps22
  go_upto_region 1 with fail
  rw [HW0.out]
  clear HW0
  go_wp2_with ((with_reducible refine wpList_loadX ?_ (.tmp 2) ?_ w.heap.size (.slice A1 x.a.length c1) (.slice A2 x.s.length c2) (.slice A3 x.p.length c3) ?_ ?_ ?_); (exact rfl); (exact rfl); (exact rfl); (exact HC0.out))
  refine (checkX_any _ _ _ x _ ⟨HX.out.1.ext HE0.out, HX.out.2.1.ext HE0.out, HX.out.2.2.ext HE0.out⟩).mono ?_
  rintro e w1 ⟨rfl, he⟩
  have HE1 := Lib.hid (HE0.out.trans he)
  have HC1 := Lib.hid (Cs.ext HC0.out he)
  clear he HC0 HE0
  cases hr : rightX x with
  | false =>
    have HK : Hid (chkX x = 190) := Lib.hid (by unfold chkX; rw [hr]; rfl)
    have HF := Lib.hid (show warmX x q = false by rw [HDF.out, hr, Bool.false_and])
    clear hr
    rw [HK.out]
    go_wp2_with fail
    refine bodyPost_ret (results_tmp rfl _ _ _) rfl ?_
    exact ⟨by rw [HF.out]; rfl, HE1.out⟩
  | true =>
    have HK : Hid (chkX x = 0) := Lib.hid (by unfold chkX; rw [hr]; rfl)
    have HF := Lib.hid (show warmX x q = hasX x.a q.cod by rw [HDF.out, hr, Bool.true_and])
    have HRS := Lib.hid (rs_iff.1 (rightX_facts hr).1)
    have q1 := HC1.out.cell 0 _ rfl
    clear hr
    rw [HK.out]
    go_wp2_with fail
    refine (searchA_any _ x.a q _ (HX.out.1.ext HE1.out) HRS.out.2 (by have := HRS.out.1; omega) HQ.out).mono ?_
    rintro e w2 ⟨rfl, he⟩
    have HE2 := Lib.hid (HE1.out.trans he)
    clear he
    go_wp2_with fail
    refine bodyPost_ret (results_tmp rfl _ _ _) rfl ?_
    exact ⟨by rw [HF.out]; rfl, HE2.out⟩
set_option maxRecDepth 100000 in
set_option maxHeartbeats 8000000 in
theorem loadX_any (va vs vp : Value) (x : Ax) (q : Pe) (w : World) (hx : AxR w va vs vp x) (hq : okS q) :
    Calls Try.prog 21 #[.agg #[va, vs, vp], .agg (cS q)] w fun e w' => e = .returned (wv (loadX x q)) ∧ Ext w w' := by
  have HX := Lib.hid hx
  have HQ := Lib.hid hq
  obtain ⟨A1, c1, rfl, _, _⟩ := hx.1.len
  obtain ⟨A2, c2, rfl, _, _⟩ := hx.2.1.len
  obtain ⟨A3, c3, rfl, hc3, hm3⟩ := hx.2.2.len
  unfold maxLen at hm3
  obtain ⟨w0, hw0⟩ : ∃ w0, ((w.alloc (.cells #[.slice A1 x.a.length c1, .slice A2 x.s.length c2, .slice A3 x.p.length c3] 49)).alloc (.cells (cS q) 51)).alloc (.cells #[.int .u64 0, .int .u64 0, .int .u64 0, .int .u64 0] 31) = w0 := ⟨_, rfl⟩
  have HC0 : Hid (Cs w0 w.heap.size 49 #[.slice A1 x.a.length c1, .slice A2 x.s.length c2, .slice A3 x.p.length c3]) := Lib.hid (by rw [← hw0]; exact Cs.alloc (Cs.alloc (Cs.new _ _ _ _ rfl) _) _)
  have HQ0 : Hid (Cs w0 (w.heap.size + 1) 51 (cS q)) := Lib.hid (by rw [← hw0]; exact Cs.alloc (Cs.new _ _ _ _ (by simp)) _)
  have HR0 : Hid (Cs w0 (w.heap.size + 1 + 1) 31 (wc 0)) := Lib.hid (by rw [← hw0]; exact Cs.new _ _ _ _ (by simp))
  have HE0 : Hid (Ext w w0) := Lib.hid (by rw [← hw0]; exact (((Ext.refl w).alloc _).alloc _).alloc _)
  have HW0 := Lib.hid hw0
  have HDF : Hid (loadX x q = if rightX x && hasX x.p q.cod then (x.p.getD (posX x.p q.cod) pz0).val else 0) := Lib.hid rfl
  clear hx hw0 hq
  go_enter Try.func21, Try.ntmps21
  go_upto_region 1 with fail
  rw [HW0.out]
  clear HW0
  go_wp2_with ((with_reducible refine wpList_loadX ?_ (.tmp 2) ?_ w.heap.size (.slice A1 x.a.length c1) (.slice A2 x.s.length c2) (.slice A3 x.p.length c3) ?_ ?_ ?_); (exact rfl); (exact rfl); (exact rfl); (exact HC0.out))
  refine (checkX_any _ _ _ x _ ⟨HX.out.1.ext HE0.out, HX.out.2.1.ext HE0.out, HX.out.2.2.ext HE0.out⟩).mono ?_
  rintro e w1 ⟨rfl, he⟩
  have HE1 := Lib.hid (HE0.out.trans he)
  have HC1 := Lib.hid (Cs.ext HC0.out he)
  have HQ1 := Lib.hid (Cs.rg (Cs.ext HQ0.out he))
  have HR1 := Lib.hid (Cs.ext HR0.out he)
  clear he HC0 HE0 HQ0 HR0
  cases hr : rightX x with
  | false =>
    have HK : Hid (chkX x = 190) := Lib.hid (by unfold chkX; rw [hr]; rfl)
    have HF := Lib.hid (show loadX x q = 0 by rw [HDF.out, hr, Bool.false_and, if_neg Bool.false_ne_true])
    clear hr
    rw [HK.out]
    go_wp2_with ((with_reducible refine wpList_store_word ?_ ?_ 31 (.tmp 4) (.tmp 10) ?_ winfo (w.heap.size + 1 + 1) (wc 0) 0 ?_ ?_ ?_ ?_ ?_); (exact rfl); (exact rfl); (exact rfl); (exact rfl); (exact rfl); (exact HR1.out); (exact rfl); intro w2 k2 g2; have K2 := Lib.hid k2; have G2 := Lib.hid g2; clear k2 g2)
    refine bodyPost_ret (results_word Try.results21 _ _ (w.heap.size + 1 + 1) 0 rfl K2.out Try.underlying31 winfo) rfl ?_
    exact ⟨by rw [HF.out], HE1.out.grown G2.out (by omega)⟩
  | true =>
    have HK : Hid (chkX x = 0) := Lib.hid (by unfold chkX; rw [hr]; rfl)
    have HDF := Lib.hid (show loadX x q = if hasX x.p q.cod then (x.p.getD (posX x.p q.cod) pz0).val else 0 by rw [HDF.out, hr, Bool.true_and])
    have HRS := Lib.hid (rs_iff.1 (rightX_facts hr).2.2.1)
    have q1 := HC1.out.cell 2 _ rfl
    clear hr
    rw [HK.out]
    go_wp2_with (first
      | ((with_reducible refine wpList_loadS ?_ (.tmp 3) ?_ (w.heap.size + 1) 0 q ?_ ?_ ?_); (exact rfl); (exact rfl); (exact rfl); (exact HQ1.out))
      | ((with_reducible refine wpList_build_pas1 ?_ (.tmp 14) ?_ q ?_ ?_); (exact rfl); (exact rfl); (exact rfl)))
    refine (searchP_any _ x.p ⟨q.addr, q.key, 0⟩ _ (HX.out.2.2.ext HE1.out) HRS.out.2 (by have := HRS.out.1; omega) ⟨HQ.out.1, HQ.out.2.1, show (0 : Nat) < M256 by decide⟩).mono ?_
    rintro e w2 ⟨rfl, he⟩
    have HE2 := Lib.hid (HE1.out.trans he)
    have HR2 := Lib.hid (Cs.ext HR1.out he)
    have HC2 := Lib.hid (Cs.ext HC1.out he)
    clear he HC1 HR1 HQ1
    obtain ⟨pn, hpn⟩ : ∃ n, posX x.p q.cod = n := ⟨_, rfl⟩
    have HPN := Lib.hid hpn
    rw [show (⟨q.addr, q.key, 0⟩ : Pe).cod = q.cod from rfl, hpn]
    clear hpn
    cases hh : hasX x.p q.cod with
    | false =>
      have HF := Lib.hid (show loadX x q = 0 by rw [HDF.out, hh, if_neg Bool.false_ne_true])
      clear hh q1
      go_wp2_with ((with_reducible refine wpList_store_word ?_ ?_ 31 (.tmp 4) (.tmp 21) ?_ winfo (w.heap.size + 1 + 1) (wc 0) 0 ?_ ?_ ?_ ?_ ?_); (exact rfl); (exact rfl); (exact rfl); (exact rfl); (exact rfl); (exact HR2.out); (exact rfl); intro w3 k3 g3; have K3 := Lib.hid k3; have G3 := Lib.hid g3; clear k3 g3)
      refine bodyPost_ret (results_word Try.results21 _ _ (w.heap.size + 1 + 1) 0 rfl K3.out Try.underlying31 winfo) rfl ?_
      exact ⟨by rw [HF.out], HE2.out.grown G3.out (by omega)⟩
    | true =>
      have hlt : pn < x.p.length := by rw [← HPN.out]; exact hasX_lt hh
      have HF := Lib.hid (show loadX x q = (x.p.getD pn pz0).val by rw [HDF.out, hh, if_pos rfl, HPN.out])
      have hd : decide (pn < x.p.length) = true := decide_eq_true hlt
      have hd2 : decide ((pn : Int) < (x.p.length : Int)) = true := decide_eq_true (by omega)
      obtain ⟨bb, oo, rfl, hrg, hpk⟩ := (HX.out.2.2.ext HE2.out).at pn hlt
      have HRV := Lib.hid (cP_val hrg)
      have q2 := HC2.out.cell 2 _ rfl
      clear hh q1 hrg hpk
      generalize x.p.getD pn pz0 = p at *
      go_wp2_with (first
        | ((with_reducible refine wpList_load_wordIn ?_ (.tmp 26) ?_ bb (oo + pn * 9 + 5) p.val ?_ ?_ ?_); (exact rfl); (exact rfl); (exact rfl); (exact HRV.out))
        | ((with_reducible refine wpList_store_word ?_ ?_ 31 (.tmp 4) (.tmp 27) ?_ winfo (w.heap.size + 1 + 1) (wc 0) p.val ?_ ?_ ?_ ?_ ?_); (exact rfl); (exact rfl); (exact rfl); (exact rfl); (exact rfl); (exact HR2.out); (exact rfl); intro w3 k3 g3; have K3 := Lib.hid k3; have G3 := Lib.hid g3; clear k3 g3))
      refine bodyPost_ret (results_word Try.results21 _ _ (w.heap.size + 1 + 1) p.val rfl K3.out Try.underlying31 winfo) rfl ?_
      exact ⟨by rw [HF.out], HE2.out.grown G3.out (by omega)⟩
end Go.Proofs.Ytiojfpdjnblkhaa
