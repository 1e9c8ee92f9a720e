/- Package access: Warm and Load. -/
import Derived.Test.YtjampleddeidaaaQAcq
import Derived.Test.YtjampleddeidaaaQAch
namespace Go.Proofs.Ytjampleddeidaaa
open Go.ChangeShapes Go.WideShapes Go.ChangeAt Go.RowKit Go.Shelf

def warmX (x : Ax) (q : Pe) : Bool := rightX x && hasX x.a q.cod
set_option maxRecDepth 100000 in
set_option maxHeartbeats 8000000 in
theorem warmX_any (va vs vp : Value) (x : Ax) (q : Pe) (w : World) (hx : AxR w va vs vp x) (hq : okA q) :
    Calls Try.prog 16 #[.agg #[va, vs, vp], .int .u64 (q.addr : Nat)] w fun e w' => e = .returned (.bool (warmX x q)) ∧ Ext w w' := by
  have HX := Lib.hid hx
  have HQ := Lib.hid hq
  obtain ⟨A1, c1, rfl, _, _⟩ := hx.1.len
  obtain ⟨A2, c2, rfl, _, _⟩ := hx.2.1.len
  obtain ⟨A3, c3, rfl, hc3, hm3⟩ := hx.2.2.len
  unfold maxLen at hm3
  obtain ⟨w0, hw0⟩ : ∃ w0, w.alloc (.cells #[.slice A1 x.a.length c1, .slice A2 x.s.length c2, .slice A3 x.p.length c3] 26) = w0 := ⟨_, rfl⟩
  have HC0 : Hid (Cs w0 w.heap.size 26 #[.slice A1 x.a.length c1, .slice A2 x.s.length c2, .slice A3 x.p.length c3]) := Lib.hid (by rw [← hw0]; exact Cs.new _ _ _ _ rfl)
  have HE0 : Hid (Ext w w0) := Lib.hid (by rw [← hw0]; exact (Ext.refl w).alloc _)
  have HW0 := Lib.hid hw0
  have HDF : Hid (warmX x q = (rightX x && hasX x.a q.cod)) := Lib.hid rfl
  clear hx hw0 hq hc3 hm3
  go_enter Try.func16, Try.ntmps16
  go_upto_region 1 with fail
  rw [HW0.out]
  clear HW0
  go_wp2_with ((with_reducible refine wpList_loadX ?_ (.tmp 2) ?_ w.heap.size (.slice A1 x.a.length c1) (.slice A2 x.s.length c2) (.slice A3 x.p.length c3) ?_ ?_ ?_); (exact rfl); (exact rfl); (exact rfl); (exact HC0.out))
  refine (checkX_any _ _ _ x _ ⟨HX.out.1.ext HE0.out, HX.out.2.1.ext HE0.out, HX.out.2.2.ext HE0.out⟩).mono ?_
  rintro e w1 ⟨rfl, he⟩
  have HE1 := Lib.hid (HE0.out.trans he)
  have HC1 := Lib.hid (Cs.ext HC0.out he)
  clear he HC0 HE0
  cases hr : rightX x with
  | false =>
    have HK : Hid (chkX x = 190) := Lib.hid (by unfold chkX; rw [hr]; rfl)
    have HF := Lib.hid (show warmX x q = false by rw [HDF.out, hr, Bool.false_and])
    clear hr
    rw [HK.out]
    go_wp2_with fail
    refine bodyPost_ret (results_tmp rfl _ _ _) rfl ?_
    exact ⟨by rw [HF.out]; rfl, HE1.out⟩
  | true =>
    have HK : Hid (chkX x = 0) := Lib.hid (by unfold chkX; rw [hr]; rfl)
    have HF := Lib.hid (show warmX x q = hasX x.a q.cod by rw [HDF.out, hr, Bool.true_and])
    have HRS := Lib.hid (rs_iff.1 (rightX_facts hr).1)
    have q1 := HC1.out.cell 0 _ rfl
    clear hr
    rw [HK.out]
    go_wp2_with fail
    refine (searchA_any _ x.a q _ (HX.out.1.ext HE1.out) HRS.out.2 (by have := HRS.out.1; omega) HQ.out).mono ?_
    rintro e w2 ⟨rfl, he⟩
    have HE2 := Lib.hid (HE1.out.trans he)
    clear he
    go_wp2_with fail
    refine bodyPost_ret (results_tmp rfl _ _ _) rfl ?_
    exact ⟨by rw [HF.out]; rfl, HE2.out⟩
end Go.Proofs.Ytjampleddeidaaa
