/- Package access: Touch and Reach. Package access: Keep. -/
import Derived.Test.YtjampleddeidaaaQAcq
import Derived.Test.YtjampleddeidaaaQAcx
namespace Go.Proofs.Ytjampleddeidaaa
open Go.ChangeShapes Go.WideShapes Go.ChangeAt Go.RowKit Go.Shelf

def touchX (x : Ax) (q : Pe) : Ax × Bool × Int := chg x (ptB x.a q) (ptE x.a q) { x with a := ptL x.a q }
set_option maxRecDepth 100000 in
set_option maxHeartbeats 8000000 in
theorem touchX_any (va vs vp : Value) (x : Ax) (q : Pe) (w : World) (hx : AxR w va vs vp x) (hq : okA q) :
    Calls Try.prog 27 #[.agg #[va, vs, vp], .int .u64 (q.addr : Nat)] w fun e w' => ∃ v', e = .returned (.tuple #[v', .bool (touchX x q).2.1, .int .i64 (touchX x q).2.2]) ∧ RetX w.heap.size w' v' (touchX x q).1 ∧ Ext w w' := by
  have HX := Lib.hid hx
  have HQ := Lib.hid hq
  obtain ⟨A1, c1, rfl, _, _⟩ := hx.1.len
  obtain ⟨A2, c2, rfl, _, _⟩ := hx.2.1.len
  obtain ⟨A3, c3, rfl, _, _⟩ := hx.2.2.len
  obtain ⟨w0, hw0⟩ : ∃ w0, ((w.alloc (.cells #[.slice A1 x.a.length c1, .slice A2 x.s.length c2, .slice A3 x.p.length c3] 26)).alloc (.cells (#[.int .u64 (q.addr : Nat)]) 28)).alloc (.cells #[.slice none 0 0, .slice none 0 0, .slice none 0 0] 26) = w0 := ⟨_, rfl⟩
  have HC0 : Hid (Cs w0 w.heap.size 26 #[.slice A1 x.a.length c1, .slice A2 x.s.length c2, .slice A3 x.p.length c3]) := Lib.hid (by rw [← hw0]; exact Cs.alloc (Cs.alloc (Cs.new _ _ _ _ rfl) _) _)
  have HQ0 : Hid (Cs w0 (w.heap.size + 1) 28 (#[.int .u64 (q.addr : Nat)])) := Lib.hid (by rw [← hw0]; exact Cs.alloc (Cs.new _ _ _ _ (by simp)) _)
  have HR0 : Hid (Cs w0 (w.heap.size + 1 + 1) 26 #[.slice none 0 0, .slice none 0 0, .slice none 0 0]) := Lib.hid (by rw [← hw0]; exact Cs.new _ _ _ _ (by simp))
  have HE0 : Hid (Ext w w0) := Lib.hid (by rw [← hw0]; exact (((Ext.refl w).alloc _).alloc _).alloc _)
  have HZ0 : Hid (w0.heap.size = w.heap.size + 1 + 1 + 1) := Lib.hid (by rw [← hw0]; simp)
  have HW0 := Lib.hid hw0
  have HDF : Hid (touchX x q = chg x (ptB x.a q) (ptE x.a q) { x with a := ptL x.a q }) := Lib.hid rfl
  clear hx hw0 hq
  go_enter Try.func27, Try.ntmps27
  go_upto_region 1 with fail
  rw [HW0.out]
  clear HW0
  go_wp2_with ((with_reducible refine wpList_loadX ?_ (.tmp 2) ?_ w.heap.size (.slice A1 x.a.length c1) (.slice A2 x.s.length c2) (.slice A3 x.p.length c3) ?_ ?_ ?_); (exact rfl); (exact rfl); (exact rfl); (exact HC0.out))
  refine (changed_any _ _ _ x 53 _ (ptB x.a q) (ptE x.a q) { x with a := ptL x.a q } _ ⟨HX.out.1.ext HE0.out, HX.out.2.1.ext HE0.out, HX.out.2.2.ext HE0.out⟩ (enters_of Try.func53 (by kernel_rfl) rfl) ?_).mono ?_
  · intro hr W lo g a s p hW hlo hl ho
    refine (touch1_any lo g (w.heap.size + 1) a s p x q W ho hl ((fun h => h.1) (rightX_facts hr)) HQ.out (Cs.ext HQ0.out hW)).mono ?_
    rintro e w' ⟨rfl, v', h1, h2⟩
    exact ⟨rfl, _, _, _, h1, h2⟩
  rintro e w1 ⟨v1, rfl, ⟨a1, s1, p1, rfl, ho1, ho2, ho3⟩, he⟩
  rw [← HDF.out]
  rw [← HDF.out] at ho1 ho2 ho3
  have HE1 := Lib.hid (HE0.out.trans he)
  have HR1 := Lib.hid (Cs.ext HR0.out he)
  have O1 := Lib.hid (ho1.mono HE0.out.size)
  have O2 := Lib.hid (ho2.mono HE0.out.size)
  have O3 := Lib.hid (ho3.mono HE0.out.size)
  have Y1 := Lib.hid ho1.one
  have Y2 := Lib.hid ho2.one
  have Y3 := Lib.hid ho3.one
  clear he ho1 ho2 ho3 HC0 HQ0 HR0
  go_wp2_with ((with_reducible refine wpList_storeX ?_ ?_ (.tmp 4) (.tmp 10) ?_ (w.heap.size + 1 + 1) (.slice none 0 0) (.slice none 0 0) (.slice none 0 0) a1 s1 p1 ?_ ?_ Y1.out Y2.out Y3.out HR1.out ?_); (exact rfl); (exact rfl); (exact rfl); (exact rfl); (exact rfl); intro w3 k3 g3; have K3 := Lib.hid k3; have G3 := Lib.hid g3; clear k3 g3)
  refine bodyPost_ret (results_ax_err Try.results27 _ _ (w.heap.size + 1 + 1) _ _ _ rfl K3.out) rfl ?_
  exact ⟨_, rfl, ⟨_, _, _, rfl, O1.out.keptT G3.out HR1.out (by decide), O2.out.keptT G3.out HR1.out (by decide), O3.out.keptT G3.out HR1.out (by decide)⟩, HE1.out.grown G3.out (by omega)⟩
def reachX (x : Ax) (q : Pe) : Ax × Bool × Int := chg x (ptB x.s q) (ptE x.s q) { x with s := ptL x.s q }
set_option maxRecDepth 100000 in
set_option maxHeartbeats 8000000 in
theorem reachX_any (va vs vp : Value) (x : Ax) (q : Pe) (w : World) (hx : AxR w va vs vp x) (hq : okS q) :
    Calls Try.prog 47 #[.agg #[va, vs, vp], .agg (cS q)] w fun e w' => ∃ v', e = .returned (.tuple #[v', .bool (reachX x q).2.1, .int .i64 (reachX x q).2.2]) ∧ RetX w.heap.size w' v' (reachX x q).1 ∧ Ext w w' := by
  have HX := Lib.hid hx
  have HQ := Lib.hid hq
  obtain ⟨A1, c1, rfl, _, _⟩ := hx.1.len
  obtain ⟨A2, c2, rfl, _, _⟩ := hx.2.1.len
  obtain ⟨A3, c3, rfl, _, _⟩ := hx.2.2.len
  obtain ⟨w0, hw0⟩ : ∃ w0, ((w.alloc (.cells #[.slice A1 x.a.length c1, .slice A2 x.s.length c2, .slice A3 x.p.length c3] 26)).alloc (.cells (cS q) 32)).alloc (.cells #[.slice none 0 0, .slice none 0 0, .slice none 0 0] 26) = w0 := ⟨_, rfl⟩
  have HC0 : Hid (Cs w0 w.heap.size 26 #[.slice A1 x.a.length c1, .slice A2 x.s.length c2, .slice A3 x.p.length c3]) := Lib.hid (by rw [← hw0]; exact Cs.alloc (Cs.alloc (Cs.new _ _ _ _ rfl) _) _)
  have HQ0 : Hid (Cs w0 (w.heap.size + 1) 32 (cS q)) := Lib.hid (by rw [← hw0]; exact Cs.alloc (Cs.new _ _ _ _ (by simp)) _)
  have HR0 : Hid (Cs w0 (w.heap.size + 1 + 1) 26 #[.slice none 0 0, .slice none 0 0, .slice none 0 0]) := Lib.hid (by rw [← hw0]; exact Cs.new _ _ _ _ (by simp))
  have HE0 : Hid (Ext w w0) := Lib.hid (by rw [← hw0]; exact (((Ext.refl w).alloc _).alloc _).alloc _)
  have HZ0 : Hid (w0.heap.size = w.heap.size + 1 + 1 + 1) := Lib.hid (by rw [← hw0]; simp)
  have HW0 := Lib.hid hw0
  have HDF : Hid (reachX x q = chg x (ptB x.s q) (ptE x.s q) { x with s := ptL x.s q }) := Lib.hid rfl
  clear hx hw0 hq
  go_enter Try.func47, Try.ntmps47
  go_upto_region 1 with fail
  rw [HW0.out]
  clear HW0
  go_wp2_with ((with_reducible refine wpList_loadX ?_ (.tmp 2) ?_ w.heap.size (.slice A1 x.a.length c1) (.slice A2 x.s.length c2) (.slice A3 x.p.length c3) ?_ ?_ ?_); (exact rfl); (exact rfl); (exact rfl); (exact HC0.out))
  refine (changed_any _ _ _ x 62 _ (ptB x.s q) (ptE x.s q) { x with s := ptL x.s q } _ ⟨HX.out.1.ext HE0.out, HX.out.2.1.ext HE0.out, HX.out.2.2.ext HE0.out⟩ (enters_of Try.func62 (by kernel_rfl) rfl) ?_).mono ?_
  · intro hr W lo g a s p hW hlo hl ho
    refine (reach1_any lo g (w.heap.size + 1) a s p x q W ho hl ((fun h => h.2.1) (rightX_facts hr)) HQ.out (Cs.ext HQ0.out hW)).mono ?_
    rintro e w' ⟨rfl, v', h1, h2⟩
    exact ⟨rfl, _, _, _, h1, h2⟩
  rintro e w1 ⟨v1, rfl, ⟨a1, s1, p1, rfl, ho1, ho2, ho3⟩, he⟩
  rw [← HDF.out]
  rw [← HDF.out] at ho1 ho2 ho3
  have HE1 := Lib.hid (HE0.out.trans he)
  have HR1 := Lib.hid (Cs.ext HR0.out he)
  have O1 := Lib.hid (ho1.mono HE0.out.size)
  have O2 := Lib.hid (ho2.mono HE0.out.size)
  have O3 := Lib.hid (ho3.mono HE0.out.size)
  have Y1 := Lib.hid ho1.one
  have Y2 := Lib.hid ho2.one
  have Y3 := Lib.hid ho3.one
  clear he ho1 ho2 ho3 HC0 HQ0 HR0
  go_wp2_with ((with_reducible refine wpList_storeX ?_ ?_ (.tmp 4) (.tmp 10) ?_ (w.heap.size + 1 + 1) (.slice none 0 0) (.slice none 0 0) (.slice none 0 0) a1 s1 p1 ?_ ?_ Y1.out Y2.out Y3.out HR1.out ?_); (exact rfl); (exact rfl); (exact rfl); (exact rfl); (exact rfl); intro w3 k3 g3; have K3 := Lib.hid k3; have G3 := Lib.hid g3; clear k3 g3)
  refine bodyPost_ret (results_ax_err Try.results47 _ _ (w.heap.size + 1 + 1) _ _ _ rfl K3.out) rfl ?_
  exact ⟨_, rfl, ⟨_, _, _, rfl, O1.out.keptT G3.out HR1.out (by decide), O2.out.keptT G3.out HR1.out (by decide), O3.out.keptT G3.out HR1.out (by decide)⟩, HE1.out.grown G3.out (by omega)⟩
end Go.Proofs.Ytjampleddeidaaa
namespace Go.Proofs.Ytjampleddeidaaa
open Go.ChangeShapes Go.WideShapes Go.ChangeAt Go.RowKit Go.Shelf

set_option maxRecDepth 100000 in
theorem results_ax2 {fn : Func} {p q : Tmp} (h : fn.results = #[.cell p 26, .tmp q]) (tmps : Array Value) (w : World) (g : Nat) (u v z : Value) (hp : tmps.getD p undef = .pointer (some ⟨g, 0, none⟩)) (hg : Cs w g 26 #[u, v, z]) : (results fn tmps).run Try.prog w = .ok (.tuple #[.agg #[u, v, z], tmps.getD q undef]) w := by
  have hp' : tmps[p]?.getD undef = .pointer (some ⟨g, 0, none⟩) := by simpa using hp
  simp [results, h, hp', asAddr, run_loadVar_row w g 26 26 #[u, v, z] (0, 0) _ hg Try.underlying26 rfl axinfo]
def keepX (x : Ax) (q : Pe) (n : Nat) : Ax × Bool × Int := chg x (kpB x.p q n) (kpE x.p q n) { x with p := kpL x.p q n }
set_option maxRecDepth 100000 in
set_option maxHeartbeats 8000000 in
theorem keepX_any (va vs vp : Value) (x : Ax) (q : Pe) (n : Nat) (w : World) (hx : AxR w va vs vp x) (hq : okS q) (hn : n < M256) :
    Calls Try.prog 48 #[.agg #[va, vs, vp], .agg (cS q), wv n] w fun e w' => ∃ v', e = .returned (.tuple #[v', .int .i64 (keepX x q n).2.2]) ∧ RetX w.heap.size w' v' (keepX x q n).1 ∧ Ext w w' := by
  have HX := Lib.hid hx
  have HQ := Lib.hid hq
  have HN := Lib.hid hn
  obtain ⟨A1, c1, rfl, _, _⟩ := hx.1.len
  obtain ⟨A2, c2, rfl, _, _⟩ := hx.2.1.len
  obtain ⟨A3, c3, rfl, _, _⟩ := hx.2.2.len
  obtain ⟨w0, hw0⟩ : ∃ w0, (((w.alloc (.cells #[.slice A1 x.a.length c1, .slice A2 x.s.length c2, .slice A3 x.p.length c3] 26)).alloc (.cells (cS q) 32)).alloc (.cells (wc n) 30)).alloc (.cells #[.slice none 0 0, .slice none 0 0, .slice none 0 0] 26) = w0 := ⟨_, rfl⟩
  have HC0 : Hid (Cs w0 w.heap.size 26 #[.slice A1 x.a.length c1, .slice A2 x.s.length c2, .slice A3 x.p.length c3]) := Lib.hid (by rw [← hw0]; exact Cs.alloc (Cs.alloc (Cs.alloc (Cs.new _ _ _ _ rfl) _) _) _)
  have HQ0 : Hid (Cs w0 (w.heap.size + 1) 32 (cS q)) := Lib.hid (by rw [← hw0]; exact Cs.alloc (Cs.alloc (Cs.new _ _ _ _ (by simp)) _) _)
  have HV0 : Hid (Cs w0 (w.heap.size + 1 + 1) 30 (wc n)) := Lib.hid (by rw [← hw0]; exact Cs.alloc (Cs.new _ _ _ _ (by simp)) _)
  have HR0 : Hid (Cs w0 (w.heap.size + 1 + 1 + 1) 26 #[.slice none 0 0, .slice none 0 0, .slice none 0 0]) := Lib.hid (by rw [← hw0]; exact Cs.new _ _ _ _ (by simp))
  have HE0 : Hid (Ext w w0) := Lib.hid (by rw [← hw0]; exact ((((Ext.refl w).alloc _).alloc _).alloc _).alloc _)
  obtain ⟨qc, hqc⟩ : ∃ qc, cS q = qc := ⟨_, rfl⟩
  have HQC := Lib.hid hqc
  rw [show wv n = .agg (wc n) from rfl]
  obtain ⟨vc, hvc⟩ : ∃ vc, wc n = vc := ⟨_, rfl⟩
  rw [hqc, hvc] at hw0 ⊢
  clear hqc hvc
  have HW0 := Lib.hid hw0
  have HDF : Hid (keepX x q n = chg x (kpB x.p q n) (kpE x.p q n) { x with p := kpL x.p q n }) := Lib.hid rfl
  clear hx hw0 hq hn
  go_enter Try.func48, Try.ntmps48
  go_upto_region 1 with fail
  rw [HW0.out]
  clear HW0
  go_wp2_with ((with_reducible refine wpList_loadX ?_ (.tmp 3) ?_ w.heap.size (.slice A1 x.a.length c1) (.slice A2 x.s.length c2) (.slice A3 x.p.length c3) ?_ ?_ ?_); (exact rfl); (exact rfl); (exact rfl); (exact HC0.out))
  refine (changed_any _ _ _ x 64 _ (kpB x.p q n) (kpE x.p q n) { x with p := kpL x.p q n } _ ⟨HX.out.1.ext HE0.out, HX.out.2.1.ext HE0.out, HX.out.2.2.ext HE0.out⟩ (enters_of Try.func64 (by kernel_rfl) rfl) ?_).mono ?_
  · intro hr W lo g a s p hW hlo hl ho
    refine (keep1_any lo g (w.heap.size + 1) (w.heap.size + 1 + 1) a s p x q n W ho hl (rightX_facts hr).2.2.1 HQ.out HN.out (Cs.ext HQ0.out hW) (Cs.ext HV0.out hW)).mono ?_
    rintro e w' ⟨rfl, v', h1, h2⟩
    exact ⟨rfl, _, _, _, h1, h2⟩
  rintro e w1 ⟨v1, rfl, ⟨a1, s1, p1, rfl, ho1, ho2, ho3⟩, he⟩
  rw [← HDF.out]
  rw [← HDF.out] at ho1 ho2 ho3
  have HE1 := Lib.hid (HE0.out.trans he)
  have HR1 := Lib.hid (Cs.ext HR0.out he)
  have O1 := Lib.hid (ho1.mono HE0.out.size)
  have O2 := Lib.hid (ho2.mono HE0.out.size)
  have O3 := Lib.hid (ho3.mono HE0.out.size)
  have Y1 := Lib.hid ho1.one
  have Y2 := Lib.hid ho2.one
  have Y3 := Lib.hid ho3.one
  clear he ho1 ho2 ho3 HC0 HQ0 HV0 HR0
  go_wp2_with (first
    | ((with_reducible refine wpList_storeX ?_ ?_ (.tmp 8) (.tmp 15) ?_ w1.heap.size (.slice none 0 0) (.slice none 0 0) (.slice none 0 0) a1 s1 p1 ?_ ?_ Y1.out Y2.out Y3.out (Cs.new _ _ _ _ rfl) ?_); (exact rfl); (exact rfl); (exact rfl); (exact rfl); (exact rfl); intro w2 k2 g2; have K2 := Lib.hid k2; have HX2 := Lib.hid (((Ext.refl w1).alloc _).grown g2 (Nat.le_refl _)); have HR2 := Lib.hid (Cs.ext HR1.out HX2.out); clear k2 g2)
    | ((with_reducible refine wpList_loadX ?_ (.tmp 8) ?_ w1.heap.size a1 s1 p1 ?_ K2.out ?_); (exact rfl); (exact rfl); (exact rfl))
    | ((with_reducible refine wpList_storeX ?_ ?_ (.tmp 6) (.tmp 18) ?_ (w.heap.size + 1 + 1 + 1) (.slice none 0 0) (.slice none 0 0) (.slice none 0 0) a1 s1 p1 ?_ ?_ Y1.out Y2.out Y3.out HR2.out ?_); (exact rfl); (exact rfl); (exact rfl); (exact rfl); (exact rfl); intro w3 k3 g3; have K3 := Lib.hid k3; have G3 := Lib.hid g3; clear k3 g3))
  refine bodyPost_ret (results_ax2 Try.results48 _ _ (w.heap.size + 1 + 1 + 1) _ _ _ rfl K3.out) rfl ?_
  exact ⟨_, rfl, ⟨_, _, _, rfl, (O1.out.ext HX2.out).keptT G3.out HR2.out (by decide), (O2.out.ext HX2.out).keptT G3.out HR2.out (by decide), (O3.out.ext HX2.out).keptT G3.out HR2.out (by decide)⟩, (HE1.out.trans HX2.out).grown G3.out (by omega)⟩
end Go.Proofs.Ytjampleddeidaaa
