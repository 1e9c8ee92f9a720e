/- Package state: Put. -/
import Derived.Test.YtiojfpdjnblkhaaQSma
namespace Go.Proofs.Ytiojfpdjnblkhaa
open Go.ChangeShapes Go.WideShapes Go.ChangeAt Go.RowKit Go.Shelf

set_option maxRecDepth 100000 in
set_option maxHeartbeats 4000000 in
theorem put1_any (p : Ac) (u v : Value) (x : Ac) (ux vx : Value) (gx : Nat) (w : World) (hux : ux.oneCell' = true) (hvx : vx.oneCell' = true) (hx : Ab w gx x ux vx) :
  Calls Try.prog 88 #[.agg (acc p u v), .pointer (some ⟨gx, 0, none⟩)] w fun e w' => e = .returned (.agg (acc x ux vx)) ∧ Ext w w' := by
 have HUX := Lib.hid hux
 have HVX := Lib.hid hvx
 obtain ⟨cs, hcs⟩ : ∃ cs, acc p u v = cs := ⟨_, rfl⟩
 rw [hcs]
 obtain ⟨w0, hw0⟩ : ∃ w0, ((w.alloc (.cells cs 37)).alloc (.cells az0 37)) = w0 := ⟨_, rfl⟩
 have HZ : Hid (Cs w0 (w.heap.size + 1) 37 az0 ∧ Ext w w0) := by
  rw [← hw0]
  exact Lib.hid ⟨Cs.new _ _ _ _ (by simp), ((Ext.refl w).alloc _).alloc _⟩
 have HX := Lib.hid (Ab.range (hx.ext HZ.out.2))
 unfold az0 at hw0
 have HW0 := Lib.hid hw0
 clear hux hvx hx hcs hw0
 go_enter Try.func88, Try.ntmps88
 go_upto_region 1 with fail
 rw [HW0.out]
 clear HW0
 go_wp2_with (first
  | ((with_reducible refine wpList_load_ac ?_ (.tmp 1) ?_ gx 0 x ux vx ?_ ?_ ?_); (exact rfl); (exact rfl); (exact rfl); (exact HX.out))
  | ((with_reducible refine wpList_store_ac ?_ ?_ (.tmp 3) (.tmp 4) ?_ (w.heap.size + 1) az0 x ux vx ?_ ?_ ?_ ?_ ?_ ?_ ?_); (exact rfl); (exact rfl); (exact rfl); (exact HUX.out); (exact HVX.out); (exact rfl); (exact rfl); (exact HZ.out.1); (exact rfl); intro w5 k5 g5; have K5 := Lib.hid k5; have HE5 := Lib.hid (HZ.out.2.grown g5 (by omega)); clear k5 g5))
 exact bodyPost_ret (results_ac Try.results88 _ _ (w.heap.size + 1) _ _ _ rfl K5.out) rfl ⟨rfl, HE5.out⟩

def putA (l : List Ac) (x : Ac) : List Ac × Int := if rightL l = false then ([], 160) else if x.rightB = false then ([], 161) else putS l x.addr x
set_option maxRecDepth 100000 in
theorem putP_any (sv : Value) (l : List Ac) (x : Ac) (ux vx : Value) (gx : Nat) (w : World) (hs : Acs w sv l) (hl : l.length ≤ 10000) (hsz : ∀ q ∈ l, q.code.length ≤ 1000000000 ∧ q.store.length ≤ 1000000000) (hok : x.ok) (hu : Bs w ux x.code) (hv : Pks w vx x.store)
  (hx : Ab w gx x ux vx) (hxz : x.code.length ≤ 1000000000 ∧ x.store.length ≤ 1000000000) :
  Calls Try.prog 78 #[.agg #[sv], .int .u64 (x.addr : Nat), .func (.func 88) #[] #[.pointer (some ⟨gx, 0, none⟩)]] w (RetS w (putS l x.addr x)) := by
 refine statePut_any sv l x.addr x _ _ w hs hok.1 hl hsz hok hxz (enters_of Try.func88 (by kernel_rfl) rfl) (fun W lo u v hE _ h2 _ => ?_)
 refine (put1_any _ u v x ux vx gx W (bs_one hu) (pks_one hv) (hx.ext hE)).mono ?_
 rintro e w' ⟨rfl, he⟩
 exact ⟨ux, vx, rfl, (hu.ext hE).ext he, (hv.ext hE).ext he, he.mono h2⟩
def PtI (w : World) (g3 g5 g6 : Nat) (sv : Value) (x : Ac) (ux vx : Value) (W : World) : Prop := Cs W g3 24 #[sv] ∧ Ab W g5 x ux vx ∧ Cs W g6 24 #[.slice none 0 0] ∧ Ext w W
theorem PtI.ext {w : World} {g3 g5 g6 : Nat} {sv : Value} {x : Ac} {ux vx : Value} {W W' : World} (h : PtI w g3 g5 g6 sv x ux vx W) (he : Ext W W') : PtI w g3 g5 g6 sv x ux vx W' := ⟨Cs.ext h.1 he, Cs.ext h.2.1 he, Cs.ext h.2.2.1 he, h.2.2.2.trans he⟩
set_option maxRecDepth 100000 in
set_option maxHeartbeats 4000000 in
theorem putAcc_any (sv : Value) (l : List Ac) (x : Ac) (ux vx : Value) (w : World) (hs : Acs w sv l) (hl : l.length ≤ 1000) (hsz : ∀ q ∈ l, q.code.length ≤ 1000000000 ∧ q.store.length ≤ 1000000000) (hok : x.ok) (hu : Bs w ux x.code) (hv : Pks w vx x.store) (hxz : x.code.length ≤ 1000000000 ∧ x.store.length ≤ 1000000000) :
  Calls Try.prog 41 #[.agg #[sv], .agg (acc x ux vx)] w (RetS w (putA l x)) := by
 have HDEF : Hid (putA l x = if rightL l = false then ([], 160) else if x.rightB = false then ([], 161) else putS l x.addr x) := Lib.hid rfl
 have HS := Lib.hid hs
 have HSZ := Lib.hid hsz
 have HX := Lib.hid (And.intro hok (And.intro hu (And.intro hv hxz)))
 obtain ⟨A0, c0, rfl, h1, h2⟩ := hs.len
 obtain ⟨w0, hw0⟩ : ∃ w0, (((w.alloc (.cells #[.slice A0 l.length c0] 24)).alloc (.cells (acc x ux vx) 37)).alloc (.cells #[.slice none 0 0] 24)) = w0 := ⟨_, rfl⟩
 have HJ0 : Hid (PtI w w.heap.size (w.heap.size + 1) (w.heap.size + 1 + 1) (.slice A0 l.length c0) x ux vx w0) := by
  rw [← hw0]
  exact Lib.hid ⟨Cs.alloc (Cs.alloc (Cs.new _ _ _ _ rfl) _) _, Cs.alloc (Cs.new _ _ _ _ (by simp)) _, Cs.new _ _ _ _ (by simp), (((Ext.refl w).alloc _).alloc _).alloc _⟩
 have q0 : w0.cell? ⟨w.heap.size, 0, none⟩ = some (.slice A0 l.length c0) := HJ0.out.1.cell 0 _ rfl
 have HW0 := Lib.hid hw0
 have HCE : Hid (chkE l = if rightL l then 0 else 160) := Lib.hid rfl
 clear hs hsz hw0 hok hu hv hxz
 go_enter Try.func41, Try.ntmps41
 go_upto_region 1 with fail
 rw [HW0.out]
 clear HW0
 go_wp2_with fail
 refine (stateCheck_any _ l _ (HS.out.ext HJ0.out.2.2.2) (by omega)).mono ?_
 rintro e w1 ⟨rfl, he⟩
 have HJ1 := Lib.hid (HJ0.out.ext he)
 have q1 : w1.cell? ⟨w.heap.size, 0, none⟩ = some (.slice A0 l.length c0) := HJ1.out.1.cell 0 _ rfl
 have r1 : w1.cell? ⟨w.heap.size + 1 + 1, 0, none⟩ = some (.slice none 0 0) := HJ1.out.2.2.1.cell 0 _ rfl
 have p1 : w1.frozen? ⟨w.heap.size + 1 + 1, 0, none⟩ = false := HJ1.out.2.2.1.frozen 0
 clear he HJ0 q0
 rw [HCE.out]
 cases hr : rightL l with
 | false =>
  rw [hr] at HDEF
  have HF := Lib.hid (show putA l x = ([], 160) by rw [HDEF.out]; rfl)
  clear hr HDEF
  go_wp2_with fail
  refine bodyPost_ret (results_st_err Try.results41 _ _ (w.heap.size + 1 + 1) (.slice none 0 0) rfl (by simpa using Cs.set HJ1.out.2.2.1 0 (.slice none 0 0))) rfl ?_
  exact ⟨_, by rw [HF.out]; rfl, by rw [HF.out]; exact RwA.nil _ _ _, HJ1.out.2.2.2.grown (grown_set _ _ _ _) (by omega)⟩
 | true =>
  rw [hr] at HDEF
  have HXR := Lib.hid (Ab.range HJ1.out.2.1)
  clear hr
  go_wp2_with ((with_reducible refine wpList_load_ac ?_ (.tmp 3) ?_ (w.heap.size + 1) 0 x ux vx ?_ ?_ ?_); (exact rfl); (exact rfl); (exact rfl); (exact HXR.out))
  refine (checkAccount_any x ux vx _ HX.out.1 (HX.out.2.1.ext HJ1.out.2.2.2) (HX.out.2.2.1.ext HJ1.out.2.2.2)).mono ?_
  rintro e w2 ⟨rfl, he⟩
  have HJ2 := Lib.hid (HJ1.out.ext he)
  have q2 : w2.cell? ⟨w.heap.size, 0, none⟩ = some (.slice A0 l.length c0) := HJ2.out.1.cell 0 _ rfl
  have r2 : w2.cell? ⟨w.heap.size + 1 + 1, 0, none⟩ = some (.slice none 0 0) := HJ2.out.2.2.1.cell 0 _ rfl
  have p2 : w2.frozen? ⟨w.heap.size + 1 + 1, 0, none⟩ = false := HJ2.out.2.2.1.frozen 0
  have a2 : w2.cell? ⟨w.heap.size + 1, 0, none⟩ = some (.int .u64 (x.addr : Nat)) := Ab.addr HJ2.out.2.1
  clear he HJ1 q1 r1 p1 HXR
  rw [show ckE x = (if x.rightB then 0 else 161) from rfl]
  cases hx : x.rightB with
  | false =>
   rw [hx] at HDEF
   have HF := Lib.hid (show putA l x = ([], 161) by rw [HDEF.out]; rfl)
   clear hx HDEF
   go_wp2_with fail
   refine bodyPost_ret (results_st_err Try.results41 _ _ (w.heap.size + 1 + 1) (.slice none 0 0) rfl (by simpa using Cs.set HJ2.out.2.2.1 0 (.slice none 0 0))) rfl ?_
   exact ⟨_, by rw [HF.out]; rfl, by rw [HF.out]; exact RwA.nil _ _ _, HJ2.out.2.2.2.grown (grown_set _ _ _ _) (by omega)⟩
  | true =>
   rw [hx] at HDEF
   have HF := Lib.hid (show putA l x = putS l x.addr x by rw [HDEF.out]; rfl)
   have HPT := Lib.hid (putP_any (.slice A0 l.length c0) l x ux vx (w.heap.size + 1) w2 (HS.out.ext HJ2.out.2.2.2) (by omega) HSZ.out HX.out.1 (HX.out.2.1.ext HJ2.out.2.2.2) (HX.out.2.2.1.ext HJ2.out.2.2.2) HJ2.out.2.1 HX.out.2.2.2)
   clear hx HDEF
   obtain ⟨r, hr⟩ : ∃ r, putS l x.addr x = r := ⟨_, rfl⟩
   rw [hr] at HPT HF
   clear hr
   go_wp2_with fail
   refine HPT.out.mono ?_
   rintro e w3 ⟨v', rfl, hr, he⟩
   have HJ3 := Lib.hid (HJ2.out.ext he)
   obtain ⟨A2, c2, rfl⟩ := hr.shape
   have HR2 := Lib.hid hr
   have r3 : w3.cell? ⟨w.heap.size + 1 + 1, 0, none⟩ = some (.slice none 0 0) := HJ3.out.2.2.1.cell 0 _ rfl
   have p3 : w3.frozen? ⟨w.heap.size + 1 + 1, 0, none⟩ = false := HJ3.out.2.2.1.frozen 0
   clear hr he HPT
   go_wp2_with fail
   refine bodyPost_ret (results_st_err Try.results41 _ _ (w.heap.size + 1 + 1) (.slice A2 r.1.length c2) rfl (by simpa using Cs.set HJ3.out.2.2.1 0 (.slice A2 r.1.length c2))) rfl ?_
   exact ⟨_, by rw [HF.out]; rfl, by rw [HF.out]; exact (HR2.out.keptS (grown_set _ _ _ _) HJ3.out.2.2.1).low HJ2.out.2.2.2.size, HJ3.out.2.2.2.grown (grown_set _ _ _ _) (by omega)⟩
end Go.Proofs.Ytiojfpdjnblkhaa
