/- Package access: Warm and Load. -/
import Derived.Test.YtjampleddeidaaaAcq
import Derived.Test.YtjampleddeidaaaAch
namespace Go.Proofs.Ytjampleddeidaaa
open Go.ChangeShapes Go.WideShapes Go.ChangeAt Go.RowKit Go.Shelf

def warmX (x : Ax) (q : Pe) : Bool := rightX x && hasX x.a q.cod
/-- What lies there while Load asks. -/
def LdJ (w : World) (g1 g3 g4 : Nat) (cs : Array Value) (q : Pe) (W : World) : Prop := Cs W g1 26 cs ∧ BS W g3 q ∧ Cs W g4 30 (wc 0) ∧ Ext w W
set_option maxRecDepth 100000 in
theorem LdJ.ext {w : World} {g1 g3 g4 : Nat} {cs : Array Value} {q : Pe} {W W' : World} (h : LdJ w g1 g3 g4 cs q W) (he : Ext W W') : LdJ w g1 g3 g4 cs q W' := ⟨Cs.ext h.1 he, h.2.1.ext he, Cs.ext h.2.2.1 he, h.2.2.2.trans he⟩
def loadX (x : Ax) (q : Pe) : Nat := if rightX x && hasX x.p q.cod then (x.p.getD (posX x.p q.cod) pz0).val else 0
set_option maxRecDepth 100000 in
set_option maxHeartbeats 8000000 in
theorem warmX_any (va vs vp : Value) (x : Ax) (q : Pe) (w : World) (hx : AxR w va vs vp x) (hq : okA q) :
    Calls Try.prog 16 #[.agg #[va, vs, vp], .int .u64 (q.addr : Nat)] w fun e w' => e = .returned (.bool (warmX x q)) ∧ Ext w w' := by
  have HX := Lib.hid hx
  have HQ := Lib.hid hq
  obtain ⟨A1, c1, rfl, _, _⟩ := hx.1.len
  obtain ⟨A2, c2, rfl, _, _⟩ := hx.2.1.len
  obtain ⟨A3, c3, rfl, hc3, hm3⟩ := hx.2.2.len
  unfold maxLen at hm3
  obtain ⟨w0, hw0⟩ : ∃ w0, w.alloc (.cells #[.slice A1 x.a.length c1, .slice A2 x.s.length c2, .slice A3 x.p.length c3] 26) = w0 := ⟨_, rfl⟩
  have HC0 : Hid (Cs w0 w.heap.size 26 #[.slice A1 x.a.length c1, .slice A2 x.s.length c2, .slice A3 x.p.length c3]) := Lib.hid (by rw [← hw0]; exact Cs.new _ _ _ _ rfl)
  have HE0 : Hid (Ext w w0) := Lib.hid (by rw [← hw0]; exact (Ext.refl w).alloc _)
  have HW0 := Lib.hid hw0
  have HDF : Hid (warmX x q = (rightX x && hasX x.a q.cod)) := Lib.hid rfl
  clear hx hw0 hq hc3 hm3
  go_enter Try.func16, Try.ntmps16
  go_upto_region 1 with fail
  rw [HW0.out]
  clear HW0
  go_wp2_with ((with_reducible refine wpList_loadX ?_ (.tmp 2) ?_ w.heap.size (.slice A1 x.a.length c1) (.slice A2 x.s.length c2) (.slice A3 x.p.length c3) ?_ ?_ ?_); (exact rfl); (exact rfl); (exact rfl); (exact HC0.out))
  refine (checkX_any _ _ _ x _ ⟨HX.out.1.ext HE0.out, HX.out.2.1.ext HE0.out, HX.out.2.2.ext HE0.out⟩).mono ?_
  rintro e w1 ⟨rfl, he⟩
  have HE1 := Lib.hid (HE0.out.trans he)
  have HC1 := Lib.hid (Cs.ext HC0.out he)
  clear he HC0 HE0
  cases hr : rightX x with
  | false =>
    have HK : Hid (chkX x = 190) := Lib.hid (by unfold chkX; rw [hr]; rfl)
    have HF := Lib.hid (show warmX x q = false by rw [HDF.out, hr, Bool.false_and])
    clear hr
    rw [HK.out]
    go_wp2_with fail
    refine bodyPost_ret (results_tmp rfl _ _ _) rfl ?_
    exact ⟨by rw [HF.out]; rfl, HE1.out⟩
  | true =>
    have HK : Hid (chkX x = 0) := Lib.hid (by unfold chkX; rw [hr]; rfl)
    have HF := Lib.hid (show warmX x q = hasX x.a q.cod by rw [HDF.out, hr, Bool.true_and])
    have HRS := Lib.hid (rs_iff.1 (rightX_facts hr).1)
    have q1 := HC1.out.cell 0 _ rfl
    clear hr
    rw [HK.out]
    go_wp2_with fail
    refine (searchA_any _ x.a q _ (HX.out.1.ext HE1.out) HRS.out.2 (by have := HRS.out.1; omega) HQ.out).mono ?_
    rintro e w2 ⟨rfl, he⟩
    have HE2 := Lib.hid (HE1.out.trans he)
    clear he
    go_wp2_with fail
    refine bodyPost_ret (results_tmp rfl _ _ _) rfl ?_
    exact ⟨by rw [HF.out]; rfl, HE2.out⟩
set_option maxRecDepth 100000 in
set_option maxHeartbeats 8000000 in
theorem loadX_any (va vs vp : Value) (x : Ax) (q : Pe) (w : World) (hx : AxR w va vs vp x) (hq : okS q) :
    Calls Try.prog 15 #[.agg #[va, vs, vp], .agg (cS q)] w fun e w' => e = .returned (wv (loadX x q)) ∧ Ext w w' := by
  have HX := Lib.hid hx
  have HQ := Lib.hid hq
  obtain ⟨A1, c1, rfl, _, _⟩ := hx.1.len
  obtain ⟨A2, c2, rfl, _, _⟩ := hx.2.1.len
  obtain ⟨A3, c3, rfl, hc3, hm3⟩ := hx.2.2.len
  unfold maxLen at hm3
  obtain ⟨w0, hw0⟩ : ∃ w0, ((w.alloc (.cells #[.slice A1 x.a.length c1, .slice A2 x.s.length c2, .slice A3 x.p.length c3] 26)).alloc (.cells (cS q) 32)).alloc (.cells #[.int .u64 0, .int .u64 0, .int .u64 0, .int .u64 0] 30) = w0 := ⟨_, rfl⟩
  have HC0 : Hid (Cs w0 w.heap.size 26 #[.slice A1 x.a.length c1, .slice A2 x.s.length c2, .slice A3 x.p.length c3]) := Lib.hid (by rw [← hw0]; exact Cs.alloc (Cs.alloc (Cs.new _ _ _ _ rfl) _) _)
  have HQ0 : Hid (Cs w0 (w.heap.size + 1) 32 (cS q)) := Lib.hid (by rw [← hw0]; exact Cs.alloc (Cs.new _ _ _ _ (by simp)) _)
  have HR0 : Hid (Cs w0 (w.heap.size + 1 + 1) 30 (wc 0)) := Lib.hid (by rw [← hw0]; exact Cs.new _ _ _ _ (by simp))
  have HE0 : Hid (Ext w w0) := Lib.hid (by rw [← hw0]; exact (((Ext.refl w).alloc _).alloc _).alloc _)
  have HW0 := Lib.hid hw0
  have HDF : Hid (loadX x q = if rightX x && hasX x.p q.cod then (x.p.getD (posX x.p q.cod) pz0).val else 0) := Lib.hid rfl
  clear hx hw0 hq
  go_enter Try.func15, Try.ntmps15
  go_upto_region 1 with fail
  rw [HW0.out]
  clear HW0
  go_wp2_with ((with_reducible refine wpList_loadX ?_ (.tmp 2) ?_ w.heap.size (.slice A1 x.a.length c1) (.slice A2 x.s.length c2) (.slice A3 x.p.length c3) ?_ ?_ ?_); (exact rfl); (exact rfl); (exact rfl); (exact HC0.out))
  refine (checkX_any _ _ _ x _ ⟨HX.out.1.ext HE0.out, HX.out.2.1.ext HE0.out, HX.out.2.2.ext HE0.out⟩).mono ?_
  rintro e w1 ⟨rfl, he⟩
  have HE1 := Lib.hid (HE0.out.trans he)
  have HC1 := Lib.hid (Cs.ext HC0.out he)
  have HQ1 := Lib.hid (Cs.rg (Cs.ext HQ0.out he))
  have HQB : Hid (BS w1 (w.heap.size + 1) q) := Lib.hid (Cs.ext HQ0.out he)
  have HR1 := Lib.hid (Cs.ext HR0.out he)
  clear he HC0 HE0 HQ0 HR0
  cases hr : rightX x with
  | false =>
    have HK : Hid (chkX x = 190) := Lib.hid (by unfold chkX; rw [hr]; rfl)
    have HF := Lib.hid (show loadX x q = 0 by rw [HDF.out, hr, Bool.false_and, if_neg Bool.false_ne_true])
    clear hr
    rw [HK.out]
    go_wp2_with ((with_reducible refine wpList_store_word ?_ ?_ 30 (.tmp 4) (.tmp 10) ?_ winfo (w.heap.size + 1 + 1) (wc 0) 0 ?_ ?_ ?_ ?_ ?_); (exact rfl); (exact rfl); (exact rfl); (exact rfl); (exact rfl); (exact HR1.out); (exact rfl); intro w2 k2 g2; have K2 := Lib.hid k2; have G2 := Lib.hid g2; clear k2 g2)
    refine bodyPost_ret (results_word Try.results15 _ _ (w.heap.size + 1 + 1) 0 rfl K2.out Try.underlying30 winfo) rfl ?_
    exact ⟨by rw [HF.out], HE1.out.grown G2.out (by omega)⟩
  | true =>
    have HK : Hid (chkX x = 0) := Lib.hid (by unfold chkX; rw [hr]; rfl)
    have HDF := Lib.hid (show loadX x q = if hasX x.p q.cod then (x.p.getD (posX x.p q.cod) pz0).val else 0 by rw [HDF.out, hr, Bool.true_and])
    have HRS := Lib.hid (rs_iff.1 (rightX_facts hr).2.2.1)
    have q1 := HC1.out.cell 2 _ rfl
    clear hr
    rw [HK.out]
    obtain ⟨pn, hpn⟩ : ∃ n, posX x.p q.cod = n := ⟨_, rfl⟩
    obtain ⟨hb, hhb⟩ : ∃ b, hasX x.p q.cod = b := ⟨_, rfl⟩
    have HPN := Lib.hid hpn
    have HHB := Lib.hid hhb
    have HSE := Lib.hid (fun W (h : Ext w W) => show Calls Try.prog 38 #[.slice A3 x.p.length c3, .agg (cP ⟨q.addr, q.key, 0⟩), .func (.func 33) #[] #[]] W (fun e w' => e = .returned (.tuple #[.int .i64 (pn : Nat), .bool hb]) ∧ Ext W w') from hpn ▸ hhb ▸ searchP_any _ x.p ⟨q.addr, q.key, 0⟩ W (HX.out.2.2.ext h) HRS.out.2 (by have := HRS.out.1; omega) ⟨HQ.out.1, HQ.out.2.1, show (0 : Nat) < M256 by decide⟩)
    obtain ⟨g4, hg4⟩ : ∃ g, w.heap.size + 1 + 1 = g := ⟨_, rfl⟩
    have HG4 : Hid (w.heap.size ≤ g4) := Lib.hid (by omega)
    obtain ⟨g3, hg3⟩ : ∃ g, w.heap.size + 1 = g := ⟨_, rfl⟩
    obtain ⟨g1, hg1⟩ : ∃ g, w.heap.size = g := ⟨_, rfl⟩
    have HJ : Hid (LdJ w g1 g3 g4 #[.slice A1 x.a.length c1, .slice A2 x.s.length c2, .slice A3 x.p.length c3] q w1) := Lib.hid (by rw [← hg1, ← hg3, ← hg4]; exact ⟨HC1.out, HQB.out, HR1.out, HE1.out⟩)
    rw [hg4, hg3, hg1]
    clear hpn hhb hg4 hg3 hg1 q1 HC1 HQ1 HQB HR1 HE1
    go_upto_region 3 with fail
    refine wp_named fun a0 ha0 => ?_
    obtain ⟨fr, hfr⟩ : ∃ fr : (Nat → Value) → Act, ∀ V, fr V = (((((((((((a0.put (some 12) (V 0)).put (some 13) (V 1)).put (some 14) (V 2)).put (some 15) (V 3)).put (some 16) (V 4)).put (some 17) (V 5)).put (some 11) (V 6)).put (some 18) (V 7)).put (some 19) (V 8)).put (some 5) (V 9)).put (some 6) (V 10)) := ⟨fun V => (((((((((((a0.put (some 12) (V 0)).put (some 13) (V 1)).put (some 14) (V 2)).put (some 15) (V 3)).put (some 16) (V 4)).put (some 17) (V 5)).put (some 11) (V 6)).put (some 18) (V 7)).put (some 19) (V 8)).put (some 5) (V 9)).put (some 6) (V 10)), fun _ => rfl⟩
    rw [ha0] at hfr
    simp only [Act.put, List.setIfInBounds_toArray, List.set_cons_zero, List.set_cons_succ] at hfr
    have HFR := Lib.hid hfr
    clear hfr
    refine wp_region_inv (by kernel_rfl) (by kernel_rfl) (fun L A W => ∃ V : Nat → Value, A = fr V ∧ Vals (fun j => ([some (.pointer (some ⟨g1, 2, none⟩)), some (.slice A3 x.p.length c3), some (.agg (cS q)), some (wv 0), some (.agg (cP ⟨q.addr, q.key, 0⟩)), some (.tuple #[.int .i64 (pn : Nat), .bool hb]), some (.tuple #[.int .i64 (pn : Nat), .bool hb]), some (.int .i64 (pn : Nat)), some (.bool hb), some (.int .i64 (pn : Nat)), some (.bool hb)] : List (Option Value)).getD j none) L V ∧ (LdJ w g1 g3 g4 #[.slice A1 x.a.length c1, .slice A2 x.s.length c2, .slice A3 x.p.length c3] q W)) ?_ ⟨?_, ?_, ?_, ?_, ?_, ?_, ?_, ?_, ?_, ?_, ?_, trivial⟩ ?_
    · refine ⟨fun j => a0.tmps.getD (([12, 13, 14, 15, 16, 17, 11, 18, 19, 5, 6] : List Nat).getD j 0) undef, ?_, Vals.no _ _ _ (far_none _ _ rfl), HJ.out.ext (Ext.refl _).drew⟩
      rw [HFR.out, ha0]
      rfl
    all_goals clear ha0
    · rintro L A W K hL hC hW ⟨V, rfl, HV, s0⟩ hK
      have H := Lib.hid (show ∀ W', Ext W W' → K (fr (upd V 0 (.pointer (some ⟨g1, 2, none⟩)))) W' from fun W' he => hK _ _ ⟨upd V 0 (.pointer (some ⟨g1, 2, none⟩)), rfl, HV.up 0 _ (fun x hx => Option.some.inj hx), LdJ.ext s0 he⟩)
      clear hK hC hW hL HV s0
      rw [HFR.out]
      go_wp2_with fail
      show K _ _
      have := H.out _ (Ext.refl _)
      rw [HFR.out] at this
      exact this
    · rintro L A W K hL hC hW ⟨V, rfl, HV, s0⟩ hK
      have e0 : V 0 = .pointer (some ⟨g1, 2, none⟩) := HV 0 _ rfl (hW 0 rfl)
      have hB := s0
      have H := Lib.hid (show ∀ W', Ext W W' → K (fr (upd V 1 (.slice A3 x.p.length c3))) W' from fun W' he => hK _ _ ⟨upd V 1 (.slice A3 x.p.length c3), rfl, HV.up 1 _ (fun x hx => Option.some.inj hx), LdJ.ext s0 he⟩)
      have HU := Lib.hid (show (upd V 1 (.slice A3 x.p.length c3)) 0 = .pointer (some ⟨g1, 2, none⟩) from e0)
      clear hK hC hW hL HV s0
      rw [HFR.out]
      rw [e0]
      clear e0
      have qq := hB.1.cell 2 _ rfl
      clear hB
      go_wp2_with fail
      show K _ _
      have := H.out _ (Ext.refl _)
      rw [HFR.out] at this
      obtain u0 := HU.out
      rw [u0] at this
      exact this
    · rintro L A W K hL hC hW ⟨V, rfl, HV, s0⟩ hK
      have hB := s0
      have H := Lib.hid (show ∀ W', Ext W W' → K (fr (upd V 2 (.agg (cS q)))) W' from fun W' he => hK _ _ ⟨upd V 2 (.agg (cS q)), rfl, HV.up 2 _ (fun x hx => Option.some.inj hx), LdJ.ext s0 he⟩)
      clear hK hC hW hL HV s0
      rw [HFR.out]
      have HWD := Lib.hid (Cs.rg hB.2.1)
      clear hB
      refine wpList_loadS rfl (.tmp 3) rfl g3 0 q rfl HWD.out ?_
      show K _ _
      have := H.out _ (Ext.refl _)
      rw [HFR.out] at this
      exact this
    · rintro L A W K hL hC hW ⟨V, rfl, HV, s0⟩ hK
      have H := Lib.hid (show ∀ W', Ext W W' → K (fr (upd V 3 (wv 0))) W' from fun W' he => hK _ _ ⟨upd V 3 (wv 0), rfl, HV.up 3 _ (fun x hx => Option.some.inj hx), LdJ.ext s0 he⟩)
      clear hK hC hW hL HV s0
      rw [HFR.out]
      go_wp2_with fail
      show K _ _
      have := H.out _ (Ext.refl _)
      rw [HFR.out] at this
      exact this
    · rintro L A W K hL hC hW ⟨V, rfl, HV, s0⟩ hK
      have e2 : V 2 = .agg (cS q) := HV 2 _ rfl (hW 2 rfl)
      have e3 : V 3 = wv 0 := HV 3 _ rfl (hW 3 rfl)
      have hB := s0
      have H := Lib.hid (show ∀ W', Ext W W' → K (fr (upd V 4 (.agg (cP ⟨q.addr, q.key, 0⟩)))) W' from fun W' he => hK _ _ ⟨upd V 4 (.agg (cP ⟨q.addr, q.key, 0⟩)), rfl, HV.up 4 _ (fun x hx => Option.some.inj hx), LdJ.ext s0 he⟩)
      have HU := Lib.hid (show (upd V 4 (.agg (cP ⟨q.addr, q.key, 0⟩))) 2 = .agg (cS q) ∧ (upd V 4 (.agg (cP ⟨q.addr, q.key, 0⟩))) 3 = wv 0 from ⟨e2, e3⟩)
      clear hK hC hW hL HV s0
      rw [HFR.out]
      rw [e2, e3]
      clear e2 e3
      clear hB
      go_wp2_with fail
      refine (holding_any q 0 _ HQ.out (by decide)).mono ?_
      rintro e wx ⟨rfl, he⟩
      have := H.out _ he
      clear H
      go_wp2_with fail
      show K _ _
      rw [HFR.out] at this
      obtain ⟨u2, u3⟩ := HU.out
      rw [u2, u3] at this
      exact this
    · rintro L A W K hL hC hW ⟨V, rfl, HV, s0⟩ hK
      have e1 : V 1 = .slice A3 x.p.length c3 := HV 1 _ rfl (hW 1 rfl)
      have e4 : V 4 = .agg (cP ⟨q.addr, q.key, 0⟩) := HV 4 _ rfl (hW 4 rfl)
      have hB := s0
      have H := Lib.hid (show ∀ W', Ext W W' → K (fr (upd V 5 (.tuple #[.int .i64 (pn : Nat), .bool hb]))) W' from fun W' he => hK _ _ ⟨upd V 5 (.tuple #[.int .i64 (pn : Nat), .bool hb]), rfl, HV.up 5 _ (fun x hx => Option.some.inj hx), LdJ.ext s0 he⟩)
      have HU := Lib.hid (show (upd V 5 (.tuple #[.int .i64 (pn : Nat), .bool hb])) 1 = .slice A3 x.p.length c3 ∧ (upd V 5 (.tuple #[.int .i64 (pn : Nat), .bool hb])) 4 = .agg (cP ⟨q.addr, q.key, 0⟩) from ⟨e1, e4⟩)
      clear hK hC hW hL HV s0
      rw [HFR.out]
      rw [e1, e4]
      clear e1 e4
      have HBE := Lib.hid hB.2.2.2
      clear hB
      go_wp2_with fail
      refine (HSE.out _ HBE.out).mono ?_
      rintro e wx ⟨rfl, he⟩
      have := H.out _ he
      clear H
      go_wp2_with fail
      show K _ _
      rw [HFR.out] at this
      obtain ⟨u1, u4⟩ := HU.out
      rw [u1, u4] at this
      exact this
    · rintro L A W K hL hC hW ⟨V, rfl, HV, s0⟩ hK
      have e5 : V 5 = .tuple #[.int .i64 (pn : Nat), .bool hb] := HV 5 _ rfl (hW 5 rfl)
      have H := Lib.hid (show ∀ W', Ext W W' → K (fr (upd V 6 (.tuple #[.int .i64 (pn : Nat), .bool hb]))) W' from fun W' he => hK _ _ ⟨upd V 6 (.tuple #[.int .i64 (pn : Nat), .bool hb]), rfl, HV.up 6 _ (fun x hx => Option.some.inj hx), LdJ.ext s0 he⟩)
      have HU := Lib.hid (show (upd V 6 (.tuple #[.int .i64 (pn : Nat), .bool hb])) 5 = .tuple #[.int .i64 (pn : Nat), .bool hb] from e5)
      clear hK hC hW hL HV s0
      rw [HFR.out]
      rw [e5]
      clear e5
      go_wp2_with fail
      show K _ _
      have := H.out _ (Ext.refl _)
      rw [HFR.out] at this
      obtain u5 := HU.out
      rw [u5] at this
      exact this
    · rintro L A W K hL hC hW ⟨V, rfl, HV, s0⟩ hK
      have e6 : V 6 = .tuple #[.int .i64 (pn : Nat), .bool hb] := HV 6 _ rfl (hW 6 rfl)
      have H := Lib.hid (show ∀ W', Ext W W' → K (fr (upd V 7 (.int .i64 (pn : Nat)))) W' from fun W' he => hK _ _ ⟨upd V 7 (.int .i64 (pn : Nat)), rfl, HV.up 7 _ (fun x hx => Option.some.inj hx), LdJ.ext s0 he⟩)
      have HU := Lib.hid (show (upd V 7 (.int .i64 (pn : Nat))) 6 = .tuple #[.int .i64 (pn : Nat), .bool hb] from e6)
      clear hK hC hW hL HV s0
      rw [HFR.out]
      rw [e6]
      clear e6
      go_wp2_with fail
      show K _ _
      have := H.out _ (Ext.refl _)
      rw [HFR.out] at this
      obtain u6 := HU.out
      rw [u6] at this
      exact this
    · rintro L A W K hL hC hW ⟨V, rfl, HV, s0⟩ hK
      have e6 : V 6 = .tuple #[.int .i64 (pn : Nat), .bool hb] := HV 6 _ rfl (hW 6 rfl)
      have H := Lib.hid (show ∀ W', Ext W W' → K (fr (upd V 8 (.bool hb))) W' from fun W' he => hK _ _ ⟨upd V 8 (.bool hb), rfl, HV.up 8 _ (fun x hx => Option.some.inj hx), LdJ.ext s0 he⟩)
      have HU := Lib.hid (show (upd V 8 (.bool hb)) 6 = .tuple #[.int .i64 (pn : Nat), .bool hb] from e6)
      clear hK hC hW hL HV s0
      rw [HFR.out]
      rw [e6]
      clear e6
      go_wp2_with fail
      show K _ _
      have := H.out _ (Ext.refl _)
      rw [HFR.out] at this
      obtain u6 := HU.out
      rw [u6] at this
      exact this
    · rintro L A W K hL hC hW ⟨V, rfl, HV, s0⟩ hK
      have e7 : V 7 = .int .i64 (pn : Nat) := HV 7 _ rfl (hW 7 rfl)
      have H := Lib.hid (show ∀ W', Ext W W' → K (fr (upd V 9 (.int .i64 (pn : Nat)))) W' from fun W' he => hK _ _ ⟨upd V 9 (.int .i64 (pn : Nat)), rfl, HV.up 9 _ (fun x hx => Option.some.inj hx), LdJ.ext s0 he⟩)
      have HU := Lib.hid (show (upd V 9 (.int .i64 (pn : Nat))) 7 = .int .i64 (pn : Nat) from e7)
      clear hK hC hW hL HV s0
      rw [HFR.out]
      rw [e7]
      clear e7
      go_wp2_with fail
      show K _ _
      have := H.out _ (Ext.refl _)
      rw [HFR.out] at this
      obtain u7 := HU.out
      rw [u7] at this
      exact this
    · rintro L A W K hL hC hW ⟨V, rfl, HV, s0⟩ hK
      have e8 : V 8 = .bool hb := HV 8 _ rfl (hW 8 rfl)
      have H := Lib.hid (show ∀ W', Ext W W' → K (fr (upd V 10 (.bool hb))) W' from fun W' he => hK _ _ ⟨upd V 10 (.bool hb), rfl, HV.up 10 _ (fun x hx => Option.some.inj hx), LdJ.ext s0 he⟩)
      have HU := Lib.hid (show (upd V 10 (.bool hb)) 8 = .bool hb from e8)
      clear hK hC hW hL HV s0
      rw [HFR.out]
      rw [e8]
      clear e8
      go_wp2_with fail
      show K _ _
      have := H.out _ (Ext.refl _)
      rw [HFR.out] at this
      obtain u8 := HU.out
      rw [u8] at this
      exact this
    · rintro L A W hL ⟨V, rfl, HV, s0⟩
      have e0 : V 0 = .pointer (some ⟨g1, 2, none⟩) := HV 0 _ rfl (hL 0 (by simp))
      have e1 : V 1 = .slice A3 x.p.length c3 := HV 1 _ rfl (hL 1 (by simp))
      have e2 : V 2 = .agg (cS q) := HV 2 _ rfl (hL 2 (by simp))
      have e3 : V 3 = wv 0 := HV 3 _ rfl (hL 3 (by simp))
      have e4 : V 4 = .agg (cP ⟨q.addr, q.key, 0⟩) := HV 4 _ rfl (hL 4 (by simp))
      have e5 : V 5 = .tuple #[.int .i64 (pn : Nat), .bool hb] := HV 5 _ rfl (hL 5 (by simp))
      have e6 : V 6 = .tuple #[.int .i64 (pn : Nat), .bool hb] := HV 6 _ rfl (hL 6 (by simp))
      have e7 : V 7 = .int .i64 (pn : Nat) := HV 7 _ rfl (hL 7 (by simp))
      have e8 : V 8 = .bool hb := HV 8 _ rfl (hL 8 (by simp))
      have e9 : V 9 = .int .i64 (pn : Nat) := HV 9 _ rfl (hL 9 (by simp))
      have e10 : V 10 = .bool hb := HV 10 _ rfl (hL 10 (by simp))
      have hA := s0
      rw [HFR.out]
      rw [e0, e1, e2, e3, e4, e5, e6, e7, e8, e9, e10]
      clear hL HV HFR e0 e1 e2 e3 e4 e5 e6 e7 e8 e9 e10 s0
      have HE2 := Lib.hid hA.2.2.2
      have HR2 := Lib.hid hA.2.2.1
      have HC2 := Lib.hid hA.1
      clear hA HJ
      cases hb with
      | false =>
        have HF := Lib.hid (show loadX x q = 0 by rw [HDF.out, HHB.out, if_neg Bool.false_ne_true])
        go_wp2_with ((with_reducible refine wpList_store_word ?_ ?_ 30 (.tmp 4) (.tmp 22) ?_ winfo g4 (wc 0) 0 ?_ ?_ ?_ ?_ ?_); (exact rfl); (exact rfl); (exact rfl); (exact rfl); (exact rfl); (exact HR2.out); (exact rfl); intro w3 k3 g3'; have K3 := Lib.hid k3; have G3 := Lib.hid g3'; clear k3 g3')
        refine bodyPost_ret (results_word Try.results15 _ _ g4 0 rfl K3.out Try.underlying30 winfo) rfl ?_
        exact ⟨by rw [HF.out], HE2.out.grown G3.out HG4.out⟩
      | true =>
        have hlt : pn < x.p.length := by rw [← HPN.out]; exact hasX_lt HHB.out
        have HF := Lib.hid (show loadX x q = (x.p.getD pn pz0).val by rw [HDF.out, HHB.out, if_pos rfl, HPN.out])
        have hd : decide (pn < x.p.length) = true := decide_eq_true hlt
        have hd2 : decide ((pn : Int) < (x.p.length : Int)) = true := decide_eq_true (by omega)
        obtain ⟨bb, oo, rfl, hrg, hpk⟩ := (HX.out.2.2.ext HE2.out).at pn hlt
        have HRV := Lib.hid (cP_val hrg)
        have q2 := HC2.out.cell 2 _ rfl
        clear hrg hpk
        generalize x.p.getD pn pz0 = p at *
        go_wp2_with (first
          | ((with_reducible refine wpList_load_wordIn ?_ (.tmp 27) ?_ bb (oo + pn * 9 + 5) p.val ?_ ?_ ?_); (exact rfl); (exact rfl); (exact rfl); (exact HRV.out))
          | ((with_reducible refine wpList_store_word ?_ ?_ 30 (.tmp 4) (.tmp 28) ?_ winfo g4 (wc 0) p.val ?_ ?_ ?_ ?_ ?_); (exact rfl); (exact rfl); (exact rfl); (exact rfl); (exact rfl); (exact HR2.out); (exact rfl); intro w3 k3 g3'; have K3 := Lib.hid k3; have G3 := Lib.hid g3'; clear k3 g3'))
        refine bodyPost_ret (results_word Try.results15 _ _ g4 p.val rfl K3.out Try.underlying30 winfo) rfl ?_
        exact ⟨by rw [HF.out], HE2.out.grown G3.out HG4.out⟩
end Go.Proofs.Ytjampleddeidaaa
