/- Package access: the document's Right, Load. -/
import Derived.Test.YtjampleddeidaaaQAcd
import Derived.Test.YtjampleddeidaaaQAer
namespace Go.Proofs.Ytjampleddeidaaa
open Go.ChangeShapes Go.WideShapes Go.ChangeAt Go.RowKit Go.Shelf

set_option maxRecDepth 100000 in
theorem right_no1 {x : Ax} (h : rsB x.a = false) : rightX x = false := by unfold rightX; rw [h]; rfl
set_option maxRecDepth 100000 in
theorem right_no2 {x : Ax} (h : rsB x.s = false) : rightX x = false := by unfold rightX; rw [h]; cases rsB x.a <;> rfl
set_option maxRecDepth 100000 in
theorem right_no3 {x : Ax} (h : rsB x.p = false) : rightX x = false := by unfold rightX; rw [h]; cases rsB x.a <;> cases rsB x.s <;> rfl
set_option maxRecDepth 100000 in
theorem right_no4 {x : Ax} (h : nzB x.p = false) : rightX x = false := by unfold rightX; rw [h]; cases rsB x.a <;> cases rsB x.s <;> cases rsB x.p <;> rfl
set_option maxRecDepth 100000 in
theorem right_yes {x : Ax} (h1 : rsB x.a = true) (h2 : rsB x.s = true) (h3 : rsB x.p = true) (h4 : nzB x.p = true) : rightX x = true := by unfold rightX; rw [h1, h2, h3, h4]; rfl
def UpR (l : List Pe) (k : Nat) : Prop := ∀ m, m + 1 < k → (l.getD m pz0).cod < (l.getD (m + 1) pz0).cod
set_option maxRecDepth 100000 in
theorem UpR.more {l : List Pe} {k : Nat} (h : UpR l (k + 1)) (hk : (l.getD k pz0).cod < (l.getD (k + 1) pz0).cod) : UpR l (k + 1 + 1) := fun m hm => by
  rcases Nat.lt_or_ge (m + 1) (k + 1) with h' | h'
  · exact h m h'
  · obtain rfl : m = k := by omega
    exact hk
set_option maxRecDepth 100000 in
theorem UpR.one (l : List Pe) : UpR l 1 := fun m hm => absurd hm (by omega)
set_option maxRecDepth 100000 in
theorem UpR.zero (l : List Pe) : UpR l 0 := fun m hm => absurd hm (by omega)
set_option maxRecDepth 100000 in
theorem cod_ltA {p q : Pe} (hp : okA p) (hq : okA q) : decide ((q.addr : Int) ≤ (p.addr : Int)) = !decide (p.cod < q.cod) := by
  have e1 : p.cod = p.addr * M256 := by unfold Pe.cod cdN; rw [hp.2.1, Nat.add_zero]
  have e2 : q.cod = q.addr * M256 := by unfold Pe.cod cdN; rw [hq.2.1, Nat.add_zero]
  have h1 : p.addr * M256 < q.addr * M256 ↔ p.addr < q.addr := Nat.mul_lt_mul_right (by decide)
  rw [e1, e2, decide_eq_decide.2 h1]
  by_cases h : p.addr < q.addr
  · rw [decide_eq_true h, decide_eq_false (by omega)]; rfl
  · rw [decide_eq_false h, decide_eq_true (by omega)]; rfl
set_option maxRecDepth 100000 in
theorem rangeK_ext {w w' : World} {b o : Nat} {cs : List Value} (h : w.rangeAt b o cs) (he : Ext w w') : w'.rangeAt b o cs := fun j v hv => he.cell (h j v hv)
set_option maxRecDepth 100000 in
theorem AxC.ext {wr W W' : World} {g : Nat} {cs : Array Value} (h : Cs W g 26 cs ∧ Ext wr W) (he : Ext W W') : Cs W' g 26 cs ∧ Ext wr W' := ⟨Cs.ext h.1 he, h.2.trans he⟩
set_option maxRecDepth 100000 in
set_option maxHeartbeats 8000000 in
theorem refRightX_any (va vs vp : Value) (x : Ax) (w : World) (hx : AxR w va vs vp x) : Calls Try.prog 14 #[.agg #[va, vs, vp]] w fun e w' => e = .returned (.bool (rightX x)) ∧ Ext w w' := by
  have HX := Lib.hid hx
  obtain ⟨A1, c1, rfl, hc1, hm1⟩ := hx.1.len
  obtain ⟨A2, c2, rfl, hc2, hm2⟩ := hx.2.1.len
  obtain ⟨A3, c3, rfl, hc3, hm3⟩ := hx.2.2.len
  unfold maxLen at hm1 hm2 hm3
  obtain ⟨w0, hw0⟩ : ∃ w0, w.alloc (.cells #[.slice A1 x.a.length c1, .slice A2 x.s.length c2, .slice A3 x.p.length c3] 26) = w0 := ⟨_, rfl⟩
  have HC0 : Hid (Cs w0 w.heap.size 26 #[.slice A1 x.a.length c1, .slice A2 x.s.length c2, .slice A3 x.p.length c3]) := Lib.hid (by rw [← hw0]; exact Cs.new _ _ _ _ rfl)
  have HE0 : Hid (Ext w w0) := Lib.hid (by rw [← hw0]; exact (Ext.refl w).alloc _)
  have HW0 := Lib.hid hw0
  clear hx hw0
  go_enter Try.func14, Try.ntmps14
  go_upto_region 1 with fail
  rw [HW0.out]
  clear HW0
  obtain ⟨g1, hg1⟩ : ∃ g, w.heap.size = g := ⟨_, rfl⟩
  rw [hg1] at HC0 ⊢
  clear hg1
  go_wp2_with fail
  go_loopw [3] (fun iv wr => ∃ k : Nat, (k + 1 ≤ x.a.length ∨ k = 0) ∧ iv = .int .i64 ((k + 1 : Nat) : Int) ∧ Hid (UpR x.a (k + 1) ∧ Ext w0 wr)) (fun iv _ => x.a.length + 1 - (intOf iv).toNat)
  case atStart => exact ⟨0, .inr rfl, rfl, Lib.hid ⟨UpR.one _, Ext.refl _⟩⟩
  case round =>
    obtain ⟨k, hk, rfl, HJ⟩ := hrel
    have HC := Lib.hid (Cs.ext HC0.out HJ.out.2)
    have q0 := HC.out.cell 0 _ rfl
    by_cases hlt : k + 1 < x.a.length
    · have hd : decide (k + 1 < x.a.length) = true := decide_eq_true hlt
      have hd2 : decide (((k + 1 : Nat) : Int) < (x.a.length : Int)) = true := decide_eq_true (by omega)
      have hd3 : decide ((k : Int) + 1 < (x.a.length : Int)) = true := decide_eq_true (by omega)
      have hd4 : decide (k < x.a.length) = true := decide_eq_true (by omega)
      have hd5 : decide ((k : Int) < (x.a.length : Int)) = true := decide_eq_true (by omega)
      obtain ⟨bb, oo, rfl, hp1, hp2⟩ := (HX.out.1.ext (HE0.out.trans HJ.out.2)).at k (by omega)
      obtain ⟨b2, o2, e2, hq1, hq2⟩ := (HX.out.1.ext (HE0.out.trans HJ.out.2)).at (k + 1) hlt
      injection e2 with e2
      injection e2 with e2 e3
      subst e2 e3
      have HST := Lib.hid (fun (h : ¬ (x.a.getD k pz0).cod < (x.a.getD (k + 1) pz0).cod) => right_no1 (rs_stop k hlt h))
      have HMO := Lib.hid (fun (h : (x.a.getD k pz0).cod < (x.a.getD (k + 1) pz0).cod) => HJ.out.1.more h)
      generalize x.a.getD k pz0 = p at *
      generalize x.a.getD (k + 1) pz0 = q at *
      have HP := Lib.hid (ex_addr hp1)
      have HQ := Lib.hid (ex_addr hq1)
      obtain ⟨rb, hrb⟩ : ∃ b, decide ((q.addr : Int) ≤ (p.addr : Int)) = b := ⟨_, rfl⟩
      have hrn : decide (q.addr ≤ p.addr) = rb := by rw [← hrb]; exact decide_eq_decide.2 (by omega)
      have HRB := Lib.hid (show rb = !decide (p.cod < q.cod) by rw [← hrb]; exact cod_ltA hp2 hq2)
      clear hp1 hp2 hq1 hq2
      go_upto_region 4 with fail
      refine wp_named fun a0 ha0 => ?_
      obtain ⟨fr, hfr⟩ : ∃ fr : (Nat → Value) → Act, ∀ V, fr V = ((((((((((((a0.put (some 13) (V 0)).put (some 14) (V 1)).put (some 15) (V 2)).put (some 16) (V 3)).put (some 17) (V 4)).put (some 18) (V 5)).put (some 19) (V 6)).put (some 20) (V 7)).put (some 21) (V 8)).put (some 22) (V 9)).put (some 23) (V 10)).put (some 24) (V 11)) := ⟨fun V => ((((((((((((a0.put (some 13) (V 0)).put (some 14) (V 1)).put (some 15) (V 2)).put (some 16) (V 3)).put (some 17) (V 4)).put (some 18) (V 5)).put (some 19) (V 6)).put (some 20) (V 7)).put (some 21) (V 8)).put (some 22) (V 9)).put (some 23) (V 10)).put (some 24) (V 11)), fun _ => rfl⟩
      rw [ha0] at hfr
      simp only [Act.put, List.setIfInBounds_toArray, List.set_cons_zero, List.set_cons_succ] at hfr
      have HFR := Lib.hid hfr
      clear hfr
      refine wp_region_inv (by kernel_rfl) (by kernel_rfl) (fun L A W => ∃ V : Nat → Value, A = fr V ∧ Vals (fun j => ([some (.pointer (some ⟨g1, 0, none⟩)), some (.slice (some ⟨bb, oo, none⟩) x.a.length c1), some (.int .i64 ((k + 1 : Nat) : Int)), some (.int .i64 (k : Nat)), some (.pointer (some ⟨bb, oo + k, none⟩)), some (.int .u64 (p.addr : Nat)), some (.pointer (some ⟨g1, 0, none⟩)), some (.slice (some ⟨bb, oo, none⟩) x.a.length c1), some (.int .i64 ((k + 1 : Nat) : Int)), some (.pointer (some ⟨bb, oo + (k + 1), none⟩)), some (.int .u64 (q.addr : Nat)), some (.bool rb)] : List (Option Value)).getD j none) L V ∧ (Cs W g1 26 #[.slice (some ⟨bb, oo, none⟩) x.a.length c1, .slice A2 x.s.length c2, .slice A3 x.p.length c3] ∧ Ext wr W)) ?_ ⟨?_, ?_, ?_, ?_, ?_, ?_, ?_, ?_, ?_, ?_, ?_, ?_, trivial⟩ ?_
      · refine ⟨fun j => a0.tmps.getD (([13, 14, 15, 16, 17, 18, 19, 20, 21, 22, 23, 24] : List Nat).getD j 0) undef, ?_, Vals.no _ _ _ (far_none _ _ rfl), ⟨Cs.ext HC.out (Ext.refl _).drew, (Ext.refl _).drew⟩⟩
        rw [HFR.out, ha0]
        rfl
      all_goals clear ha0
      · rintro L A W K hL hC hW ⟨V, rfl, HV, s0⟩ hK
        have H := Lib.hid (show ∀ W', Ext W W' → K (fr (upd V 0 (.pointer (some ⟨g1, 0, none⟩)))) W' from fun W' he => hK _ _ ⟨upd V 0 (.pointer (some ⟨g1, 0, none⟩)), rfl, HV.up 0 _ (fun x hx => Option.some.inj hx), AxC.ext s0 he⟩)
        clear hK hC hW hL HV s0
        rw [HFR.out]
        go_wp2_with fail
        show K _ _
        have := H.out _ (Ext.refl _)
        rw [HFR.out] at this
        exact this
      · rintro L A W K hL hC hW ⟨V, rfl, HV, s0⟩ hK
        have e0 : V 0 = .pointer (some ⟨g1, 0, none⟩) := HV 0 _ rfl (hW 0 rfl)
        have hB := s0
        have H := Lib.hid (show ∀ W', Ext W W' → K (fr (upd V 1 (.slice (some ⟨bb, oo, none⟩) x.a.length c1))) W' from fun W' he => hK _ _ ⟨upd V 1 (.slice (some ⟨bb, oo, none⟩) x.a.length c1), rfl, HV.up 1 _ (fun x hx => Option.some.inj hx), AxC.ext s0 he⟩)
        have HU := Lib.hid (show (upd V 1 (.slice (some ⟨bb, oo, none⟩) x.a.length c1)) 0 = .pointer (some ⟨g1, 0, none⟩) from e0)
        clear hK hC hW hL HV s0
        rw [HFR.out]
        rw [e0]
        clear e0
        have qq := hB.1.cell 0 _ rfl
        clear hB
        go_wp2_with fail
        show K _ _
        have := H.out _ (Ext.refl _)
        rw [HFR.out] at this
        obtain u0 := HU.out
        rw [u0] at this
        exact this
      · rintro L A W K hL hC hW ⟨V, rfl, HV, s0⟩ hK
        have H := Lib.hid (show ∀ W', Ext W W' → K (fr (upd V 2 (.int .i64 ((k + 1 : Nat) : Int)))) W' from fun W' he => hK _ _ ⟨upd V 2 (.int .i64 ((k + 1 : Nat) : Int)), rfl, HV.up 2 _ (fun x hx => Option.some.inj hx), AxC.ext s0 he⟩)
        clear hK hC hW hL HV s0
        rw [HFR.out]
        go_wp2_with fail
        show K _ _
        have := H.out _ (Ext.refl _)
        rw [HFR.out] at this
        exact this
      · rintro L A W K hL hC hW ⟨V, rfl, HV, s0⟩ hK
        have e2 : V 2 = .int .i64 ((k + 1 : Nat) : Int) := HV 2 _ rfl (hW 2 rfl)
        have H := Lib.hid (show ∀ W', Ext W W' → K (fr (upd V 3 (.int .i64 (k : Nat)))) W' from fun W' he => hK _ _ ⟨upd V 3 (.int .i64 (k : Nat)), rfl, HV.up 3 _ (fun x hx => Option.some.inj hx), AxC.ext s0 he⟩)
        have HU := Lib.hid (show (upd V 3 (.int .i64 (k : Nat))) 2 = .int .i64 ((k + 1 : Nat) : Int) from e2)
        clear hK hC hW hL HV s0
        rw [HFR.out]
        rw [e2]
        clear e2
        go_wp2_with fail
        show K _ _
        have := H.out _ (Ext.refl _)
        rw [HFR.out] at this
        obtain u2 := HU.out
        rw [u2] at this
        exact this
      · rintro L A W K hL hC hW ⟨V, rfl, HV, s0⟩ hK
        have e1 : V 1 = .slice (some ⟨bb, oo, none⟩) x.a.length c1 := HV 1 _ rfl (hW 1 rfl)
        have e3 : V 3 = .int .i64 (k : Nat) := HV 3 _ rfl (hW 3 rfl)
        have hB := s0
        have H := Lib.hid (show ∀ W', Ext W W' → K (fr (upd V 4 (.pointer (some ⟨bb, oo + k, none⟩)))) W' from fun W' he => hK _ _ ⟨upd V 4 (.pointer (some ⟨bb, oo + k, none⟩)), rfl, HV.up 4 _ (fun x hx => Option.some.inj hx), AxC.ext s0 he⟩)
        have HU := Lib.hid (show (upd V 4 (.pointer (some ⟨bb, oo + k, none⟩))) 1 = .slice (some ⟨bb, oo, none⟩) x.a.length c1 ∧ (upd V 4 (.pointer (some ⟨bb, oo + k, none⟩))) 3 = .int .i64 (k : Nat) from ⟨e1, e3⟩)
        clear hK hC hW hL HV s0
        rw [HFR.out]
        rw [e1, e3]
        clear e1 e3
        clear hB
        go_wp2_with fail
        show K _ _
        have := H.out _ (Ext.refl _)
        rw [HFR.out] at this
        obtain ⟨u1, u3⟩ := HU.out
        rw [u1, u3] at this
        exact this
      · rintro L A W K hL hC hW ⟨V, rfl, HV, s0⟩ hK
        have e4 : V 4 = .pointer (some ⟨bb, oo + k, none⟩) := HV 4 _ rfl (hW 4 rfl)
        have hB := s0
        have H := Lib.hid (show ∀ W', Ext W W' → K (fr (upd V 5 (.int .u64 (p.addr : Nat)))) W' from fun W' he => hK _ _ ⟨upd V 5 (.int .u64 (p.addr : Nat)), rfl, HV.up 5 _ (fun x hx => Option.some.inj hx), AxC.ext s0 he⟩)
        have HU := Lib.hid (show (upd V 5 (.int .u64 (p.addr : Nat))) 4 = .pointer (some ⟨bb, oo + k, none⟩) from e4)
        clear hK hC hW hL HV s0
        rw [HFR.out]
        rw [e4]
        clear e4
        have qq := hB.2.cell HP.out
        clear hB
        go_wp2_with fail
        show K _ _
        have := H.out _ (Ext.refl _)
        rw [HFR.out] at this
        obtain u4 := HU.out
        rw [u4] at this
        exact this
      · rintro L A W K hL hC hW ⟨V, rfl, HV, s0⟩ hK
        have H := Lib.hid (show ∀ W', Ext W W' → K (fr (upd V 6 (.pointer (some ⟨g1, 0, none⟩)))) W' from fun W' he => hK _ _ ⟨upd V 6 (.pointer (some ⟨g1, 0, none⟩)), rfl, HV.up 6 _ (fun x hx => Option.some.inj hx), AxC.ext s0 he⟩)
        clear hK hC hW hL HV s0
        rw [HFR.out]
        go_wp2_with fail
        show K _ _
        have := H.out _ (Ext.refl _)
        rw [HFR.out] at this
        exact this
      · rintro L A W K hL hC hW ⟨V, rfl, HV, s0⟩ hK
        have e6 : V 6 = .pointer (some ⟨g1, 0, none⟩) := HV 6 _ rfl (hW 6 rfl)
        have hB := s0
        have H := Lib.hid (show ∀ W', Ext W W' → K (fr (upd V 7 (.slice (some ⟨bb, oo, none⟩) x.a.length c1))) W' from fun W' he => hK _ _ ⟨upd V 7 (.slice (some ⟨bb, oo, none⟩) x.a.length c1), rfl, HV.up 7 _ (fun x hx => Option.some.inj hx), AxC.ext s0 he⟩)
        have HU := Lib.hid (show (upd V 7 (.slice (some ⟨bb, oo, none⟩) x.a.length c1)) 6 = .pointer (some ⟨g1, 0, none⟩) from e6)
        clear hK hC hW hL HV s0
        rw [HFR.out]
        rw [e6]
        clear e6
        have qq := hB.1.cell 0 _ rfl
        clear hB
        go_wp2_with fail
        show K _ _
        have := H.out _ (Ext.refl _)
        rw [HFR.out] at this
        obtain u6 := HU.out
        rw [u6] at this
        exact this
      · rintro L A W K hL hC hW ⟨V, rfl, HV, s0⟩ hK
        have H := Lib.hid (show ∀ W', Ext W W' → K (fr (upd V 8 (.int .i64 ((k + 1 : Nat) : Int)))) W' from fun W' he => hK _ _ ⟨upd V 8 (.int .i64 ((k + 1 : Nat) : Int)), rfl, HV.up 8 _ (fun x hx => Option.some.inj hx), AxC.ext s0 he⟩)
        clear hK hC hW hL HV s0
        rw [HFR.out]
        go_wp2_with fail
        show K _ _
        have := H.out _ (Ext.refl _)
        rw [HFR.out] at this
        exact this
      · rintro L A W K hL hC hW ⟨V, rfl, HV, s0⟩ hK
        have e7 : V 7 = .slice (some ⟨bb, oo, none⟩) x.a.length c1 := HV 7 _ rfl (hW 7 rfl)
        have e8 : V 8 = .int .i64 ((k + 1 : Nat) : Int) := HV 8 _ rfl (hW 8 rfl)
        have hB := s0
        have H := Lib.hid (show ∀ W', Ext W W' → K (fr (upd V 9 (.pointer (some ⟨bb, oo + (k + 1), none⟩)))) W' from fun W' he => hK _ _ ⟨upd V 9 (.pointer (some ⟨bb, oo + (k + 1), none⟩)), rfl, HV.up 9 _ (fun x hx => Option.some.inj hx), AxC.ext s0 he⟩)
        have HU := Lib.hid (show (upd V 9 (.pointer (some ⟨bb, oo + (k + 1), none⟩))) 7 = .slice (some ⟨bb, oo, none⟩) x.a.length c1 ∧ (upd V 9 (.pointer (some ⟨bb, oo + (k + 1), none⟩))) 8 = .int .i64 ((k + 1 : Nat) : Int) from ⟨e7, e8⟩)
        clear hK hC hW hL HV s0
        rw [HFR.out]
        rw [e7, e8]
        clear e7 e8
        clear hB
        go_wp2_with fail
        show K _ _
        have := H.out _ (Ext.refl _)
        rw [HFR.out] at this
        obtain ⟨u7, u8⟩ := HU.out
        rw [u7, u8] at this
        exact this
      · rintro L A W K hL hC hW ⟨V, rfl, HV, s0⟩ hK
        have e9 : V 9 = .pointer (some ⟨bb, oo + (k + 1), none⟩) := HV 9 _ rfl (hW 9 rfl)
        have hB := s0
        have H := Lib.hid (show ∀ W', Ext W W' → K (fr (upd V 10 (.int .u64 (q.addr : Nat)))) W' from fun W' he => hK _ _ ⟨upd V 10 (.int .u64 (q.addr : Nat)), rfl, HV.up 10 _ (fun x hx => Option.some.inj hx), AxC.ext s0 he⟩)
        have HU := Lib.hid (show (upd V 10 (.int .u64 (q.addr : Nat))) 9 = .pointer (some ⟨bb, oo + (k + 1), none⟩) from e9)
        clear hK hC hW hL HV s0
        rw [HFR.out]
        rw [e9]
        clear e9
        have qq := hB.2.cell HQ.out
        clear hB
        go_wp2_with fail
        show K _ _
        have := H.out _ (Ext.refl _)
        rw [HFR.out] at this
        obtain u9 := HU.out
        rw [u9] at this
        exact this
      · rintro L A W K hL hC hW ⟨V, rfl, HV, s0⟩ hK
        have e5 : V 5 = .int .u64 (p.addr : Nat) := HV 5 _ rfl (hW 5 rfl)
        have e10 : V 10 = .int .u64 (q.addr : Nat) := HV 10 _ rfl (hW 10 rfl)
        have H := Lib.hid (show ∀ W', Ext W W' → K (fr (upd V 11 (.bool rb))) W' from fun W' he => hK _ _ ⟨upd V 11 (.bool rb), rfl, HV.up 11 _ (fun x hx => Option.some.inj hx), AxC.ext s0 he⟩)
        have HU := Lib.hid (show (upd V 11 (.bool rb)) 5 = .int .u64 (p.addr : Nat) ∧ (upd V 11 (.bool rb)) 10 = .int .u64 (q.addr : Nat) from ⟨e5, e10⟩)
        clear hK hC hW hL HV s0
        rw [HFR.out]
        rw [e5, e10]
        clear e5 e10
        go_wp2_with fail
        show K _ _
        have := H.out _ (Ext.refl _)
        rw [HFR.out] at this
        obtain ⟨u5, u10⟩ := HU.out
        rw [u5, u10] at this
        exact this
      · rintro L A W hL ⟨V, rfl, HV, s0⟩
        have e0 : V 0 = .pointer (some ⟨g1, 0, none⟩) := HV 0 _ rfl (hL 0 (by simp))
        have e1 : V 1 = .slice (some ⟨bb, oo, none⟩) x.a.length c1 := HV 1 _ rfl (hL 1 (by simp))
        have e2 : V 2 = .int .i64 ((k + 1 : Nat) : Int) := HV 2 _ rfl (hL 2 (by simp))
        have e3 : V 3 = .int .i64 (k : Nat) := HV 3 _ rfl (hL 3 (by simp))
        have e4 : V 4 = .pointer (some ⟨bb, oo + k, none⟩) := HV 4 _ rfl (hL 4 (by simp))
        have e5 : V 5 = .int .u64 (p.addr : Nat) := HV 5 _ rfl (hL 5 (by simp))
        have e6 : V 6 = .pointer (some ⟨g1, 0, none⟩) := HV 6 _ rfl (hL 6 (by simp))
        have e7 : V 7 = .slice (some ⟨bb, oo, none⟩) x.a.length c1 := HV 7 _ rfl (hL 7 (by simp))
        have e8 : V 8 = .int .i64 ((k + 1 : Nat) : Int) := HV 8 _ rfl (hL 8 (by simp))
        have e9 : V 9 = .pointer (some ⟨bb, oo + (k + 1), none⟩) := HV 9 _ rfl (hL 9 (by simp))
        have e10 : V 10 = .int .u64 (q.addr : Nat) := HV 10 _ rfl (hL 10 (by simp))
        have e11 : V 11 = .bool rb := HV 11 _ rfl (hL 11 (by simp))
        have hA := s0
        rw [HFR.out]
        rw [e0, e1, e2, e3, e4, e5, e6, e7, e8, e9, e10, e11]
        clear hL HV HFR e0 e1 e2 e3 e4 e5 e6 e7 e8 e9 e10 e11 s0
        have HXN := Lib.hid (HE0.out.trans (HJ.out.2.trans hA.2))
        have HXM := Lib.hid (HJ.out.2.trans hA.2)
        clear hA
        cases rb with
        | true =>
          have HF := Lib.hid (HST.out (by have := HRB.out; intro h; rw [decide_eq_true h] at this; cases this))
          clear hrb hrn
          go_wp2_with fail
          refine bodyPost_ret (results_tmp rfl _ _ _) rfl ?_
          exact ⟨by rw [HF.out]; rfl, HXN.out⟩
        | false =>
          have HT := Lib.hid (HMO.out (by have := HRB.out; rcases Nat.lt_or_ge p.cod q.cod with h | h; exact h; rw [decide_eq_false (by omega)] at this; cases this))
          clear hrb hrn
          go_wp2_with fail
          exact ⟨⟨k + 1, .inl (by omega), by go_num, Lib.hid ⟨HT.out, HXM.out⟩⟩, by simp [intOf]; omega⟩
    · have hd : decide (k + 1 < x.a.length) = false := decide_eq_false hlt
      have hd2 : decide (((k + 1 : Nat) : Int) < (x.a.length : Int)) = false := decide_eq_false (by omega)
      have hd3 : decide ((k : Int) + 1 < (x.a.length : Int)) = false := decide_eq_false (by omega)
      have HUA := Lib.hid (show ∀ m, m + 1 < x.a.length → (x.a.getD m pz0).cod < (x.a.getD (m + 1) pz0).cod from fun m hm => HJ.out.1 m (by omega))
      have HE1 := Lib.hid (HE0.out.trans HJ.out.2)
      have HC1 := Lib.hid HC.out
      clear HJ HC HC0 HE0 hk hlt
      go_wp2_with fail
      clear hd hd2 hd3 q0
      go_loopw [4] (fun iv wr => ∃ j0 : Nat, (j0 + 1 ≤ x.s.length ∨ j0 = 0) ∧ iv = .int .i64 ((j0 + 1 : Nat) : Int) ∧ Hid (UpR x.s (j0 + 1) ∧ Cs wr g1 26 #[.slice A1 x.a.length c1, .slice A2 x.s.length c2, .slice A3 x.p.length c3] ∧ Ext w wr)) (fun iv _ => x.s.length + 1 - (intOf iv).toNat)
      case atStart => exact ⟨0, .inr rfl, rfl, Lib.hid ⟨UpR.one _, HC1.out, HE1.out⟩⟩
      case round =>
        obtain ⟨j0, hk, rfl, HJ⟩ := hrel
        clear HC1 HE1
        have HC := Lib.hid HJ.out.2.1
        have q1 := HC.out.cell 1 _ rfl
        by_cases hlt : j0 + 1 < x.s.length
        · have hd : decide (j0 + 1 < x.s.length) = true := decide_eq_true hlt
          have hd2 : decide (((j0 + 1 : Nat) : Int) < (x.s.length : Int)) = true := decide_eq_true (by omega)
          have hd3 : decide ((j0 : Int) + 1 < (x.s.length : Int)) = true := decide_eq_true (by omega)
          have hd4 : decide (j0 < x.s.length) = true := decide_eq_true (by omega)
          have hd5 : decide ((j0 : Int) < (x.s.length : Int)) = true := decide_eq_true (by omega)
          obtain ⟨bb, oo, rfl, hp1, hp2⟩ := (HX.out.2.1.ext HJ.out.2.2).at j0 (by omega)
          obtain ⟨b2, o2, e2, hq1, hq2⟩ := (HX.out.2.1.ext HJ.out.2.2).at (j0 + 1) hlt
          injection e2 with e2
          injection e2 with e2 e3
          subst e2 e3
          have HST := Lib.hid (fun (h : ¬ (x.s.getD j0 pz0).cod < (x.s.getD (j0 + 1) pz0).cod) => right_no2 (rs_stop j0 hlt h))
          have HMO := Lib.hid (fun (h : (x.s.getD j0 pz0).cod < (x.s.getD (j0 + 1) pz0).cod) => HJ.out.1.more h)
          generalize x.s.getD j0 pz0 = p at *
          generalize x.s.getD (j0 + 1) pz0 = q at *
          have HP := Lib.hid hp1
          have HQ := Lib.hid hq1
          have HPO := Lib.hid hp2
          have HQO := Lib.hid hq2
          clear hp1 hp2 hq1 hq2
          go_upto_region 9 with fail
          refine wp_named fun a0 ha0 => ?_
          obtain ⟨fr, hfr⟩ : ∃ fr : (Nat → Value) → Act, ∀ V, fr V = (((((((((((((a0.put (some 32) (V 0)).put (some 33) (V 1)).put (some 34) (V 2)).put (some 35) (V 3)).put (some 36) (V 4)).put (some 37) (V 5)).put (some 38) (V 6)).put (some 39) (V 7)).put (some 40) (V 8)).put (some 41) (V 9)).put (some 42) (V 10)).put (some 43) (V 11)).put (some 44) (V 12)) := ⟨fun V => (((((((((((((a0.put (some 32) (V 0)).put (some 33) (V 1)).put (some 34) (V 2)).put (some 35) (V 3)).put (some 36) (V 4)).put (some 37) (V 5)).put (some 38) (V 6)).put (some 39) (V 7)).put (some 40) (V 8)).put (some 41) (V 9)).put (some 42) (V 10)).put (some 43) (V 11)).put (some 44) (V 12)), fun _ => rfl⟩
          rw [ha0] at hfr
          simp only [Act.put, List.setIfInBounds_toArray, List.set_cons_zero, List.set_cons_succ] at hfr
          have HFR := Lib.hid hfr
          clear hfr
          refine wp_region_inv (by kernel_rfl) (by kernel_rfl) (fun L A W => ∃ V : Nat → Value, A = fr V ∧ Vals (fun j => ([some (.pointer (some ⟨g1, 1, none⟩)), some (.slice (some ⟨bb, oo, none⟩) x.s.length c2), some (.int .i64 ((j0 + 1 : Nat) : Int)), some (.int .i64 (j0 : Nat)), some (.pointer (some ⟨bb, oo + j0 * 5, none⟩)), some (.agg (cS p)), some (.pointer (some ⟨g1, 1, none⟩)), some (.slice (some ⟨bb, oo, none⟩) x.s.length c2), some (.int .i64 ((j0 + 1 : Nat) : Int)), some (.pointer (some ⟨bb, oo + (j0 + 1) * 5, none⟩)), some (.agg (cS q)), some (.bool (decide (p.cod < q.cod))), some (.bool (!decide (p.cod < q.cod)))] : List (Option Value)).getD j none) L V ∧ (Cs W g1 26 #[.slice A1 x.a.length c1, .slice (some ⟨bb, oo, none⟩) x.s.length c2, .slice A3 x.p.length c3] ∧ Ext wr W)) ?_ ⟨?_, ?_, ?_, ?_, ?_, ?_, ?_, ?_, ?_, ?_, ?_, ?_, ?_, trivial⟩ ?_
          · refine ⟨fun j => a0.tmps.getD (([32, 33, 34, 35, 36, 37, 38, 39, 40, 41, 42, 43, 44] : List Nat).getD j 0) undef, ?_, Vals.no _ _ _ (far_none _ _ rfl), ⟨Cs.ext HC.out (Ext.refl _).drew, (Ext.refl _).drew⟩⟩
            rw [HFR.out, ha0]
            rfl
          all_goals clear ha0
          · rintro L A W K hL hC hW ⟨V, rfl, HV, s0⟩ hK
            have H := Lib.hid (show ∀ W', Ext W W' → K (fr (upd V 0 (.pointer (some ⟨g1, 1, none⟩)))) W' from fun W' he => hK _ _ ⟨upd V 0 (.pointer (some ⟨g1, 1, none⟩)), rfl, HV.up 0 _ (fun x hx => Option.some.inj hx), AxC.ext s0 he⟩)
            clear hK hC hW hL HV s0
            rw [HFR.out]
            go_wp2_with fail
            show K _ _
            have := H.out _ (Ext.refl _)
            rw [HFR.out] at this
            exact this
          · rintro L A W K hL hC hW ⟨V, rfl, HV, s0⟩ hK
            have e0 : V 0 = .pointer (some ⟨g1, 1, none⟩) := HV 0 _ rfl (hW 0 rfl)
            have hB := s0
            have H := Lib.hid (show ∀ W', Ext W W' → K (fr (upd V 1 (.slice (some ⟨bb, oo, none⟩) x.s.length c2))) W' from fun W' he => hK _ _ ⟨upd V 1 (.slice (some ⟨bb, oo, none⟩) x.s.length c2), rfl, HV.up 1 _ (fun x hx => Option.some.inj hx), AxC.ext s0 he⟩)
            have HU := Lib.hid (show (upd V 1 (.slice (some ⟨bb, oo, none⟩) x.s.length c2)) 0 = .pointer (some ⟨g1, 1, none⟩) from e0)
            clear hK hC hW hL HV s0
            rw [HFR.out]
            rw [e0]
            clear e0
            have qq := hB.1.cell 1 _ rfl
            clear hB
            go_wp2_with fail
            show K _ _
            have := H.out _ (Ext.refl _)
            rw [HFR.out] at this
            obtain u0 := HU.out
            rw [u0] at this
            exact this
          · rintro L A W K hL hC hW ⟨V, rfl, HV, s0⟩ hK
            have H := Lib.hid (show ∀ W', Ext W W' → K (fr (upd V 2 (.int .i64 ((j0 + 1 : Nat) : Int)))) W' from fun W' he => hK _ _ ⟨upd V 2 (.int .i64 ((j0 + 1 : Nat) : Int)), rfl, HV.up 2 _ (fun x hx => Option.some.inj hx), AxC.ext s0 he⟩)
            clear hK hC hW hL HV s0
            rw [HFR.out]
            go_wp2_with fail
            show K _ _
            have := H.out _ (Ext.refl _)
            rw [HFR.out] at this
            exact this
          · rintro L A W K hL hC hW ⟨V, rfl, HV, s0⟩ hK
            have e2 : V 2 = .int .i64 ((j0 + 1 : Nat) : Int) := HV 2 _ rfl (hW 2 rfl)
            have H := Lib.hid (show ∀ W', Ext W W' → K (fr (upd V 3 (.int .i64 (j0 : Nat)))) W' from fun W' he => hK _ _ ⟨upd V 3 (.int .i64 (j0 : Nat)), rfl, HV.up 3 _ (fun x hx => Option.some.inj hx), AxC.ext s0 he⟩)
            have HU := Lib.hid (show (upd V 3 (.int .i64 (j0 : Nat))) 2 = .int .i64 ((j0 + 1 : Nat) : Int) from e2)
            clear hK hC hW hL HV s0
            rw [HFR.out]
            rw [e2]
            clear e2
            go_wp2_with fail
            show K _ _
            have := H.out _ (Ext.refl _)
            rw [HFR.out] at this
            obtain u2 := HU.out
            rw [u2] at this
            exact this
          · rintro L A W K hL hC hW ⟨V, rfl, HV, s0⟩ hK
            have e1 : V 1 = .slice (some ⟨bb, oo, none⟩) x.s.length c2 := HV 1 _ rfl (hW 1 rfl)
            have e3 : V 3 = .int .i64 (j0 : Nat) := HV 3 _ rfl (hW 3 rfl)
            have hB := s0
            have H := Lib.hid (show ∀ W', Ext W W' → K (fr (upd V 4 (.pointer (some ⟨bb, oo + j0 * 5, none⟩)))) W' from fun W' he => hK _ _ ⟨upd V 4 (.pointer (some ⟨bb, oo + j0 * 5, none⟩)), rfl, HV.up 4 _ (fun x hx => Option.some.inj hx), AxC.ext s0 he⟩)
            have HU := Lib.hid (show (upd V 4 (.pointer (some ⟨bb, oo + j0 * 5, none⟩))) 1 = .slice (some ⟨bb, oo, none⟩) x.s.length c2 ∧ (upd V 4 (.pointer (some ⟨bb, oo + j0 * 5, none⟩))) 3 = .int .i64 (j0 : Nat) from ⟨e1, e3⟩)
            clear hK hC hW hL HV s0
            rw [HFR.out]
            rw [e1, e3]
            clear e1 e3
            clear hB
            go_wp2_with fail
            show K _ _
            have := H.out _ (Ext.refl _)
            rw [HFR.out] at this
            obtain ⟨u1, u3⟩ := HU.out
            rw [u1, u3] at this
            exact this
          · rintro L A W K hL hC hW ⟨V, rfl, HV, s0⟩ hK
            have e4 : V 4 = .pointer (some ⟨bb, oo + j0 * 5, none⟩) := HV 4 _ rfl (hW 4 rfl)
            have hB := s0
            have H := Lib.hid (show ∀ W', Ext W W' → K (fr (upd V 5 (.agg (cS p)))) W' from fun W' he => hK _ _ ⟨upd V 5 (.agg (cS p)), rfl, HV.up 5 _ (fun x hx => Option.some.inj hx), AxC.ext s0 he⟩)
            have HU := Lib.hid (show (upd V 5 (.agg (cS p))) 4 = .pointer (some ⟨bb, oo + j0 * 5, none⟩) from e4)
            clear hK hC hW hL HV s0
            rw [HFR.out]
            rw [e4]
            clear e4
            have HWD := Lib.hid (rangeK_ext HP.out hB.2)
            clear hB
            refine wpList_loadS rfl (.tmp 36) rfl bb (oo + j0 * 5) p rfl HWD.out ?_
            show K _ _
            have := H.out _ (Ext.refl _)
            rw [HFR.out] at this
            obtain u4 := HU.out
            rw [u4] at this
            exact this
          · rintro L A W K hL hC hW ⟨V, rfl, HV, s0⟩ hK
            have H := Lib.hid (show ∀ W', Ext W W' → K (fr (upd V 6 (.pointer (some ⟨g1, 1, none⟩)))) W' from fun W' he => hK _ _ ⟨upd V 6 (.pointer (some ⟨g1, 1, none⟩)), rfl, HV.up 6 _ (fun x hx => Option.some.inj hx), AxC.ext s0 he⟩)
            clear hK hC hW hL HV s0
            rw [HFR.out]
            go_wp2_with fail
            show K _ _
            have := H.out _ (Ext.refl _)
            rw [HFR.out] at this
            exact this
          · rintro L A W K hL hC hW ⟨V, rfl, HV, s0⟩ hK
            have e6 : V 6 = .pointer (some ⟨g1, 1, none⟩) := HV 6 _ rfl (hW 6 rfl)
            have hB := s0
            have H := Lib.hid (show ∀ W', Ext W W' → K (fr (upd V 7 (.slice (some ⟨bb, oo, none⟩) x.s.length c2))) W' from fun W' he => hK _ _ ⟨upd V 7 (.slice (some ⟨bb, oo, none⟩) x.s.length c2), rfl, HV.up 7 _ (fun x hx => Option.some.inj hx), AxC.ext s0 he⟩)
            have HU := Lib.hid (show (upd V 7 (.slice (some ⟨bb, oo, none⟩) x.s.length c2)) 6 = .pointer (some ⟨g1, 1, none⟩) from e6)
            clear hK hC hW hL HV s0
            rw [HFR.out]
            rw [e6]
            clear e6
            have qq := hB.1.cell 1 _ rfl
            clear hB
            go_wp2_with fail
            show K _ _
            have := H.out _ (Ext.refl _)
            rw [HFR.out] at this
            obtain u6 := HU.out
            rw [u6] at this
            exact this
          · rintro L A W K hL hC hW ⟨V, rfl, HV, s0⟩ hK
            have H := Lib.hid (show ∀ W', Ext W W' → K (fr (upd V 8 (.int .i64 ((j0 + 1 : Nat) : Int)))) W' from fun W' he => hK _ _ ⟨upd V 8 (.int .i64 ((j0 + 1 : Nat) : Int)), rfl, HV.up 8 _ (fun x hx => Option.some.inj hx), AxC.ext s0 he⟩)
            clear hK hC hW hL HV s0
            rw [HFR.out]
            go_wp2_with fail
            show K _ _
            have := H.out _ (Ext.refl _)
            rw [HFR.out] at this
            exact this
          · rintro L A W K hL hC hW ⟨V, rfl, HV, s0⟩ hK
            have e7 : V 7 = .slice (some ⟨bb, oo, none⟩) x.s.length c2 := HV 7 _ rfl (hW 7 rfl)
            have e8 : V 8 = .int .i64 ((j0 + 1 : Nat) : Int) := HV 8 _ rfl (hW 8 rfl)
            have hB := s0
            have H := Lib.hid (show ∀ W', Ext W W' → K (fr (upd V 9 (.pointer (some ⟨bb, oo + (j0 + 1) * 5, none⟩)))) W' from fun W' he => hK _ _ ⟨upd V 9 (.pointer (some ⟨bb, oo + (j0 + 1) * 5, none⟩)), rfl, HV.up 9 _ (fun x hx => Option.some.inj hx), AxC.ext s0 he⟩)
            have HU := Lib.hid (show (upd V 9 (.pointer (some ⟨bb, oo + (j0 + 1) * 5, none⟩))) 7 = .slice (some ⟨bb, oo, none⟩) x.s.length c2 ∧ (upd V 9 (.pointer (some ⟨bb, oo + (j0 + 1) * 5, none⟩))) 8 = .int .i64 ((j0 + 1 : Nat) : Int) from ⟨e7, e8⟩)
            clear hK hC hW hL HV s0
            rw [HFR.out]
            rw [e7, e8]
            clear e7 e8
            clear hB
            go_wp2_with fail
            show K _ _
            have := H.out _ (Ext.refl _)
            rw [HFR.out] at this
            obtain ⟨u7, u8⟩ := HU.out
            rw [u7, u8] at this
            exact this
          · rintro L A W K hL hC hW ⟨V, rfl, HV, s0⟩ hK
            have e9 : V 9 = .pointer (some ⟨bb, oo + (j0 + 1) * 5, none⟩) := HV 9 _ rfl (hW 9 rfl)
            have hB := s0
            have H := Lib.hid (show ∀ W', Ext W W' → K (fr (upd V 10 (.agg (cS q)))) W' from fun W' he => hK _ _ ⟨upd V 10 (.agg (cS q)), rfl, HV.up 10 _ (fun x hx => Option.some.inj hx), AxC.ext s0 he⟩)
            have HU := Lib.hid (show (upd V 10 (.agg (cS q))) 9 = .pointer (some ⟨bb, oo + (j0 + 1) * 5, none⟩) from e9)
            clear hK hC hW hL HV s0
            rw [HFR.out]
            rw [e9]
            clear e9
            have HWD := Lib.hid (rangeK_ext HQ.out hB.2)
            clear hB
            refine wpList_loadS rfl (.tmp 41) rfl bb (oo + (j0 + 1) * 5) q rfl HWD.out ?_
            show K _ _
            have := H.out _ (Ext.refl _)
            rw [HFR.out] at this
            obtain u9 := HU.out
            rw [u9] at this
            exact this
          · rintro L A W K hL hC hW ⟨V, rfl, HV, s0⟩ hK
            have e5 : V 5 = .agg (cS p) := HV 5 _ rfl (hW 5 rfl)
            have e10 : V 10 = .agg (cS q) := HV 10 _ rfl (hW 10 rfl)
            have hB := s0
            have H := Lib.hid (show ∀ W', Ext W W' → K (fr (upd V 11 (.bool (decide (p.cod < q.cod))))) W' from fun W' he => hK _ _ ⟨upd V 11 (.bool (decide (p.cod < q.cod))), rfl, HV.up 11 _ (fun x hx => Option.some.inj hx), AxC.ext s0 he⟩)
            have HU := Lib.hid (show (upd V 11 (.bool (decide (p.cod < q.cod)))) 5 = .agg (cS p) ∧ (upd V 11 (.bool (decide (p.cod < q.cod)))) 10 = .agg (cS q) from ⟨e5, e10⟩)
            clear hK hC hW hL HV s0
            rw [HFR.out]
            rw [e5, e10]
            clear e5 e10
            clear hB
            go_wp2_with fail
            refine (refBefore_any p q _ HPO.out HQO.out).mono ?_
            rintro e wx ⟨rfl, he⟩
            have := H.out _ he
            clear H
            go_wp2_with fail
            show K _ _
            rw [HFR.out] at this
            obtain ⟨u5, u10⟩ := HU.out
            rw [u5, u10] at this
            exact this
          · rintro L A W K hL hC hW ⟨V, rfl, HV, s0⟩ hK
            have e11 : V 11 = .bool (decide (p.cod < q.cod)) := HV 11 _ rfl (hW 11 rfl)
            have H := Lib.hid (show ∀ W', Ext W W' → K (fr (upd V 12 (.bool (!decide (p.cod < q.cod))))) W' from fun W' he => hK _ _ ⟨upd V 12 (.bool (!decide (p.cod < q.cod))), rfl, HV.up 12 _ (fun x hx => Option.some.inj hx), AxC.ext s0 he⟩)
            have HU := Lib.hid (show (upd V 12 (.bool (!decide (p.cod < q.cod)))) 11 = .bool (decide (p.cod < q.cod)) from e11)
            clear hK hC hW hL HV s0
            rw [HFR.out]
            rw [e11]
            clear e11
            go_wp2_with fail
            show K _ _
            have := H.out _ (Ext.refl _)
            rw [HFR.out] at this
            obtain u11 := HU.out
            rw [u11] at this
            exact this
          · rintro L A W hL ⟨V, rfl, HV, s0⟩
            have e0 : V 0 = .pointer (some ⟨g1, 1, none⟩) := HV 0 _ rfl (hL 0 (by simp))
            have e1 : V 1 = .slice (some ⟨bb, oo, none⟩) x.s.length c2 := HV 1 _ rfl (hL 1 (by simp))
            have e2 : V 2 = .int .i64 ((j0 + 1 : Nat) : Int) := HV 2 _ rfl (hL 2 (by simp))
            have e3 : V 3 = .int .i64 (j0 : Nat) := HV 3 _ rfl (hL 3 (by simp))
            have e4 : V 4 = .pointer (some ⟨bb, oo + j0 * 5, none⟩) := HV 4 _ rfl (hL 4 (by simp))
            have e5 : V 5 = .agg (cS p) := HV 5 _ rfl (hL 5 (by simp))
            have e6 : V 6 = .pointer (some ⟨g1, 1, none⟩) := HV 6 _ rfl (hL 6 (by simp))
            have e7 : V 7 = .slice (some ⟨bb, oo, none⟩) x.s.length c2 := HV 7 _ rfl (hL 7 (by simp))
            have e8 : V 8 = .int .i64 ((j0 + 1 : Nat) : Int) := HV 8 _ rfl (hL 8 (by simp))
            have e9 : V 9 = .pointer (some ⟨bb, oo + (j0 + 1) * 5, none⟩) := HV 9 _ rfl (hL 9 (by simp))
            have e10 : V 10 = .agg (cS q) := HV 10 _ rfl (hL 10 (by simp))
            have e11 : V 11 = .bool (decide (p.cod < q.cod)) := HV 11 _ rfl (hL 11 (by simp))
            have e12 : V 12 = .bool (!decide (p.cod < q.cod)) := HV 12 _ rfl (hL 12 (by simp))
            have hA := s0
            rw [HFR.out]
            rw [e0, e1, e2, e3, e4, e5, e6, e7, e8, e9, e10, e11, e12]
            clear hL HV HFR e0 e1 e2 e3 e4 e5 e6 e7 e8 e9 e10 e11 e12 s0
            have HXN := Lib.hid (HJ.out.2.2.trans hA.2)
            have HXM := Lib.hid hA.1
            clear hA
            cases hrb : decide (p.cod < q.cod) with
            | false =>
              have HF := Lib.hid (HST.out (of_decide_eq_false hrb))
              clear hrb
              go_wp2_with fail
              refine bodyPost_ret (results_tmp rfl _ _ _) rfl ?_
              exact ⟨by rw [HF.out]; rfl, HXN.out⟩
            | true =>
              have HT := Lib.hid (HMO.out (of_decide_eq_true hrb))
              clear hrb
              go_wp2_with fail
              exact ⟨⟨j0 + 1, .inl (by omega), by go_num, Lib.hid ⟨HT.out, HXM.out, HXN.out⟩⟩, by simp [intOf]; omega⟩
        · have hd : decide (j0 + 1 < x.s.length) = false := decide_eq_false hlt
          have hd2 : decide (((j0 + 1 : Nat) : Int) < (x.s.length : Int)) = false := decide_eq_false (by omega)
          have hd3 : decide ((j0 : Int) + 1 < (x.s.length : Int)) = false := decide_eq_false (by omega)
          have HUS := Lib.hid (show ∀ m, m + 1 < x.s.length → (x.s.getD m pz0).cod < (x.s.getD (m + 1) pz0).cod from fun m hm => HJ.out.1 m (by omega))
          have HE2 := Lib.hid HJ.out.2.2
          have HC2 := Lib.hid HC.out
          clear HJ HC hk hlt
          go_wp2_with fail
          clear hd hd2 hd3 q1
          go_loopw [5] (fun iv wr => ∃ i0 : Nat, i0 ≤ x.p.length ∧ iv = .int .i64 (i0 : Nat) ∧ Hid (UpR x.p i0 ∧ (∀ i, i < i0 → (x.p.getD i pz0).val ≠ 0) ∧ Cs wr g1 26 #[.slice A1 x.a.length c1, .slice A2 x.s.length c2, .slice A3 x.p.length c3] ∧ Ext w wr)) (fun iv _ => x.p.length - (intOf iv).toNat)
          case atStart => exact ⟨0, by omega, rfl, Lib.hid ⟨UpR.zero _, fun i hi => absurd hi (by omega), HC2.out, HE2.out⟩⟩
          case round =>
            obtain ⟨i0, hk, rfl, HJ⟩ := hrel
            clear HC2 HE2
            have HC := Lib.hid HJ.out.2.2.1
            have q2 := HC.out.cell 2 _ rfl
            by_cases hlt : i0 < x.p.length
            · have hd : decide (i0 < x.p.length) = true := decide_eq_true hlt
              have hd2 : decide ((i0 : Int) < (x.p.length : Int)) = true := decide_eq_true (by omega)
              obtain ⟨bb, oo, rfl, hp1, hp2⟩ := (HX.out.2.2.ext HJ.out.2.2.2).at i0 (by omega)
              have HQQ := Lib.hid (fun m0 (h : i0 = m0 + 1) => (HX.out.2.2.ext HJ.out.2.2.2).at m0 (by omega))
              have HSV := Lib.hid (fun (h : (x.p.getD i0 pz0).val = 0) => right_no4 (nz_stop i0 hlt h))
              have HST := Lib.hid (fun m0 (e : i0 = m0 + 1) (h : ¬ (x.p.getD m0 pz0).cod < (x.p.getD (m0 + 1) pz0).cod) => right_no3 (rs_stop m0 (by omega) h))
              have HMV := Lib.hid (fun (h : (x.p.getD i0 pz0).val ≠ 0) => show ∀ i, i < i0 + 1 → (x.p.getD i pz0).val ≠ 0 from fun i hi => by
                rcases Nat.lt_or_ge i i0 with h' | h'
                · exact HJ.out.2.1 i h'
                · obtain rfl : i = i0 := by omega
                  exact h)
              have HMO := Lib.hid (fun m0 (e : i0 = m0 + 1) (h : (x.p.getD m0 pz0).cod < (x.p.getD (m0 + 1) pz0).cod) => show UpR x.p (i0 + 1) by subst e; exact HJ.out.1.more h)
              have HP := Lib.hid hp1
              have HPO := Lib.hid hp2
              have HPV := Lib.hid hp2.2.2
              have HXR := Lib.hid HJ.out.2.2.2
              clear hp1 hp2
              by_cases hv : (x.p.getD i0 pz0).val = 0
              · have HF := Lib.hid (HSV.out hv)
                generalize x.p.getD i0 pz0 = p at *
                have HZ := Lib.hid (show (p.val == 0) = true by rw [beq_iff_eq]; exact hv)
                clear hv HQQ HSV HST HMV HMO
                go_upto_region 14 with fail
                refine wp_named fun a0 ha0 => ?_
                obtain ⟨fr, hfr⟩ : ∃ fr : (Nat → Value) → Act, ∀ V, fr V = (((((((((((((((((((((((((((((a0.put (some 52) (V 0)).put (some 53) (V 1)).put (some 54) (V 2)).put (some 55) (V 3)).put (some 56) (V 4)).put (some 57) (V 5)).put (some 58) (V 6)).put (some 59) (V 7)).put (some 60) (V 8)).put (some 61) (V 9)).put (some 62) (V 10)).put (some 63) (V 11)).put (some 64) (V 12)).put (some 65) (V 13)).put (some 66) (V 14)).put (some 67) (V 15)).put (some 68) (V 16)).put (some 69) (V 17)).put (some 70) (V 18)).put (some 71) (V 19)).put (some 72) (V 20)).put (some 73) (V 21)).put (some 74) (V 22)).put (some 75) (V 23)).put (some 76) (V 24)).put (some 77) (V 25)).put (some 78) (V 26)).put (some 79) (V 27)).put (some 80) (V 28)) := ⟨fun V => (((((((((((((((((((((((((((((a0.put (some 52) (V 0)).put (some 53) (V 1)).put (some 54) (V 2)).put (some 55) (V 3)).put (some 56) (V 4)).put (some 57) (V 5)).put (some 58) (V 6)).put (some 59) (V 7)).put (some 60) (V 8)).put (some 61) (V 9)).put (some 62) (V 10)).put (some 63) (V 11)).put (some 64) (V 12)).put (some 65) (V 13)).put (some 66) (V 14)).put (some 67) (V 15)).put (some 68) (V 16)).put (some 69) (V 17)).put (some 70) (V 18)).put (some 71) (V 19)).put (some 72) (V 20)).put (some 73) (V 21)).put (some 74) (V 22)).put (some 75) (V 23)).put (some 76) (V 24)).put (some 77) (V 25)).put (some 78) (V 26)).put (some 79) (V 27)).put (some 80) (V 28)), fun _ => rfl⟩
                rw [ha0] at hfr
                simp only [Act.put, List.setIfInBounds_toArray, List.set_cons_zero, List.set_cons_succ] at hfr
                have HFR := Lib.hid hfr
                clear hfr
                refine wp_region_inv (by kernel_rfl) (by kernel_rfl) (fun L A W => ∃ V : Nat → Value, A = fr V ∧ Vals (fun j => ([some (.pointer (some ⟨g1, 2, none⟩)), some (.slice (some ⟨bb, oo, none⟩) x.p.length c3), some (.int .i64 (i0 : Nat)), some (.pointer (some ⟨bb, oo + i0 * 9, none⟩)), some (.pointer (some ⟨bb, oo + i0 * 9 + 5, none⟩)), some (wv p.val), some (wv 0), some (.bool true), some (.bool true), some (undef), some (undef), some (undef), some (undef), some (undef), some (undef), some (undef), some (undef), some (undef), some (undef), some (undef), some (undef), some (undef), some (undef), some (undef), some (undef), some (undef), some (undef), some (undef), some (.bool true)] : List (Option Value)).getD j none) L V ∧ (Cs W g1 26 #[.slice A1 x.a.length c1, .slice A2 x.s.length c2, .slice (some ⟨bb, oo, none⟩) x.p.length c3] ∧ Ext wr W)) ?_ ⟨?_, ?_, ?_, ?_, ?_, ?_, ?_, ?_, ?_, ?_, ?_, ?_, ?_, ?_, ?_, ?_, ?_, ?_, ?_, ?_, ?_, ?_, ?_, ?_, ?_, ?_, ?_, ?_, ?_, trivial⟩ ?_
                · refine ⟨fun j => a0.tmps.getD (([52, 53, 54, 55, 56, 57, 58, 59, 60, 61, 62, 63, 64, 65, 66, 67, 68, 69, 70, 71, 72, 73, 74, 75, 76, 77, 78, 79, 80] : List Nat).getD j 0) undef, ?_, Vals.no _ _ _ (far_none _ _ rfl), ⟨Cs.ext HC.out (Ext.refl _).drew, (Ext.refl _).drew⟩⟩
                  rw [HFR.out, ha0]
                  rfl
                all_goals clear ha0
                · rintro L A W K hL hC hW ⟨V, rfl, HV, s0⟩ hK
                  have H := Lib.hid (show ∀ W', Ext W W' → K (fr (upd V 0 (.pointer (some ⟨g1, 2, none⟩)))) W' from fun W' he => hK _ _ ⟨upd V 0 (.pointer (some ⟨g1, 2, none⟩)), rfl, HV.up 0 _ (fun x hx => Option.some.inj hx), AxC.ext s0 he⟩)
                  clear hK hC hW hL HV s0
                  rw [HFR.out]
                  go_wp2_with fail
                  show K _ _
                  have := H.out _ (Ext.refl _)
                  rw [HFR.out] at this
                  exact this
                · rintro L A W K hL hC hW ⟨V, rfl, HV, s0⟩ hK
                  have e0 : V 0 = .pointer (some ⟨g1, 2, none⟩) := HV 0 _ rfl (hW 0 rfl)
                  have hB := s0
                  have H := Lib.hid (show ∀ W', Ext W W' → K (fr (upd V 1 (.slice (some ⟨bb, oo, none⟩) x.p.length c3))) W' from fun W' he => hK _ _ ⟨upd V 1 (.slice (some ⟨bb, oo, none⟩) x.p.length c3), rfl, HV.up 1 _ (fun x hx => Option.some.inj hx), AxC.ext s0 he⟩)
                  have HU := Lib.hid (show (upd V 1 (.slice (some ⟨bb, oo, none⟩) x.p.length c3)) 0 = .pointer (some ⟨g1, 2, none⟩) from e0)
                  clear hK hC hW hL HV s0
                  rw [HFR.out]
                  rw [e0]
                  clear e0
                  have qq := hB.1.cell 2 _ rfl
                  clear hB
                  go_wp2_with fail
                  show K _ _
                  have := H.out _ (Ext.refl _)
                  rw [HFR.out] at this
                  obtain u0 := HU.out
                  rw [u0] at this
                  exact this
                · rintro L A W K hL hC hW ⟨V, rfl, HV, s0⟩ hK
                  have H := Lib.hid (show ∀ W', Ext W W' → K (fr (upd V 2 (.int .i64 (i0 : Nat)))) W' from fun W' he => hK _ _ ⟨upd V 2 (.int .i64 (i0 : Nat)), rfl, HV.up 2 _ (fun x hx => Option.some.inj hx), AxC.ext s0 he⟩)
                  clear hK hC hW hL HV s0
                  rw [HFR.out]
                  go_wp2_with fail
                  show K _ _
                  have := H.out _ (Ext.refl _)
                  rw [HFR.out] at this
                  exact this
                · rintro L A W K hL hC hW ⟨V, rfl, HV, s0⟩ hK
                  have e1 : V 1 = .slice (some ⟨bb, oo, none⟩) x.p.length c3 := HV 1 _ rfl (hW 1 rfl)
                  have e2 : V 2 = .int .i64 (i0 : Nat) := HV 2 _ rfl (hW 2 rfl)
                  have hB := s0
                  have H := Lib.hid (show ∀ W', Ext W W' → K (fr (upd V 3 (.pointer (some ⟨bb, oo + i0 * 9, none⟩)))) W' from fun W' he => hK _ _ ⟨upd V 3 (.pointer (some ⟨bb, oo + i0 * 9, none⟩)), rfl, HV.up 3 _ (fun x hx => Option.some.inj hx), AxC.ext s0 he⟩)
                  have HU := Lib.hid (show (upd V 3 (.pointer (some ⟨bb, oo + i0 * 9, none⟩))) 1 = .slice (some ⟨bb, oo, none⟩) x.p.length c3 ∧ (upd V 3 (.pointer (some ⟨bb, oo + i0 * 9, none⟩))) 2 = .int .i64 (i0 : Nat) from ⟨e1, e2⟩)
                  clear hK hC hW hL HV s0
                  rw [HFR.out]
                  rw [e1, e2]
                  clear e1 e2
                  clear hB
                  go_wp2_with fail
                  show K _ _
                  have := H.out _ (Ext.refl _)
                  rw [HFR.out] at this
                  obtain ⟨u1, u2⟩ := HU.out
                  rw [u1, u2] at this
                  exact this
                · rintro L A W K hL hC hW ⟨V, rfl, HV, s0⟩ hK
                  have e3 : V 3 = .pointer (some ⟨bb, oo + i0 * 9, none⟩) := HV 3 _ rfl (hW 3 rfl)
                  have H := Lib.hid (show ∀ W', Ext W W' → K (fr (upd V 4 (.pointer (some ⟨bb, oo + i0 * 9 + 5, none⟩)))) W' from fun W' he => hK _ _ ⟨upd V 4 (.pointer (some ⟨bb, oo + i0 * 9 + 5, none⟩)), rfl, HV.up 4 _ (fun x hx => Option.some.inj hx), AxC.ext s0 he⟩)
                  have HU := Lib.hid (show (upd V 4 (.pointer (some ⟨bb, oo + i0 * 9 + 5, none⟩))) 3 = .pointer (some ⟨bb, oo + i0 * 9, none⟩) from e3)
                  clear hK hC hW hL HV s0
                  rw [HFR.out]
                  rw [e3]
                  clear e3
                  go_wp2_with fail
                  show K _ _
                  have := H.out _ (Ext.refl _)
                  rw [HFR.out] at this
                  obtain u3 := HU.out
                  rw [u3] at this
                  exact this
                · rintro L A W K hL hC hW ⟨V, rfl, HV, s0⟩ hK
                  have e4 : V 4 = .pointer (some ⟨bb, oo + i0 * 9 + 5, none⟩) := HV 4 _ rfl (hW 4 rfl)
                  have hB := s0
                  have H := Lib.hid (show ∀ W', Ext W W' → K (fr (upd V 5 (wv p.val))) W' from fun W' he => hK _ _ ⟨upd V 5 (wv p.val), rfl, HV.up 5 _ (fun x hx => Option.some.inj hx), AxC.ext s0 he⟩)
                  have HU := Lib.hid (show (upd V 5 (wv p.val)) 4 = .pointer (some ⟨bb, oo + i0 * 9 + 5, none⟩) from e4)
                  clear hK hC hW hL HV s0
                  rw [HFR.out]
                  rw [e4]
                  clear e4
                  have HWD := Lib.hid (cP_val (rangeK_ext HP.out hB.2))
                  clear hB
                  refine wpList_load_wordIn rfl (.tmp 56) rfl bb (oo + i0 * 9 + 5) p.val rfl HWD.out ?_
                  show K _ _
                  have := H.out _ (Ext.refl _)
                  rw [HFR.out] at this
                  obtain u4 := HU.out
                  rw [u4] at this
                  exact this
                · rintro L A W K hL hC hW ⟨V, rfl, HV, s0⟩ hK
                  have H := Lib.hid (show ∀ W', Ext W W' → K (fr (upd V 6 (wv 0))) W' from fun W' he => hK _ _ ⟨upd V 6 (wv 0), rfl, HV.up 6 _ (fun x hx => Option.some.inj hx), AxC.ext s0 he⟩)
                  clear hK hC hW hL HV s0
                  rw [HFR.out]
                  go_wp2_with fail
                  show K _ _
                  have := H.out _ (Ext.refl _)
                  rw [HFR.out] at this
                  exact this
                · rintro L A W K hL hC hW ⟨V, rfl, HV, s0⟩ hK
                  have e5 : V 5 = wv p.val := HV 5 _ rfl (hW 5 rfl)
                  have e6 : V 6 = wv 0 := HV 6 _ rfl (hW 6 rfl)
                  have hB := s0
                  have H := Lib.hid (show ∀ W', Ext W W' → K (fr (upd V 7 (.bool true))) W' from fun W' he => hK _ _ ⟨upd V 7 (.bool true), rfl, HV.up 7 _ (fun x hx => Option.some.inj hx), AxC.ext s0 he⟩)
                  have HU := Lib.hid (show (upd V 7 (.bool true)) 5 = wv p.val ∧ (upd V 7 (.bool true)) 6 = wv 0 from ⟨e5, e6⟩)
                  clear hK hC hW hL HV s0
                  rw [HFR.out]
                  rw [e5, e6]
                  clear e5 e6
                  refine wpList_eql_word rfl (.tmp 57) (.tmp 58) rfl p.val 0 HPV.out (by decide) rfl rfl ?_
                  rw [HZ.out]
                  show K _ _
                  have := H.out _ (Ext.refl _)
                  rw [HFR.out] at this
                  obtain ⟨u5, u6⟩ := HU.out
                  rw [u5, u6] at this
                  exact this
                · rintro L A W K hL hC hW ⟨V, rfl, HV, s0⟩ hK
                  have e7 : V 7 = .bool true := HV 7 _ rfl (hW 7 rfl)
                  have H := Lib.hid (show ∀ W', Ext W W' → K (fr (upd V 8 (.bool true))) W' from fun W' he => hK _ _ ⟨upd V 8 (.bool true), rfl, HV.up 8 _ (fun x hx => Option.some.inj hx), AxC.ext s0 he⟩)
                  have HU := Lib.hid (show (upd V 8 (.bool true)) 7 = .bool true from e7)
                  clear hK hC hW hL HV s0
                  rw [HFR.out]
                  rw [e7]
                  clear e7
                  go_wp2_with fail
                  show K _ _
                  have := H.out _ (Ext.refl _)
                  rw [HFR.out] at this
                  obtain u7 := HU.out
                  rw [u7] at this
                  exact this
                · rintro L A W K hL hC hW ⟨V, rfl, HV, s0⟩ hK
                  have e8 : V 8 = .bool true := HV 8 _ rfl (hW 8 rfl)
                  have H := Lib.hid (show ∀ W', Ext W W' → K (fr (upd V 9 (undef))) W' from fun W' he => hK _ _ ⟨upd V 9 (undef), rfl, HV.up 9 _ (fun x hx => Option.some.inj hx), AxC.ext s0 he⟩)
                  have HU := Lib.hid (show (upd V 9 (undef)) 8 = .bool true from e8)
                  clear hK hC hW hL HV s0
                  rw [HFR.out]
                  rw [e8]
                  clear e8
                  go_wp2_with fail
                  show K _ _
                  have := H.out _ (Ext.refl _)
                  rw [HFR.out] at this
                  obtain u8 := HU.out
                  rw [u8] at this
                  exact this
                · rintro L A W K hL hC hW ⟨V, rfl, HV, s0⟩ hK
                  have e8 : V 8 = .bool true := HV 8 _ rfl (hW 8 rfl)
                  have e9 : V 9 = undef := HV 9 _ rfl (hW 9 rfl)
                  have H := Lib.hid (show ∀ W', Ext W W' → K (fr (upd V 10 (undef))) W' from fun W' he => hK _ _ ⟨upd V 10 (undef), rfl, HV.up 10 _ (fun x hx => Option.some.inj hx), AxC.ext s0 he⟩)
                  have HU := Lib.hid (show (upd V 10 (undef)) 8 = .bool true ∧ (upd V 10 (undef)) 9 = undef from ⟨e8, e9⟩)
                  clear hK hC hW hL HV s0
                  rw [HFR.out]
                  rw [e8, e9]
                  clear e8 e9
                  go_wp2_with fail
                  show K _ _
                  have := H.out _ (Ext.refl _)
                  rw [HFR.out] at this
                  obtain ⟨u8, u9⟩ := HU.out
                  rw [u8, u9] at this
                  exact this
                · rintro L A W K hL hC hW ⟨V, rfl, HV, s0⟩ hK
                  have e8 : V 8 = .bool true := HV 8 _ rfl (hW 8 rfl)
                  have e10 : V 10 = undef := HV 10 _ rfl (hW 10 rfl)
                  have H := Lib.hid (show ∀ W', Ext W W' → K (fr (upd V 11 (undef))) W' from fun W' he => hK _ _ ⟨upd V 11 (undef), rfl, HV.up 11 _ (fun x hx => Option.some.inj hx), AxC.ext s0 he⟩)
                  have HU := Lib.hid (show (upd V 11 (undef)) 8 = .bool true ∧ (upd V 11 (undef)) 10 = undef from ⟨e8, e10⟩)
                  clear hK hC hW hL HV s0
                  rw [HFR.out]
                  rw [e8, e10]
                  clear e8 e10
                  go_wp2_with fail
                  show K _ _
                  have := H.out _ (Ext.refl _)
                  rw [HFR.out] at this
                  obtain ⟨u8, u10⟩ := HU.out
                  rw [u8, u10] at this
                  exact this
                · rintro L A W K hL hC hW ⟨V, rfl, HV, s0⟩ hK
                  have e11 : V 11 = undef := HV 11 _ rfl (hW 11 rfl)
                  have H := Lib.hid (show ∀ W', Ext W W' → K (fr (upd V 12 (undef))) W' from fun W' he => hK _ _ ⟨upd V 12 (undef), rfl, HV.up 12 _ (fun x hx => Option.some.inj hx), AxC.ext s0 he⟩)
                  have HU := Lib.hid (show (upd V 12 (undef)) 11 = undef from e11)
                  clear hK hC hW hL HV s0
                  rw [HFR.out]
                  rw [e11]
                  clear e11
                  go_wp2_with fail
                  show K _ _
                  have := H.out _ (Ext.refl _)
                  rw [HFR.out] at this
                  obtain u11 := HU.out
                  rw [u11] at this
                  exact this
                · rintro L A W K hL hC hW ⟨V, rfl, HV, s0⟩ hK
                  have e11 : V 11 = undef := HV 11 _ rfl (hW 11 rfl)
                  have e12 : V 12 = undef := HV 12 _ rfl (hW 12 rfl)
                  have H := Lib.hid (show ∀ W', Ext W W' → K (fr (upd V 13 (undef))) W' from fun W' he => hK _ _ ⟨upd V 13 (undef), rfl, HV.up 13 _ (fun x hx => Option.some.inj hx), AxC.ext s0 he⟩)
                  have HU := Lib.hid (show (upd V 13 (undef)) 11 = undef ∧ (upd V 13 (undef)) 12 = undef from ⟨e11, e12⟩)
                  clear hK hC hW hL HV s0
                  rw [HFR.out]
                  rw [e11, e12]
                  clear e11 e12
                  go_wp2_with fail
                  show K _ _
                  have := H.out _ (Ext.refl _)
                  rw [HFR.out] at this
                  obtain ⟨u11, u12⟩ := HU.out
                  rw [u11, u12] at this
                  exact this
                · rintro L A W K hL hC hW ⟨V, rfl, HV, s0⟩ hK
                  have e11 : V 11 = undef := HV 11 _ rfl (hW 11 rfl)
                  have H := Lib.hid (show ∀ W', Ext W W' → K (fr (upd V 14 (undef))) W' from fun W' he => hK _ _ ⟨upd V 14 (undef), rfl, HV.up 14 _ (fun x hx => Option.some.inj hx), AxC.ext s0 he⟩)
                  have HU := Lib.hid (show (upd V 14 (undef)) 11 = undef from e11)
                  clear hK hC hW hL HV s0
                  rw [HFR.out]
                  rw [e11]
                  clear e11
                  go_wp2_with fail
                  show K _ _
                  have := H.out _ (Ext.refl _)
                  rw [HFR.out] at this
                  obtain u11 := HU.out
                  rw [u11] at this
                  exact this
                · rintro L A W K hL hC hW ⟨V, rfl, HV, s0⟩ hK
                  have e11 : V 11 = undef := HV 11 _ rfl (hW 11 rfl)
                  have e14 : V 14 = undef := HV 14 _ rfl (hW 14 rfl)
                  have H := Lib.hid (show ∀ W', Ext W W' → K (fr (upd V 15 (undef))) W' from fun W' he => hK _ _ ⟨upd V 15 (undef), rfl, HV.up 15 _ (fun x hx => Option.some.inj hx), AxC.ext s0 he⟩)
                  have HU := Lib.hid (show (upd V 15 (undef)) 11 = undef ∧ (upd V 15 (undef)) 14 = undef from ⟨e11, e14⟩)
                  clear hK hC hW hL HV s0
                  rw [HFR.out]
                  rw [e11, e14]
                  clear e11 e14
                  go_wp2_with fail
                  show K _ _
                  have := H.out _ (Ext.refl _)
                  rw [HFR.out] at this
                  obtain ⟨u11, u14⟩ := HU.out
                  rw [u11, u14] at this
                  exact this
                · rintro L A W K hL hC hW ⟨V, rfl, HV, s0⟩ hK
                  have e11 : V 11 = undef := HV 11 _ rfl (hW 11 rfl)
                  have e13 : V 13 = undef := HV 13 _ rfl (hW 13 rfl)
                  have e15 : V 15 = undef := HV 15 _ rfl (hW 15 rfl)
                  have H := Lib.hid (show ∀ W', Ext W W' → K (fr (upd V 16 (undef))) W' from fun W' he => hK _ _ ⟨upd V 16 (undef), rfl, HV.up 16 _ (fun x hx => Option.some.inj hx), AxC.ext s0 he⟩)
                  have HU := Lib.hid (show (upd V 16 (undef)) 11 = undef ∧ (upd V 16 (undef)) 13 = undef ∧ (upd V 16 (undef)) 15 = undef from ⟨e11, e13, e15⟩)
                  clear hK hC hW hL HV s0
                  rw [HFR.out]
                  rw [e11, e13, e15]
                  clear e11 e13 e15
                  go_wp2_with fail
                  show K _ _
                  have := H.out _ (Ext.refl _)
                  rw [HFR.out] at this
                  obtain ⟨u11, u13, u15⟩ := HU.out
                  rw [u11, u13, u15] at this
                  exact this
                · rintro L A W K hL hC hW ⟨V, rfl, HV, s0⟩ hK
                  have e11 : V 11 = undef := HV 11 _ rfl (hW 11 rfl)
                  have e16 : V 16 = undef := HV 16 _ rfl (hW 16 rfl)
                  have H := Lib.hid (show ∀ W', Ext W W' → K (fr (upd V 17 (undef))) W' from fun W' he => hK _ _ ⟨upd V 17 (undef), rfl, HV.up 17 _ (fun x hx => Option.some.inj hx), AxC.ext s0 he⟩)
                  have HU := Lib.hid (show (upd V 17 (undef)) 11 = undef ∧ (upd V 17 (undef)) 16 = undef from ⟨e11, e16⟩)
                  clear hK hC hW hL HV s0
                  rw [HFR.out]
                  rw [e11, e16]
                  clear e11 e16
                  go_wp2_with fail
                  show K _ _
                  have := H.out _ (Ext.refl _)
                  rw [HFR.out] at this
                  obtain ⟨u11, u16⟩ := HU.out
                  rw [u11, u16] at this
                  exact this
                · rintro L A W K hL hC hW ⟨V, rfl, HV, s0⟩ hK
                  have e11 : V 11 = undef := HV 11 _ rfl (hW 11 rfl)
                  have e17 : V 17 = undef := HV 17 _ rfl (hW 17 rfl)
                  have H := Lib.hid (show ∀ W', Ext W W' → K (fr (upd V 18 (undef))) W' from fun W' he => hK _ _ ⟨upd V 18 (undef), rfl, HV.up 18 _ (fun x hx => Option.some.inj hx), AxC.ext s0 he⟩)
                  have HU := Lib.hid (show (upd V 18 (undef)) 11 = undef ∧ (upd V 18 (undef)) 17 = undef from ⟨e11, e17⟩)
                  clear hK hC hW hL HV s0
                  rw [HFR.out]
                  rw [e11, e17]
                  clear e11 e17
                  go_wp2_with fail
                  show K _ _
                  have := H.out _ (Ext.refl _)
                  rw [HFR.out] at this
                  obtain ⟨u11, u17⟩ := HU.out
                  rw [u11, u17] at this
                  exact this
                · rintro L A W K hL hC hW ⟨V, rfl, HV, s0⟩ hK
                  have e11 : V 11 = undef := HV 11 _ rfl (hW 11 rfl)
                  have H := Lib.hid (show ∀ W', Ext W W' → K (fr (upd V 19 (undef))) W' from fun W' he => hK _ _ ⟨upd V 19 (undef), rfl, HV.up 19 _ (fun x hx => Option.some.inj hx), AxC.ext s0 he⟩)
                  have HU := Lib.hid (show (upd V 19 (undef)) 11 = undef from e11)
                  clear hK hC hW hL HV s0
                  rw [HFR.out]
                  rw [e11]
                  clear e11
                  go_wp2_with fail
                  show K _ _
                  have := H.out _ (Ext.refl _)
                  rw [HFR.out] at this
                  obtain u11 := HU.out
                  rw [u11] at this
                  exact this
                · rintro L A W K hL hC hW ⟨V, rfl, HV, s0⟩ hK
                  have e11 : V 11 = undef := HV 11 _ rfl (hW 11 rfl)
                  have e19 : V 19 = undef := HV 19 _ rfl (hW 19 rfl)
                  have H := Lib.hid (show ∀ W', Ext W W' → K (fr (upd V 20 (undef))) W' from fun W' he => hK _ _ ⟨upd V 20 (undef), rfl, HV.up 20 _ (fun x hx => Option.some.inj hx), AxC.ext s0 he⟩)
                  have HU := Lib.hid (show (upd V 20 (undef)) 11 = undef ∧ (upd V 20 (undef)) 19 = undef from ⟨e11, e19⟩)
                  clear hK hC hW hL HV s0
                  rw [HFR.out]
                  rw [e11, e19]
                  clear e11 e19
                  go_wp2_with fail
                  show K _ _
                  have := H.out _ (Ext.refl _)
                  rw [HFR.out] at this
                  obtain ⟨u11, u19⟩ := HU.out
                  rw [u11, u19] at this
                  exact this
                · rintro L A W K hL hC hW ⟨V, rfl, HV, s0⟩ hK
                  have e11 : V 11 = undef := HV 11 _ rfl (hW 11 rfl)
                  have H := Lib.hid (show ∀ W', Ext W W' → K (fr (upd V 21 (undef))) W' from fun W' he => hK _ _ ⟨upd V 21 (undef), rfl, HV.up 21 _ (fun x hx => Option.some.inj hx), AxC.ext s0 he⟩)
                  have HU := Lib.hid (show (upd V 21 (undef)) 11 = undef from e11)
                  clear hK hC hW hL HV s0
                  rw [HFR.out]
                  rw [e11]
                  clear e11
                  go_wp2_with fail
                  show K _ _
                  have := H.out _ (Ext.refl _)
                  rw [HFR.out] at this
                  obtain u11 := HU.out
                  rw [u11] at this
                  exact this
                · rintro L A W K hL hC hW ⟨V, rfl, HV, s0⟩ hK
                  have e11 : V 11 = undef := HV 11 _ rfl (hW 11 rfl)
                  have e20 : V 20 = undef := HV 20 _ rfl (hW 20 rfl)
                  have e21 : V 21 = undef := HV 21 _ rfl (hW 21 rfl)
                  have H := Lib.hid (show ∀ W', Ext W W' → K (fr (upd V 22 (undef))) W' from fun W' he => hK _ _ ⟨upd V 22 (undef), rfl, HV.up 22 _ (fun x hx => Option.some.inj hx), AxC.ext s0 he⟩)
                  have HU := Lib.hid (show (upd V 22 (undef)) 11 = undef ∧ (upd V 22 (undef)) 20 = undef ∧ (upd V 22 (undef)) 21 = undef from ⟨e11, e20, e21⟩)
                  clear hK hC hW hL HV s0
                  rw [HFR.out]
                  rw [e11, e20, e21]
                  clear e11 e20 e21
                  go_wp2_with fail
                  show K _ _
                  have := H.out _ (Ext.refl _)
                  rw [HFR.out] at this
                  obtain ⟨u11, u20, u21⟩ := HU.out
                  rw [u11, u20, u21] at this
                  exact this
                · rintro L A W K hL hC hW ⟨V, rfl, HV, s0⟩ hK
                  have e11 : V 11 = undef := HV 11 _ rfl (hW 11 rfl)
                  have e22 : V 22 = undef := HV 22 _ rfl (hW 22 rfl)
                  have H := Lib.hid (show ∀ W', Ext W W' → K (fr (upd V 23 (undef))) W' from fun W' he => hK _ _ ⟨upd V 23 (undef), rfl, HV.up 23 _ (fun x hx => Option.some.inj hx), AxC.ext s0 he⟩)
                  have HU := Lib.hid (show (upd V 23 (undef)) 11 = undef ∧ (upd V 23 (undef)) 22 = undef from ⟨e11, e22⟩)
                  clear hK hC hW hL HV s0
                  rw [HFR.out]
                  rw [e11, e22]
                  clear e11 e22
                  go_wp2_with fail
                  show K _ _
                  have := H.out _ (Ext.refl _)
                  rw [HFR.out] at this
                  obtain ⟨u11, u22⟩ := HU.out
                  rw [u11, u22] at this
                  exact this
                · rintro L A W K hL hC hW ⟨V, rfl, HV, s0⟩ hK
                  have e11 : V 11 = undef := HV 11 _ rfl (hW 11 rfl)
                  have e23 : V 23 = undef := HV 23 _ rfl (hW 23 rfl)
                  have H := Lib.hid (show ∀ W', Ext W W' → K (fr (upd V 24 (undef))) W' from fun W' he => hK _ _ ⟨upd V 24 (undef), rfl, HV.up 24 _ (fun x hx => Option.some.inj hx), AxC.ext s0 he⟩)
                  have HU := Lib.hid (show (upd V 24 (undef)) 11 = undef ∧ (upd V 24 (undef)) 23 = undef from ⟨e11, e23⟩)
                  clear hK hC hW hL HV s0
                  rw [HFR.out]
                  rw [e11, e23]
                  clear e11 e23
                  go_wp2_with fail
                  show K _ _
                  have := H.out _ (Ext.refl _)
                  rw [HFR.out] at this
                  obtain ⟨u11, u23⟩ := HU.out
                  rw [u11, u23] at this
                  exact this
                · rintro L A W K hL hC hW ⟨V, rfl, HV, s0⟩ hK
                  have e11 : V 11 = undef := HV 11 _ rfl (hW 11 rfl)
                  have e18 : V 18 = undef := HV 18 _ rfl (hW 18 rfl)
                  have e24 : V 24 = undef := HV 24 _ rfl (hW 24 rfl)
                  have H := Lib.hid (show ∀ W', Ext W W' → K (fr (upd V 25 (undef))) W' from fun W' he => hK _ _ ⟨upd V 25 (undef), rfl, HV.up 25 _ (fun x hx => Option.some.inj hx), AxC.ext s0 he⟩)
                  have HU := Lib.hid (show (upd V 25 (undef)) 11 = undef ∧ (upd V 25 (undef)) 18 = undef ∧ (upd V 25 (undef)) 24 = undef from ⟨e11, e18, e24⟩)
                  clear hK hC hW hL HV s0
                  rw [HFR.out]
                  rw [e11, e18, e24]
                  clear e11 e18 e24
                  go_wp2_with fail
                  show K _ _
                  have := H.out _ (Ext.refl _)
                  rw [HFR.out] at this
                  obtain ⟨u11, u18, u24⟩ := HU.out
                  rw [u11, u18, u24] at this
                  exact this
                · rintro L A W K hL hC hW ⟨V, rfl, HV, s0⟩ hK
                  have e11 : V 11 = undef := HV 11 _ rfl (hW 11 rfl)
                  have e25 : V 25 = undef := HV 25 _ rfl (hW 25 rfl)
                  have H := Lib.hid (show ∀ W', Ext W W' → K (fr (upd V 26 (undef))) W' from fun W' he => hK _ _ ⟨upd V 26 (undef), rfl, HV.up 26 _ (fun x hx => Option.some.inj hx), AxC.ext s0 he⟩)
                  have HU := Lib.hid (show (upd V 26 (undef)) 11 = undef ∧ (upd V 26 (undef)) 25 = undef from ⟨e11, e25⟩)
                  clear hK hC hW hL HV s0
                  rw [HFR.out]
                  rw [e11, e25]
                  clear e11 e25
                  go_wp2_with fail
                  show K _ _
                  have := H.out _ (Ext.refl _)
                  rw [HFR.out] at this
                  obtain ⟨u11, u25⟩ := HU.out
                  rw [u11, u25] at this
                  exact this
                · rintro L A W K hL hC hW ⟨V, rfl, HV, s0⟩ hK
                  have e8 : V 8 = .bool true := HV 8 _ rfl (hW 8 rfl)
                  have e11 : V 11 = undef := HV 11 _ rfl (hW 11 rfl)
                  have e26 : V 26 = undef := HV 26 _ rfl (hW 26 rfl)
                  have H := Lib.hid (show ∀ W', Ext W W' → K (fr (upd V 27 (undef))) W' from fun W' he => hK _ _ ⟨upd V 27 (undef), rfl, HV.up 27 _ (fun x hx => Option.some.inj hx), AxC.ext s0 he⟩)
                  have HU := Lib.hid (show (upd V 27 (undef)) 8 = .bool true ∧ (upd V 27 (undef)) 11 = undef ∧ (upd V 27 (undef)) 26 = undef from ⟨e8, e11, e26⟩)
                  clear hK hC hW hL HV s0
                  rw [HFR.out]
                  rw [e8, e11, e26]
                  clear e8 e11 e26
                  go_wp2_with fail
                  show K _ _
                  have := H.out _ (Ext.refl _)
                  rw [HFR.out] at this
                  obtain ⟨u8, u11, u26⟩ := HU.out
                  rw [u8, u11, u26] at this
                  exact this
                · rintro L A W K hL hC hW ⟨V, rfl, HV, s0⟩ hK
                  have e8 : V 8 = .bool true := HV 8 _ rfl (hW 8 rfl)
                  have e27 : V 27 = undef := HV 27 _ rfl (hW 27 rfl)
                  have H := Lib.hid (show ∀ W', Ext W W' → K (fr (upd V 28 (.bool true))) W' from fun W' he => hK _ _ ⟨upd V 28 (.bool true), rfl, HV.up 28 _ (fun x hx => Option.some.inj hx), AxC.ext s0 he⟩)
                  have HU := Lib.hid (show (upd V 28 (.bool true)) 8 = .bool true ∧ (upd V 28 (.bool true)) 27 = undef from ⟨e8, e27⟩)
                  clear hK hC hW hL HV s0
                  rw [HFR.out]
                  rw [e8, e27]
                  clear e8 e27
                  go_wp2_with fail
                  show K _ _
                  have := H.out _ (Ext.refl _)
                  rw [HFR.out] at this
                  obtain ⟨u8, u27⟩ := HU.out
                  rw [u8, u27] at this
                  exact this
                · rintro L A W hL ⟨V, rfl, HV, s0⟩
                  have e0 : V 0 = .pointer (some ⟨g1, 2, none⟩) := HV 0 _ rfl (hL 0 (by simp))
                  have e1 : V 1 = .slice (some ⟨bb, oo, none⟩) x.p.length c3 := HV 1 _ rfl (hL 1 (by simp))
                  have e2 : V 2 = .int .i64 (i0 : Nat) := HV 2 _ rfl (hL 2 (by simp))
                  have e3 : V 3 = .pointer (some ⟨bb, oo + i0 * 9, none⟩) := HV 3 _ rfl (hL 3 (by simp))
                  have e4 : V 4 = .pointer (some ⟨bb, oo + i0 * 9 + 5, none⟩) := HV 4 _ rfl (hL 4 (by simp))
                  have e5 : V 5 = wv p.val := HV 5 _ rfl (hL 5 (by simp))
                  have e6 : V 6 = wv 0 := HV 6 _ rfl (hL 6 (by simp))
                  have e7 : V 7 = .bool true := HV 7 _ rfl (hL 7 (by simp))
                  have e8 : V 8 = .bool true := HV 8 _ rfl (hL 8 (by simp))
                  have e9 : V 9 = undef := HV 9 _ rfl (hL 9 (by simp))
                  have e10 : V 10 = undef := HV 10 _ rfl (hL 10 (by simp))
                  have e11 : V 11 = undef := HV 11 _ rfl (hL 11 (by simp))
                  have e12 : V 12 = undef := HV 12 _ rfl (hL 12 (by simp))
                  have e13 : V 13 = undef := HV 13 _ rfl (hL 13 (by simp))
                  have e14 : V 14 = undef := HV 14 _ rfl (hL 14 (by simp))
                  have e15 : V 15 = undef := HV 15 _ rfl (hL 15 (by simp))
                  have e16 : V 16 = undef := HV 16 _ rfl (hL 16 (by simp))
                  have e17 : V 17 = undef := HV 17 _ rfl (hL 17 (by simp))
                  have e18 : V 18 = undef := HV 18 _ rfl (hL 18 (by simp))
                  have e19 : V 19 = undef := HV 19 _ rfl (hL 19 (by simp))
                  have e20 : V 20 = undef := HV 20 _ rfl (hL 20 (by simp))
                  have e21 : V 21 = undef := HV 21 _ rfl (hL 21 (by simp))
                  have e22 : V 22 = undef := HV 22 _ rfl (hL 22 (by simp))
                  have e23 : V 23 = undef := HV 23 _ rfl (hL 23 (by simp))
                  have e24 : V 24 = undef := HV 24 _ rfl (hL 24 (by simp))
                  have e25 : V 25 = undef := HV 25 _ rfl (hL 25 (by simp))
                  have e26 : V 26 = undef := HV 26 _ rfl (hL 26 (by simp))
                  have e27 : V 27 = undef := HV 27 _ rfl (hL 27 (by simp))
                  have e28 : V 28 = .bool true := HV 28 _ rfl (hL 28 (by simp))
                  have hA := s0
                  rw [HFR.out]
                  rw [e0, e1, e2, e3, e4, e5, e6, e7, e8, e9, e10, e11, e12, e13, e14, e15, e16, e17, e18, e19, e20, e21, e22, e23, e24, e25, e26, e27, e28]
                  clear hL HV HFR e0 e1 e2 e3 e4 e5 e6 e7 e8 e9 e10 e11 e12 e13 e14 e15 e16 e17 e18 e19 e20 e21 e22 e23 e24 e25 e26 e27 e28 s0
                  have HXN := Lib.hid (HXR.out.trans hA.2)
                  clear hA
                  go_wp2_with fail
                  refine bodyPost_ret (results_tmp rfl _ _ _) rfl ?_
                  exact ⟨by rw [HF.out]; rfl, HXN.out⟩
              · have HNV := Lib.hid (HMV.out hv)
                have HZ := Lib.hid (show ((x.p.getD i0 pz0).val == 0) = false by rw [beq_eq_false_iff_ne]; exact hv)
                clear hv HSV HMV
                rcases Nat.eq_zero_or_pos i0 with rfl | hk0
                · generalize x.p.getD 0 pz0 = p at *
                  clear HQQ HST HMO
                  go_upto_region 14 with fail
                  refine wp_named fun a0 ha0 => ?_
                  obtain ⟨fr, hfr⟩ : ∃ fr : (Nat → Value) → Act, ∀ V, fr V = (((((((((((((((((((((((((((((a0.put (some 52) (V 0)).put (some 53) (V 1)).put (some 54) (V 2)).put (some 55) (V 3)).put (some 56) (V 4)).put (some 57) (V 5)).put (some 58) (V 6)).put (some 59) (V 7)).put (some 60) (V 8)).put (some 61) (V 9)).put (some 62) (V 10)).put (some 63) (V 11)).put (some 64) (V 12)).put (some 65) (V 13)).put (some 66) (V 14)).put (some 67) (V 15)).put (some 68) (V 16)).put (some 69) (V 17)).put (some 70) (V 18)).put (some 71) (V 19)).put (some 72) (V 20)).put (some 73) (V 21)).put (some 74) (V 22)).put (some 75) (V 23)).put (some 76) (V 24)).put (some 77) (V 25)).put (some 78) (V 26)).put (some 79) (V 27)).put (some 80) (V 28)) := ⟨fun V => (((((((((((((((((((((((((((((a0.put (some 52) (V 0)).put (some 53) (V 1)).put (some 54) (V 2)).put (some 55) (V 3)).put (some 56) (V 4)).put (some 57) (V 5)).put (some 58) (V 6)).put (some 59) (V 7)).put (some 60) (V 8)).put (some 61) (V 9)).put (some 62) (V 10)).put (some 63) (V 11)).put (some 64) (V 12)).put (some 65) (V 13)).put (some 66) (V 14)).put (some 67) (V 15)).put (some 68) (V 16)).put (some 69) (V 17)).put (some 70) (V 18)).put (some 71) (V 19)).put (some 72) (V 20)).put (some 73) (V 21)).put (some 74) (V 22)).put (some 75) (V 23)).put (some 76) (V 24)).put (some 77) (V 25)).put (some 78) (V 26)).put (some 79) (V 27)).put (some 80) (V 28)), fun _ => rfl⟩
                  rw [ha0] at hfr
                  simp only [Act.put, List.setIfInBounds_toArray, List.set_cons_zero, List.set_cons_succ] at hfr
                  have HFR := Lib.hid hfr
                  clear hfr
                  refine wp_region_inv (by kernel_rfl) (by kernel_rfl) (fun L A W => ∃ V : Nat → Value, A = fr V ∧ Vals (fun j => ([some (.pointer (some ⟨g1, 2, none⟩)), some (.slice (some ⟨bb, oo, none⟩) x.p.length c3), some (.int .i64 (0 : Nat)), some (.pointer (some ⟨bb, oo + 0 * 9, none⟩)), some (.pointer (some ⟨bb, oo + 0 * 9 + 5, none⟩)), some (wv p.val), some (wv 0), some (.bool false), some (.bool false), some (.int .i64 (0 : Nat)), some (.bool false), some (.bool false), some (undef), some (undef), some (undef), some (undef), some (undef), some (undef), some (undef), some (undef), some (undef), some (undef), some (undef), some (undef), some (undef), some (undef), some (undef), some (.bool false), some (.bool false)] : List (Option Value)).getD j none) L V ∧ (Cs W g1 26 #[.slice A1 x.a.length c1, .slice A2 x.s.length c2, .slice (some ⟨bb, oo, none⟩) x.p.length c3] ∧ Ext wr W)) ?_ ⟨?_, ?_, ?_, ?_, ?_, ?_, ?_, ?_, ?_, ?_, ?_, ?_, ?_, ?_, ?_, ?_, ?_, ?_, ?_, ?_, ?_, ?_, ?_, ?_, ?_, ?_, ?_, ?_, ?_, trivial⟩ ?_
                  · refine ⟨fun j => a0.tmps.getD (([52, 53, 54, 55, 56, 57, 58, 59, 60, 61, 62, 63, 64, 65, 66, 67, 68, 69, 70, 71, 72, 73, 74, 75, 76, 77, 78, 79, 80] : List Nat).getD j 0) undef, ?_, Vals.no _ _ _ (far_none _ _ rfl), ⟨Cs.ext HC.out (Ext.refl _).drew, (Ext.refl _).drew⟩⟩
                    rw [HFR.out, ha0]
                    rfl
                  all_goals clear ha0
                  · rintro L A W K hL hC hW ⟨V, rfl, HV, s0⟩ hK
                    have H := Lib.hid (show ∀ W', Ext W W' → K (fr (upd V 0 (.pointer (some ⟨g1, 2, none⟩)))) W' from fun W' he => hK _ _ ⟨upd V 0 (.pointer (some ⟨g1, 2, none⟩)), rfl, HV.up 0 _ (fun x hx => Option.some.inj hx), AxC.ext s0 he⟩)
                    clear hK hC hW hL HV s0
                    rw [HFR.out]
                    go_wp2_with fail
                    show K _ _
                    have := H.out _ (Ext.refl _)
                    rw [HFR.out] at this
                    exact this
                  · rintro L A W K hL hC hW ⟨V, rfl, HV, s0⟩ hK
                    have e0 : V 0 = .pointer (some ⟨g1, 2, none⟩) := HV 0 _ rfl (hW 0 rfl)
                    have hB := s0
                    have H := Lib.hid (show ∀ W', Ext W W' → K (fr (upd V 1 (.slice (some ⟨bb, oo, none⟩) x.p.length c3))) W' from fun W' he => hK _ _ ⟨upd V 1 (.slice (some ⟨bb, oo, none⟩) x.p.length c3), rfl, HV.up 1 _ (fun x hx => Option.some.inj hx), AxC.ext s0 he⟩)
                    have HU := Lib.hid (show (upd V 1 (.slice (some ⟨bb, oo, none⟩) x.p.length c3)) 0 = .pointer (some ⟨g1, 2, none⟩) from e0)
                    clear hK hC hW hL HV s0
                    rw [HFR.out]
                    rw [e0]
                    clear e0
                    have qq := hB.1.cell 2 _ rfl
                    clear hB
                    go_wp2_with fail
                    show K _ _
                    have := H.out _ (Ext.refl _)
                    rw [HFR.out] at this
                    obtain u0 := HU.out
                    rw [u0] at this
                    exact this
                  · rintro L A W K hL hC hW ⟨V, rfl, HV, s0⟩ hK
                    have H := Lib.hid (show ∀ W', Ext W W' → K (fr (upd V 2 (.int .i64 (0 : Nat)))) W' from fun W' he => hK _ _ ⟨upd V 2 (.int .i64 (0 : Nat)), rfl, HV.up 2 _ (fun x hx => Option.some.inj hx), AxC.ext s0 he⟩)
                    clear hK hC hW hL HV s0
                    rw [HFR.out]
                    go_wp2_with fail
                    show K _ _
                    have := H.out _ (Ext.refl _)
                    rw [HFR.out] at this
                    exact this
                  · rintro L A W K hL hC hW ⟨V, rfl, HV, s0⟩ hK
                    have e1 : V 1 = .slice (some ⟨bb, oo, none⟩) x.p.length c3 := HV 1 _ rfl (hW 1 rfl)
                    have e2 : V 2 = .int .i64 (0 : Nat) := HV 2 _ rfl (hW 2 rfl)
                    have hB := s0
                    have H := Lib.hid (show ∀ W', Ext W W' → K (fr (upd V 3 (.pointer (some ⟨bb, oo + 0 * 9, none⟩)))) W' from fun W' he => hK _ _ ⟨upd V 3 (.pointer (some ⟨bb, oo + 0 * 9, none⟩)), rfl, HV.up 3 _ (fun x hx => Option.some.inj hx), AxC.ext s0 he⟩)
                    have HU := Lib.hid (show (upd V 3 (.pointer (some ⟨bb, oo + 0 * 9, none⟩))) 1 = .slice (some ⟨bb, oo, none⟩) x.p.length c3 ∧ (upd V 3 (.pointer (some ⟨bb, oo + 0 * 9, none⟩))) 2 = .int .i64 (0 : Nat) from ⟨e1, e2⟩)
                    clear hK hC hW hL HV s0
                    rw [HFR.out]
                    rw [e1, e2]
                    clear e1 e2
                    clear hB
                    go_wp2_with fail
                    show K _ _
                    have := H.out _ (Ext.refl _)
                    rw [HFR.out] at this
                    obtain ⟨u1, u2⟩ := HU.out
                    rw [u1, u2] at this
                    exact this
                  · rintro L A W K hL hC hW ⟨V, rfl, HV, s0⟩ hK
                    have e3 : V 3 = .pointer (some ⟨bb, oo + 0 * 9, none⟩) := HV 3 _ rfl (hW 3 rfl)
                    have H := Lib.hid (show ∀ W', Ext W W' → K (fr (upd V 4 (.pointer (some ⟨bb, oo + 0 * 9 + 5, none⟩)))) W' from fun W' he => hK _ _ ⟨upd V 4 (.pointer (some ⟨bb, oo + 0 * 9 + 5, none⟩)), rfl, HV.up 4 _ (fun x hx => Option.some.inj hx), AxC.ext s0 he⟩)
                    have HU := Lib.hid (show (upd V 4 (.pointer (some ⟨bb, oo + 0 * 9 + 5, none⟩))) 3 = .pointer (some ⟨bb, oo + 0 * 9, none⟩) from e3)
                    clear hK hC hW hL HV s0
                    rw [HFR.out]
                    rw [e3]
                    clear e3
                    go_wp2_with fail
                    show K _ _
                    have := H.out _ (Ext.refl _)
                    rw [HFR.out] at this
                    obtain u3 := HU.out
                    rw [u3] at this
                    exact this
                  · rintro L A W K hL hC hW ⟨V, rfl, HV, s0⟩ hK
                    have e4 : V 4 = .pointer (some ⟨bb, oo + 0 * 9 + 5, none⟩) := HV 4 _ rfl (hW 4 rfl)
                    have hB := s0
                    have H := Lib.hid (show ∀ W', Ext W W' → K (fr (upd V 5 (wv p.val))) W' from fun W' he => hK _ _ ⟨upd V 5 (wv p.val), rfl, HV.up 5 _ (fun x hx => Option.some.inj hx), AxC.ext s0 he⟩)
                    have HU := Lib.hid (show (upd V 5 (wv p.val)) 4 = .pointer (some ⟨bb, oo + 0 * 9 + 5, none⟩) from e4)
                    clear hK hC hW hL HV s0
                    rw [HFR.out]
                    rw [e4]
                    clear e4
                    have HWD := Lib.hid (cP_val (rangeK_ext HP.out hB.2))
                    clear hB
                    refine wpList_load_wordIn rfl (.tmp 56) rfl bb (oo + 0 * 9 + 5) p.val rfl HWD.out ?_
                    show K _ _
                    have := H.out _ (Ext.refl _)
                    rw [HFR.out] at this
                    obtain u4 := HU.out
                    rw [u4] at this
                    exact this
                  · rintro L A W K hL hC hW ⟨V, rfl, HV, s0⟩ hK
                    have H := Lib.hid (show ∀ W', Ext W W' → K (fr (upd V 6 (wv 0))) W' from fun W' he => hK _ _ ⟨upd V 6 (wv 0), rfl, HV.up 6 _ (fun x hx => Option.some.inj hx), AxC.ext s0 he⟩)
                    clear hK hC hW hL HV s0
                    rw [HFR.out]
                    go_wp2_with fail
                    show K _ _
                    have := H.out _ (Ext.refl _)
                    rw [HFR.out] at this
                    exact this
                  · rintro L A W K hL hC hW ⟨V, rfl, HV, s0⟩ hK
                    have e5 : V 5 = wv p.val := HV 5 _ rfl (hW 5 rfl)
                    have e6 : V 6 = wv 0 := HV 6 _ rfl (hW 6 rfl)
                    have hB := s0
                    have H := Lib.hid (show ∀ W', Ext W W' → K (fr (upd V 7 (.bool false))) W' from fun W' he => hK _ _ ⟨upd V 7 (.bool false), rfl, HV.up 7 _ (fun x hx => Option.some.inj hx), AxC.ext s0 he⟩)
                    have HU := Lib.hid (show (upd V 7 (.bool false)) 5 = wv p.val ∧ (upd V 7 (.bool false)) 6 = wv 0 from ⟨e5, e6⟩)
                    clear hK hC hW hL HV s0
                    rw [HFR.out]
                    rw [e5, e6]
                    clear e5 e6
                    refine wpList_eql_word rfl (.tmp 57) (.tmp 58) rfl p.val 0 HPV.out (by decide) rfl rfl ?_
                    rw [HZ.out]
                    show K _ _
                    have := H.out _ (Ext.refl _)
                    rw [HFR.out] at this
                    obtain ⟨u5, u6⟩ := HU.out
                    rw [u5, u6] at this
                    exact this
                  · rintro L A W K hL hC hW ⟨V, rfl, HV, s0⟩ hK
                    have e7 : V 7 = .bool false := HV 7 _ rfl (hW 7 rfl)
                    have H := Lib.hid (show ∀ W', Ext W W' → K (fr (upd V 8 (.bool false))) W' from fun W' he => hK _ _ ⟨upd V 8 (.bool false), rfl, HV.up 8 _ (fun x hx => Option.some.inj hx), AxC.ext s0 he⟩)
                    have HU := Lib.hid (show (upd V 8 (.bool false)) 7 = .bool false from e7)
                    clear hK hC hW hL HV s0
                    rw [HFR.out]
                    rw [e7]
                    clear e7
                    go_wp2_with fail
                    show K _ _
                    have := H.out _ (Ext.refl _)
                    rw [HFR.out] at this
                    obtain u7 := HU.out
                    rw [u7] at this
                    exact this
                  · rintro L A W K hL hC hW ⟨V, rfl, HV, s0⟩ hK
                    have e8 : V 8 = .bool false := HV 8 _ rfl (hW 8 rfl)
                    have H := Lib.hid (show ∀ W', Ext W W' → K (fr (upd V 9 (.int .i64 (0 : Nat)))) W' from fun W' he => hK _ _ ⟨upd V 9 (.int .i64 (0 : Nat)), rfl, HV.up 9 _ (fun x hx => Option.some.inj hx), AxC.ext s0 he⟩)
                    have HU := Lib.hid (show (upd V 9 (.int .i64 (0 : Nat))) 8 = .bool false from e8)
                    clear hK hC hW hL HV s0
                    rw [HFR.out]
                    rw [e8]
                    clear e8
                    go_wp2_with fail
                    show K _ _
                    have := H.out _ (Ext.refl _)
                    rw [HFR.out] at this
                    obtain u8 := HU.out
                    rw [u8] at this
                    exact this
                  · rintro L A W K hL hC hW ⟨V, rfl, HV, s0⟩ hK
                    have e8 : V 8 = .bool false := HV 8 _ rfl (hW 8 rfl)
                    have e9 : V 9 = .int .i64 (0 : Nat) := HV 9 _ rfl (hW 9 rfl)
                    have H := Lib.hid (show ∀ W', Ext W W' → K (fr (upd V 10 (.bool false))) W' from fun W' he => hK _ _ ⟨upd V 10 (.bool false), rfl, HV.up 10 _ (fun x hx => Option.some.inj hx), AxC.ext s0 he⟩)
                    have HU := Lib.hid (show (upd V 10 (.bool false)) 8 = .bool false ∧ (upd V 10 (.bool false)) 9 = .int .i64 (0 : Nat) from ⟨e8, e9⟩)
                    clear hK hC hW hL HV s0
                    rw [HFR.out]
                    rw [e8, e9]
                    clear e8 e9
                    go_wp2_with fail
                    show K _ _
                    have := H.out _ (Ext.refl _)
                    rw [HFR.out] at this
                    obtain ⟨u8, u9⟩ := HU.out
                    rw [u8, u9] at this
                    exact this
                  · rintro L A W K hL hC hW ⟨V, rfl, HV, s0⟩ hK
                    have e8 : V 8 = .bool false := HV 8 _ rfl (hW 8 rfl)
                    have e10 : V 10 = .bool false := HV 10 _ rfl (hW 10 rfl)
                    have H := Lib.hid (show ∀ W', Ext W W' → K (fr (upd V 11 (.bool false))) W' from fun W' he => hK _ _ ⟨upd V 11 (.bool false), rfl, HV.up 11 _ (fun x hx => Option.some.inj hx), AxC.ext s0 he⟩)
                    have HU := Lib.hid (show (upd V 11 (.bool false)) 8 = .bool false ∧ (upd V 11 (.bool false)) 10 = .bool false from ⟨e8, e10⟩)
                    clear hK hC hW hL HV s0
                    rw [HFR.out]
                    rw [e8, e10]
                    clear e8 e10
                    go_wp2_with fail
                    show K _ _
                    have := H.out _ (Ext.refl _)
                    rw [HFR.out] at this
                    obtain ⟨u8, u10⟩ := HU.out
                    rw [u8, u10] at this
                    exact this
                  · rintro L A W K hL hC hW ⟨V, rfl, HV, s0⟩ hK
                    have e11 : V 11 = .bool false := HV 11 _ rfl (hW 11 rfl)
                    have H := Lib.hid (show ∀ W', Ext W W' → K (fr (upd V 12 (undef))) W' from fun W' he => hK _ _ ⟨upd V 12 (undef), rfl, HV.up 12 _ (fun x hx => Option.some.inj hx), AxC.ext s0 he⟩)
                    have HU := Lib.hid (show (upd V 12 (undef)) 11 = .bool false from e11)
                    clear hK hC hW hL HV s0
                    rw [HFR.out]
                    rw [e11]
                    clear e11
                    go_wp2_with fail
                    show K _ _
                    have := H.out _ (Ext.refl _)
                    rw [HFR.out] at this
                    obtain u11 := HU.out
                    rw [u11] at this
                    exact this
                  · rintro L A W K hL hC hW ⟨V, rfl, HV, s0⟩ hK
                    have e11 : V 11 = .bool false := HV 11 _ rfl (hW 11 rfl)
                    have e12 : V 12 = undef := HV 12 _ rfl (hW 12 rfl)
                    have H := Lib.hid (show ∀ W', Ext W W' → K (fr (upd V 13 (undef))) W' from fun W' he => hK _ _ ⟨upd V 13 (undef), rfl, HV.up 13 _ (fun x hx => Option.some.inj hx), AxC.ext s0 he⟩)
                    have HU := Lib.hid (show (upd V 13 (undef)) 11 = .bool false ∧ (upd V 13 (undef)) 12 = undef from ⟨e11, e12⟩)
                    clear hK hC hW hL HV s0
                    rw [HFR.out]
                    rw [e11, e12]
                    clear e11 e12
                    go_wp2_with fail
                    show K _ _
                    have := H.out _ (Ext.refl _)
                    rw [HFR.out] at this
                    obtain ⟨u11, u12⟩ := HU.out
                    rw [u11, u12] at this
                    exact this
                  · rintro L A W K hL hC hW ⟨V, rfl, HV, s0⟩ hK
                    have e11 : V 11 = .bool false := HV 11 _ rfl (hW 11 rfl)
                    have H := Lib.hid (show ∀ W', Ext W W' → K (fr (upd V 14 (undef))) W' from fun W' he => hK _ _ ⟨upd V 14 (undef), rfl, HV.up 14 _ (fun x hx => Option.some.inj hx), AxC.ext s0 he⟩)
                    have HU := Lib.hid (show (upd V 14 (undef)) 11 = .bool false from e11)
                    clear hK hC hW hL HV s0
                    rw [HFR.out]
                    rw [e11]
                    clear e11
                    go_wp2_with fail
                    show K _ _
                    have := H.out _ (Ext.refl _)
                    rw [HFR.out] at this
                    obtain u11 := HU.out
                    rw [u11] at this
                    exact this
                  · rintro L A W K hL hC hW ⟨V, rfl, HV, s0⟩ hK
                    have e11 : V 11 = .bool false := HV 11 _ rfl (hW 11 rfl)
                    have e14 : V 14 = undef := HV 14 _ rfl (hW 14 rfl)
                    have H := Lib.hid (show ∀ W', Ext W W' → K (fr (upd V 15 (undef))) W' from fun W' he => hK _ _ ⟨upd V 15 (undef), rfl, HV.up 15 _ (fun x hx => Option.some.inj hx), AxC.ext s0 he⟩)
                    have HU := Lib.hid (show (upd V 15 (undef)) 11 = .bool false ∧ (upd V 15 (undef)) 14 = undef from ⟨e11, e14⟩)
                    clear hK hC hW hL HV s0
                    rw [HFR.out]
                    rw [e11, e14]
                    clear e11 e14
                    go_wp2_with fail
                    show K _ _
                    have := H.out _ (Ext.refl _)
                    rw [HFR.out] at this
                    obtain ⟨u11, u14⟩ := HU.out
                    rw [u11, u14] at this
                    exact this
                  · rintro L A W K hL hC hW ⟨V, rfl, HV, s0⟩ hK
                    have e11 : V 11 = .bool false := HV 11 _ rfl (hW 11 rfl)
                    have e13 : V 13 = undef := HV 13 _ rfl (hW 13 rfl)
                    have e15 : V 15 = undef := HV 15 _ rfl (hW 15 rfl)
                    have H := Lib.hid (show ∀ W', Ext W W' → K (fr (upd V 16 (undef))) W' from fun W' he => hK _ _ ⟨upd V 16 (undef), rfl, HV.up 16 _ (fun x hx => Option.some.inj hx), AxC.ext s0 he⟩)
                    have HU := Lib.hid (show (upd V 16 (undef)) 11 = .bool false ∧ (upd V 16 (undef)) 13 = undef ∧ (upd V 16 (undef)) 15 = undef from ⟨e11, e13, e15⟩)
                    clear hK hC hW hL HV s0
                    rw [HFR.out]
                    rw [e11, e13, e15]
                    clear e11 e13 e15
                    go_wp2_with fail
                    show K _ _
                    have := H.out _ (Ext.refl _)
                    rw [HFR.out] at this
                    obtain ⟨u11, u13, u15⟩ := HU.out
                    rw [u11, u13, u15] at this
                    exact this
                  · rintro L A W K hL hC hW ⟨V, rfl, HV, s0⟩ hK
                    have e11 : V 11 = .bool false := HV 11 _ rfl (hW 11 rfl)
                    have e16 : V 16 = undef := HV 16 _ rfl (hW 16 rfl)
                    have H := Lib.hid (show ∀ W', Ext W W' → K (fr (upd V 17 (undef))) W' from fun W' he => hK _ _ ⟨upd V 17 (undef), rfl, HV.up 17 _ (fun x hx => Option.some.inj hx), AxC.ext s0 he⟩)
                    have HU := Lib.hid (show (upd V 17 (undef)) 11 = .bool false ∧ (upd V 17 (undef)) 16 = undef from ⟨e11, e16⟩)
                    clear hK hC hW hL HV s0
                    rw [HFR.out]
                    rw [e11, e16]
                    clear e11 e16
                    go_wp2_with fail
                    show K _ _
                    have := H.out _ (Ext.refl _)
                    rw [HFR.out] at this
                    obtain ⟨u11, u16⟩ := HU.out
                    rw [u11, u16] at this
                    exact this
                  · rintro L A W K hL hC hW ⟨V, rfl, HV, s0⟩ hK
                    have e11 : V 11 = .bool false := HV 11 _ rfl (hW 11 rfl)
                    have e17 : V 17 = undef := HV 17 _ rfl (hW 17 rfl)
                    have H := Lib.hid (show ∀ W', Ext W W' → K (fr (upd V 18 (undef))) W' from fun W' he => hK _ _ ⟨upd V 18 (undef), rfl, HV.up 18 _ (fun x hx => Option.some.inj hx), AxC.ext s0 he⟩)
                    have HU := Lib.hid (show (upd V 18 (undef)) 11 = .bool false ∧ (upd V 18 (undef)) 17 = undef from ⟨e11, e17⟩)
                    clear hK hC hW hL HV s0
                    rw [HFR.out]
                    rw [e11, e17]
                    clear e11 e17
                    go_wp2_with fail
                    show K _ _
                    have := H.out _ (Ext.refl _)
                    rw [HFR.out] at this
                    obtain ⟨u11, u17⟩ := HU.out
                    rw [u11, u17] at this
                    exact this
                  · rintro L A W K hL hC hW ⟨V, rfl, HV, s0⟩ hK
                    have e11 : V 11 = .bool false := HV 11 _ rfl (hW 11 rfl)
                    have H := Lib.hid (show ∀ W', Ext W W' → K (fr (upd V 19 (undef))) W' from fun W' he => hK _ _ ⟨upd V 19 (undef), rfl, HV.up 19 _ (fun x hx => Option.some.inj hx), AxC.ext s0 he⟩)
                    have HU := Lib.hid (show (upd V 19 (undef)) 11 = .bool false from e11)
                    clear hK hC hW hL HV s0
                    rw [HFR.out]
                    rw [e11]
                    clear e11
                    go_wp2_with fail
                    show K _ _
                    have := H.out _ (Ext.refl _)
                    rw [HFR.out] at this
                    obtain u11 := HU.out
                    rw [u11] at this
                    exact this
                  · rintro L A W K hL hC hW ⟨V, rfl, HV, s0⟩ hK
                    have e11 : V 11 = .bool false := HV 11 _ rfl (hW 11 rfl)
                    have e19 : V 19 = undef := HV 19 _ rfl (hW 19 rfl)
                    have H := Lib.hid (show ∀ W', Ext W W' → K (fr (upd V 20 (undef))) W' from fun W' he => hK _ _ ⟨upd V 20 (undef), rfl, HV.up 20 _ (fun x hx => Option.some.inj hx), AxC.ext s0 he⟩)
                    have HU := Lib.hid (show (upd V 20 (undef)) 11 = .bool false ∧ (upd V 20 (undef)) 19 = undef from ⟨e11, e19⟩)
                    clear hK hC hW hL HV s0
                    rw [HFR.out]
                    rw [e11, e19]
                    clear e11 e19
                    go_wp2_with fail
                    show K _ _
                    have := H.out _ (Ext.refl _)
                    rw [HFR.out] at this
                    obtain ⟨u11, u19⟩ := HU.out
                    rw [u11, u19] at this
                    exact this
                  · rintro L A W K hL hC hW ⟨V, rfl, HV, s0⟩ hK
                    have e11 : V 11 = .bool false := HV 11 _ rfl (hW 11 rfl)
                    have H := Lib.hid (show ∀ W', Ext W W' → K (fr (upd V 21 (undef))) W' from fun W' he => hK _ _ ⟨upd V 21 (undef), rfl, HV.up 21 _ (fun x hx => Option.some.inj hx), AxC.ext s0 he⟩)
                    have HU := Lib.hid (show (upd V 21 (undef)) 11 = .bool false from e11)
                    clear hK hC hW hL HV s0
                    rw [HFR.out]
                    rw [e11]
                    clear e11
                    go_wp2_with fail
                    show K _ _
                    have := H.out _ (Ext.refl _)
                    rw [HFR.out] at this
                    obtain u11 := HU.out
                    rw [u11] at this
                    exact this
                  · rintro L A W K hL hC hW ⟨V, rfl, HV, s0⟩ hK
                    have e11 : V 11 = .bool false := HV 11 _ rfl (hW 11 rfl)
                    have e20 : V 20 = undef := HV 20 _ rfl (hW 20 rfl)
                    have e21 : V 21 = undef := HV 21 _ rfl (hW 21 rfl)
                    have H := Lib.hid (show ∀ W', Ext W W' → K (fr (upd V 22 (undef))) W' from fun W' he => hK _ _ ⟨upd V 22 (undef), rfl, HV.up 22 _ (fun x hx => Option.some.inj hx), AxC.ext s0 he⟩)
                    have HU := Lib.hid (show (upd V 22 (undef)) 11 = .bool false ∧ (upd V 22 (undef)) 20 = undef ∧ (upd V 22 (undef)) 21 = undef from ⟨e11, e20, e21⟩)
                    clear hK hC hW hL HV s0
                    rw [HFR.out]
                    rw [e11, e20, e21]
                    clear e11 e20 e21
                    go_wp2_with fail
                    show K _ _
                    have := H.out _ (Ext.refl _)
                    rw [HFR.out] at this
                    obtain ⟨u11, u20, u21⟩ := HU.out
                    rw [u11, u20, u21] at this
                    exact this
                  · rintro L A W K hL hC hW ⟨V, rfl, HV, s0⟩ hK
                    have e11 : V 11 = .bool false := HV 11 _ rfl (hW 11 rfl)
                    have e22 : V 22 = undef := HV 22 _ rfl (hW 22 rfl)
                    have H := Lib.hid (show ∀ W', Ext W W' → K (fr (upd V 23 (undef))) W' from fun W' he => hK _ _ ⟨upd V 23 (undef), rfl, HV.up 23 _ (fun x hx => Option.some.inj hx), AxC.ext s0 he⟩)
                    have HU := Lib.hid (show (upd V 23 (undef)) 11 = .bool false ∧ (upd V 23 (undef)) 22 = undef from ⟨e11, e22⟩)
                    clear hK hC hW hL HV s0
                    rw [HFR.out]
                    rw [e11, e22]
                    clear e11 e22
                    go_wp2_with fail
                    show K _ _
                    have := H.out _ (Ext.refl _)
                    rw [HFR.out] at this
                    obtain ⟨u11, u22⟩ := HU.out
                    rw [u11, u22] at this
                    exact this
                  · rintro L A W K hL hC hW ⟨V, rfl, HV, s0⟩ hK
                    have e11 : V 11 = .bool false := HV 11 _ rfl (hW 11 rfl)
                    have e23 : V 23 = undef := HV 23 _ rfl (hW 23 rfl)
                    have H := Lib.hid (show ∀ W', Ext W W' → K (fr (upd V 24 (undef))) W' from fun W' he => hK _ _ ⟨upd V 24 (undef), rfl, HV.up 24 _ (fun x hx => Option.some.inj hx), AxC.ext s0 he⟩)
                    have HU := Lib.hid (show (upd V 24 (undef)) 11 = .bool false ∧ (upd V 24 (undef)) 23 = undef from ⟨e11, e23⟩)
                    clear hK hC hW hL HV s0
                    rw [HFR.out]
                    rw [e11, e23]
                    clear e11 e23
                    go_wp2_with fail
                    show K _ _
                    have := H.out _ (Ext.refl _)
                    rw [HFR.out] at this
                    obtain ⟨u11, u23⟩ := HU.out
                    rw [u11, u23] at this
                    exact this
                  · rintro L A W K hL hC hW ⟨V, rfl, HV, s0⟩ hK
                    have e11 : V 11 = .bool false := HV 11 _ rfl (hW 11 rfl)
                    have e18 : V 18 = undef := HV 18 _ rfl (hW 18 rfl)
                    have e24 : V 24 = undef := HV 24 _ rfl (hW 24 rfl)
                    have H := Lib.hid (show ∀ W', Ext W W' → K (fr (upd V 25 (undef))) W' from fun W' he => hK _ _ ⟨upd V 25 (undef), rfl, HV.up 25 _ (fun x hx => Option.some.inj hx), AxC.ext s0 he⟩)
                    have HU := Lib.hid (show (upd V 25 (undef)) 11 = .bool false ∧ (upd V 25 (undef)) 18 = undef ∧ (upd V 25 (undef)) 24 = undef from ⟨e11, e18, e24⟩)
                    clear hK hC hW hL HV s0
                    rw [HFR.out]
                    rw [e11, e18, e24]
                    clear e11 e18 e24
                    go_wp2_with fail
                    show K _ _
                    have := H.out _ (Ext.refl _)
                    rw [HFR.out] at this
                    obtain ⟨u11, u18, u24⟩ := HU.out
                    rw [u11, u18, u24] at this
                    exact this
                  · rintro L A W K hL hC hW ⟨V, rfl, HV, s0⟩ hK
                    have e11 : V 11 = .bool false := HV 11 _ rfl (hW 11 rfl)
                    have e25 : V 25 = undef := HV 25 _ rfl (hW 25 rfl)
                    have H := Lib.hid (show ∀ W', Ext W W' → K (fr (upd V 26 (undef))) W' from fun W' he => hK _ _ ⟨upd V 26 (undef), rfl, HV.up 26 _ (fun x hx => Option.some.inj hx), AxC.ext s0 he⟩)
                    have HU := Lib.hid (show (upd V 26 (undef)) 11 = .bool false ∧ (upd V 26 (undef)) 25 = undef from ⟨e11, e25⟩)
                    clear hK hC hW hL HV s0
                    rw [HFR.out]
                    rw [e11, e25]
                    clear e11 e25
                    go_wp2_with fail
                    show K _ _
                    have := H.out _ (Ext.refl _)
                    rw [HFR.out] at this
                    obtain ⟨u11, u25⟩ := HU.out
                    rw [u11, u25] at this
                    exact this
                  · rintro L A W K hL hC hW ⟨V, rfl, HV, s0⟩ hK
                    have e8 : V 8 = .bool false := HV 8 _ rfl (hW 8 rfl)
                    have e11 : V 11 = .bool false := HV 11 _ rfl (hW 11 rfl)
                    have e26 : V 26 = undef := HV 26 _ rfl (hW 26 rfl)
                    have H := Lib.hid (show ∀ W', Ext W W' → K (fr (upd V 27 (.bool false))) W' from fun W' he => hK _ _ ⟨upd V 27 (.bool false), rfl, HV.up 27 _ (fun x hx => Option.some.inj hx), AxC.ext s0 he⟩)
                    have HU := Lib.hid (show (upd V 27 (.bool false)) 8 = .bool false ∧ (upd V 27 (.bool false)) 11 = .bool false ∧ (upd V 27 (.bool false)) 26 = undef from ⟨e8, e11, e26⟩)
                    clear hK hC hW hL HV s0
                    rw [HFR.out]
                    rw [e8, e11, e26]
                    clear e8 e11 e26
                    go_wp2_with fail
                    show K _ _
                    have := H.out _ (Ext.refl _)
                    rw [HFR.out] at this
                    obtain ⟨u8, u11, u26⟩ := HU.out
                    rw [u8, u11, u26] at this
                    exact this
                  · rintro L A W K hL hC hW ⟨V, rfl, HV, s0⟩ hK
                    have e8 : V 8 = .bool false := HV 8 _ rfl (hW 8 rfl)
                    have e27 : V 27 = .bool false := HV 27 _ rfl (hW 27 rfl)
                    have H := Lib.hid (show ∀ W', Ext W W' → K (fr (upd V 28 (.bool false))) W' from fun W' he => hK _ _ ⟨upd V 28 (.bool false), rfl, HV.up 28 _ (fun x hx => Option.some.inj hx), AxC.ext s0 he⟩)
                    have HU := Lib.hid (show (upd V 28 (.bool false)) 8 = .bool false ∧ (upd V 28 (.bool false)) 27 = .bool false from ⟨e8, e27⟩)
                    clear hK hC hW hL HV s0
                    rw [HFR.out]
                    rw [e8, e27]
                    clear e8 e27
                    go_wp2_with fail
                    show K _ _
                    have := H.out _ (Ext.refl _)
                    rw [HFR.out] at this
                    obtain ⟨u8, u27⟩ := HU.out
                    rw [u8, u27] at this
                    exact this
                  · rintro L A W hL ⟨V, rfl, HV, s0⟩
                    have e0 : V 0 = .pointer (some ⟨g1, 2, none⟩) := HV 0 _ rfl (hL 0 (by simp))
                    have e1 : V 1 = .slice (some ⟨bb, oo, none⟩) x.p.length c3 := HV 1 _ rfl (hL 1 (by simp))
                    have e2 : V 2 = .int .i64 (0 : Nat) := HV 2 _ rfl (hL 2 (by simp))
                    have e3 : V 3 = .pointer (some ⟨bb, oo + 0 * 9, none⟩) := HV 3 _ rfl (hL 3 (by simp))
                    have e4 : V 4 = .pointer (some ⟨bb, oo + 0 * 9 + 5, none⟩) := HV 4 _ rfl (hL 4 (by simp))
                    have e5 : V 5 = wv p.val := HV 5 _ rfl (hL 5 (by simp))
                    have e6 : V 6 = wv 0 := HV 6 _ rfl (hL 6 (by simp))
                    have e7 : V 7 = .bool false := HV 7 _ rfl (hL 7 (by simp))
                    have e8 : V 8 = .bool false := HV 8 _ rfl (hL 8 (by simp))
                    have e9 : V 9 = .int .i64 (0 : Nat) := HV 9 _ rfl (hL 9 (by simp))
                    have e10 : V 10 = .bool false := HV 10 _ rfl (hL 10 (by simp))
                    have e11 : V 11 = .bool false := HV 11 _ rfl (hL 11 (by simp))
                    have e12 : V 12 = undef := HV 12 _ rfl (hL 12 (by simp))
                    have e13 : V 13 = undef := HV 13 _ rfl (hL 13 (by simp))
                    have e14 : V 14 = undef := HV 14 _ rfl (hL 14 (by simp))
                    have e15 : V 15 = undef := HV 15 _ rfl (hL 15 (by simp))
                    have e16 : V 16 = undef := HV 16 _ rfl (hL 16 (by simp))
                    have e17 : V 17 = undef := HV 17 _ rfl (hL 17 (by simp))
                    have e18 : V 18 = undef := HV 18 _ rfl (hL 18 (by simp))
                    have e19 : V 19 = undef := HV 19 _ rfl (hL 19 (by simp))
                    have e20 : V 20 = undef := HV 20 _ rfl (hL 20 (by simp))
                    have e21 : V 21 = undef := HV 21 _ rfl (hL 21 (by simp))
                    have e22 : V 22 = undef := HV 22 _ rfl (hL 22 (by simp))
                    have e23 : V 23 = undef := HV 23 _ rfl (hL 23 (by simp))
                    have e24 : V 24 = undef := HV 24 _ rfl (hL 24 (by simp))
                    have e25 : V 25 = undef := HV 25 _ rfl (hL 25 (by simp))
                    have e26 : V 26 = undef := HV 26 _ rfl (hL 26 (by simp))
                    have e27 : V 27 = .bool false := HV 27 _ rfl (hL 27 (by simp))
                    have e28 : V 28 = .bool false := HV 28 _ rfl (hL 28 (by simp))
                    have hA := s0
                    rw [HFR.out]
                    rw [e0, e1, e2, e3, e4, e5, e6, e7, e8, e9, e10, e11, e12, e13, e14, e15, e16, e17, e18, e19, e20, e21, e22, e23, e24, e25, e26, e27, e28]
                    clear hL HV HFR e0 e1 e2 e3 e4 e5 e6 e7 e8 e9 e10 e11 e12 e13 e14 e15 e16 e17 e18 e19 e20 e21 e22 e23 e24 e25 e26 e27 e28 s0
                    have HXN := Lib.hid (HXR.out.trans hA.2)
                    have HXC := Lib.hid hA.1
                    clear hA
                    go_wp2_with fail
                    exact ⟨⟨1, by omega, rfl, Lib.hid ⟨UpR.one _, HNV.out, HXC.out, HXN.out⟩⟩, by simp [intOf]; omega⟩
                · obtain ⟨m0, rfl⟩ : ∃ j, i0 = j + 1 := ⟨i0 - 1, by omega⟩
                  obtain ⟨b2, o2, e2, hq1, hq2⟩ := HQQ.out m0 rfl
                  injection e2 with e2
                  injection e2 with e2 e3
                  subst e2 e3
                  have HST' := Lib.hid (HST.out m0 rfl)
                  have HMO' := Lib.hid (HMO.out m0 rfl)
                  generalize x.p.getD m0 pz0 = q at *
                  generalize x.p.getD (m0 + 1) pz0 = p at *
                  have HQ := Lib.hid hq1
                  have HBE := Lib.hid (fun W => show Calls Try.prog 21 #[.agg (cS q), .agg (cS p)] W (fun e w' => e = .returned (.bool (decide (q.cod < p.cod))) ∧ Ext W w') from refBefore_any ⟨q.addr, q.key, 0⟩ ⟨p.addr, p.key, 0⟩ W ⟨hq2.1, hq2.2.1, rfl⟩ ⟨HPO.out.1, HPO.out.2.1, rfl⟩)
                  clear hq1 hq2 HQQ HST HMO
                  have hd3 : decide (0 < m0 + 1) = true := decide_eq_true (by omega)
                  have hd4 : decide ((0 : Int) < ((m0 + 1 : Nat) : Int)) = true := decide_eq_true (by omega)
                  have hd7 : decide ((m0 : Int) + 1 < (x.p.length : Int)) = true := decide_eq_true (by omega)
                  have hd5 : decide (m0 < x.p.length) = true := decide_eq_true (by omega)
                  have hd6 : decide ((m0 : Int) < (x.p.length : Int)) = true := decide_eq_true (by omega)
                  go_upto_region 14 with fail
                  refine wp_named fun a0 ha0 => ?_
                  obtain ⟨fr, hfr⟩ : ∃ fr : (Nat → Value) → Act, ∀ V, fr V = (((((((((((((((((((((((((((((a0.put (some 52) (V 0)).put (some 53) (V 1)).put (some 54) (V 2)).put (some 55) (V 3)).put (some 56) (V 4)).put (some 57) (V 5)).put (some 58) (V 6)).put (some 59) (V 7)).put (some 60) (V 8)).put (some 61) (V 9)).put (some 62) (V 10)).put (some 63) (V 11)).put (some 64) (V 12)).put (some 65) (V 13)).put (some 66) (V 14)).put (some 67) (V 15)).put (some 68) (V 16)).put (some 69) (V 17)).put (some 70) (V 18)).put (some 71) (V 19)).put (some 72) (V 20)).put (some 73) (V 21)).put (some 74) (V 22)).put (some 75) (V 23)).put (some 76) (V 24)).put (some 77) (V 25)).put (some 78) (V 26)).put (some 79) (V 27)).put (some 80) (V 28)) := ⟨fun V => (((((((((((((((((((((((((((((a0.put (some 52) (V 0)).put (some 53) (V 1)).put (some 54) (V 2)).put (some 55) (V 3)).put (some 56) (V 4)).put (some 57) (V 5)).put (some 58) (V 6)).put (some 59) (V 7)).put (some 60) (V 8)).put (some 61) (V 9)).put (some 62) (V 10)).put (some 63) (V 11)).put (some 64) (V 12)).put (some 65) (V 13)).put (some 66) (V 14)).put (some 67) (V 15)).put (some 68) (V 16)).put (some 69) (V 17)).put (some 70) (V 18)).put (some 71) (V 19)).put (some 72) (V 20)).put (some 73) (V 21)).put (some 74) (V 22)).put (some 75) (V 23)).put (some 76) (V 24)).put (some 77) (V 25)).put (some 78) (V 26)).put (some 79) (V 27)).put (some 80) (V 28)), fun _ => rfl⟩
                  rw [ha0] at hfr
                  simp only [Act.put, List.setIfInBounds_toArray, List.set_cons_zero, List.set_cons_succ] at hfr
                  have HFR := Lib.hid hfr
                  clear hfr
                  refine wp_region_inv (by kernel_rfl) (by kernel_rfl) (fun L A W => ∃ V : Nat → Value, A = fr V ∧ Vals (fun j => ([some (.pointer (some ⟨g1, 2, none⟩)), some (.slice (some ⟨bb, oo, none⟩) x.p.length c3), some (.int .i64 ((m0 + 1 : Nat) : Int)), some (.pointer (some ⟨bb, oo + (m0 + 1) * 9, none⟩)), some (.pointer (some ⟨bb, oo + (m0 + 1) * 9 + 5, none⟩)), some (wv p.val), some (wv 0), some (.bool false), some (.bool false), some (.int .i64 ((m0 + 1 : Nat) : Int)), some (.bool true), some (.bool true), some (.pointer (some ⟨g1, 2, none⟩)), some (.slice (some ⟨bb, oo, none⟩) x.p.length c3), some (.int .i64 ((m0 + 1 : Nat) : Int)), some (.int .i64 (m0 : Nat)), some (.pointer (some ⟨bb, oo + m0 * 9, none⟩)), some (.pointer (some ⟨bb, oo + m0 * 9, none⟩)), some (.agg (cS q)), some (.pointer (some ⟨g1, 2, none⟩)), some (.slice (some ⟨bb, oo, none⟩) x.p.length c3), some (.int .i64 ((m0 + 1 : Nat) : Int)), some (.pointer (some ⟨bb, oo + (m0 + 1) * 9, none⟩)), some (.pointer (some ⟨bb, oo + (m0 + 1) * 9, none⟩)), some (.agg (cS p)), some (.bool (decide (q.cod < p.cod))), some (.bool (!decide (q.cod < p.cod))), some (.bool (!decide (q.cod < p.cod))), some (.bool (!decide (q.cod < p.cod)))] : List (Option Value)).getD j none) L V ∧ (Cs W g1 26 #[.slice A1 x.a.length c1, .slice A2 x.s.length c2, .slice (some ⟨bb, oo, none⟩) x.p.length c3] ∧ Ext wr W)) ?_ ⟨?_, ?_, ?_, ?_, ?_, ?_, ?_, ?_, ?_, ?_, ?_, ?_, ?_, ?_, ?_, ?_, ?_, ?_, ?_, ?_, ?_, ?_, ?_, ?_, ?_, ?_, ?_, ?_, ?_, trivial⟩ ?_
                  · refine ⟨fun j => a0.tmps.getD (([52, 53, 54, 55, 56, 57, 58, 59, 60, 61, 62, 63, 64, 65, 66, 67, 68, 69, 70, 71, 72, 73, 74, 75, 76, 77, 78, 79, 80] : List Nat).getD j 0) undef, ?_, Vals.no _ _ _ (far_none _ _ rfl), ⟨Cs.ext HC.out (Ext.refl _).drew, (Ext.refl _).drew⟩⟩
                    rw [HFR.out, ha0]
                    rfl
                  all_goals clear ha0
                  · rintro L A W K hL hC hW ⟨V, rfl, HV, s0⟩ hK
                    have H := Lib.hid (show ∀ W', Ext W W' → K (fr (upd V 0 (.pointer (some ⟨g1, 2, none⟩)))) W' from fun W' he => hK _ _ ⟨upd V 0 (.pointer (some ⟨g1, 2, none⟩)), rfl, HV.up 0 _ (fun x hx => Option.some.inj hx), AxC.ext s0 he⟩)
                    clear hK hC hW hL HV s0
                    rw [HFR.out]
                    go_wp2_with fail
                    show K _ _
                    have := H.out _ (Ext.refl _)
                    rw [HFR.out] at this
                    exact this
                  · rintro L A W K hL hC hW ⟨V, rfl, HV, s0⟩ hK
                    have e0 : V 0 = .pointer (some ⟨g1, 2, none⟩) := HV 0 _ rfl (hW 0 rfl)
                    have hB := s0
                    have H := Lib.hid (show ∀ W', Ext W W' → K (fr (upd V 1 (.slice (some ⟨bb, oo, none⟩) x.p.length c3))) W' from fun W' he => hK _ _ ⟨upd V 1 (.slice (some ⟨bb, oo, none⟩) x.p.length c3), rfl, HV.up 1 _ (fun x hx => Option.some.inj hx), AxC.ext s0 he⟩)
                    have HU := Lib.hid (show (upd V 1 (.slice (some ⟨bb, oo, none⟩) x.p.length c3)) 0 = .pointer (some ⟨g1, 2, none⟩) from e0)
                    clear hK hC hW hL HV s0
                    rw [HFR.out]
                    rw [e0]
                    clear e0
                    have qq := hB.1.cell 2 _ rfl
                    clear hB
                    go_wp2_with fail
                    show K _ _
                    have := H.out _ (Ext.refl _)
                    rw [HFR.out] at this
                    obtain u0 := HU.out
                    rw [u0] at this
                    exact this
                  · rintro L A W K hL hC hW ⟨V, rfl, HV, s0⟩ hK
                    have H := Lib.hid (show ∀ W', Ext W W' → K (fr (upd V 2 (.int .i64 ((m0 + 1 : Nat) : Int)))) W' from fun W' he => hK _ _ ⟨upd V 2 (.int .i64 ((m0 + 1 : Nat) : Int)), rfl, HV.up 2 _ (fun x hx => Option.some.inj hx), AxC.ext s0 he⟩)
                    clear hK hC hW hL HV s0
                    rw [HFR.out]
                    go_wp2_with fail
                    show K _ _
                    have := H.out _ (Ext.refl _)
                    rw [HFR.out] at this
                    exact this
                  · rintro L A W K hL hC hW ⟨V, rfl, HV, s0⟩ hK
                    have e1 : V 1 = .slice (some ⟨bb, oo, none⟩) x.p.length c3 := HV 1 _ rfl (hW 1 rfl)
                    have e2 : V 2 = .int .i64 ((m0 + 1 : Nat) : Int) := HV 2 _ rfl (hW 2 rfl)
                    have hB := s0
                    have H := Lib.hid (show ∀ W', Ext W W' → K (fr (upd V 3 (.pointer (some ⟨bb, oo + (m0 + 1) * 9, none⟩)))) W' from fun W' he => hK _ _ ⟨upd V 3 (.pointer (some ⟨bb, oo + (m0 + 1) * 9, none⟩)), rfl, HV.up 3 _ (fun x hx => Option.some.inj hx), AxC.ext s0 he⟩)
                    have HU := Lib.hid (show (upd V 3 (.pointer (some ⟨bb, oo + (m0 + 1) * 9, none⟩))) 1 = .slice (some ⟨bb, oo, none⟩) x.p.length c3 ∧ (upd V 3 (.pointer (some ⟨bb, oo + (m0 + 1) * 9, none⟩))) 2 = .int .i64 ((m0 + 1 : Nat) : Int) from ⟨e1, e2⟩)
                    clear hK hC hW hL HV s0
                    rw [HFR.out]
                    rw [e1, e2]
                    clear e1 e2
                    clear hB
                    go_wp2_with fail
                    show K _ _
                    have := H.out _ (Ext.refl _)
                    rw [HFR.out] at this
                    obtain ⟨u1, u2⟩ := HU.out
                    rw [u1, u2] at this
                    exact this
                  · rintro L A W K hL hC hW ⟨V, rfl, HV, s0⟩ hK
                    have e3 : V 3 = .pointer (some ⟨bb, oo + (m0 + 1) * 9, none⟩) := HV 3 _ rfl (hW 3 rfl)
                    have H := Lib.hid (show ∀ W', Ext W W' → K (fr (upd V 4 (.pointer (some ⟨bb, oo + (m0 + 1) * 9 + 5, none⟩)))) W' from fun W' he => hK _ _ ⟨upd V 4 (.pointer (some ⟨bb, oo + (m0 + 1) * 9 + 5, none⟩)), rfl, HV.up 4 _ (fun x hx => Option.some.inj hx), AxC.ext s0 he⟩)
                    have HU := Lib.hid (show (upd V 4 (.pointer (some ⟨bb, oo + (m0 + 1) * 9 + 5, none⟩))) 3 = .pointer (some ⟨bb, oo + (m0 + 1) * 9, none⟩) from e3)
                    clear hK hC hW hL HV s0
                    rw [HFR.out]
                    rw [e3]
                    clear e3
                    go_wp2_with fail
                    show K _ _
                    have := H.out _ (Ext.refl _)
                    rw [HFR.out] at this
                    obtain u3 := HU.out
                    rw [u3] at this
                    exact this
                  · rintro L A W K hL hC hW ⟨V, rfl, HV, s0⟩ hK
                    have e4 : V 4 = .pointer (some ⟨bb, oo + (m0 + 1) * 9 + 5, none⟩) := HV 4 _ rfl (hW 4 rfl)
                    have hB := s0
                    have H := Lib.hid (show ∀ W', Ext W W' → K (fr (upd V 5 (wv p.val))) W' from fun W' he => hK _ _ ⟨upd V 5 (wv p.val), rfl, HV.up 5 _ (fun x hx => Option.some.inj hx), AxC.ext s0 he⟩)
                    have HU := Lib.hid (show (upd V 5 (wv p.val)) 4 = .pointer (some ⟨bb, oo + (m0 + 1) * 9 + 5, none⟩) from e4)
                    clear hK hC hW hL HV s0
                    rw [HFR.out]
                    rw [e4]
                    clear e4
                    have HWD := Lib.hid (cP_val (rangeK_ext HP.out hB.2))
                    clear hB
                    refine wpList_load_wordIn rfl (.tmp 56) rfl bb (oo + (m0 + 1) * 9 + 5) p.val rfl HWD.out ?_
                    show K _ _
                    have := H.out _ (Ext.refl _)
                    rw [HFR.out] at this
                    obtain u4 := HU.out
                    rw [u4] at this
                    exact this
                  · rintro L A W K hL hC hW ⟨V, rfl, HV, s0⟩ hK
                    have H := Lib.hid (show ∀ W', Ext W W' → K (fr (upd V 6 (wv 0))) W' from fun W' he => hK _ _ ⟨upd V 6 (wv 0), rfl, HV.up 6 _ (fun x hx => Option.some.inj hx), AxC.ext s0 he⟩)
                    clear hK hC hW hL HV s0
                    rw [HFR.out]
                    go_wp2_with fail
                    show K _ _
                    have := H.out _ (Ext.refl _)
                    rw [HFR.out] at this
                    exact this
                  · rintro L A W K hL hC hW ⟨V, rfl, HV, s0⟩ hK
                    have e5 : V 5 = wv p.val := HV 5 _ rfl (hW 5 rfl)
                    have e6 : V 6 = wv 0 := HV 6 _ rfl (hW 6 rfl)
                    have hB := s0
                    have H := Lib.hid (show ∀ W', Ext W W' → K (fr (upd V 7 (.bool false))) W' from fun W' he => hK _ _ ⟨upd V 7 (.bool false), rfl, HV.up 7 _ (fun x hx => Option.some.inj hx), AxC.ext s0 he⟩)
                    have HU := Lib.hid (show (upd V 7 (.bool false)) 5 = wv p.val ∧ (upd V 7 (.bool false)) 6 = wv 0 from ⟨e5, e6⟩)
                    clear hK hC hW hL HV s0
                    rw [HFR.out]
                    rw [e5, e6]
                    clear e5 e6
                    refine wpList_eql_word rfl (.tmp 57) (.tmp 58) rfl p.val 0 HPV.out (by decide) rfl rfl ?_
                    rw [HZ.out]
                    show K _ _
                    have := H.out _ (Ext.refl _)
                    rw [HFR.out] at this
                    obtain ⟨u5, u6⟩ := HU.out
                    rw [u5, u6] at this
                    exact this
                  · rintro L A W K hL hC hW ⟨V, rfl, HV, s0⟩ hK
                    have e7 : V 7 = .bool false := HV 7 _ rfl (hW 7 rfl)
                    have H := Lib.hid (show ∀ W', Ext W W' → K (fr (upd V 8 (.bool false))) W' from fun W' he => hK _ _ ⟨upd V 8 (.bool false), rfl, HV.up 8 _ (fun x hx => Option.some.inj hx), AxC.ext s0 he⟩)
                    have HU := Lib.hid (show (upd V 8 (.bool false)) 7 = .bool false from e7)
                    clear hK hC hW hL HV s0
                    rw [HFR.out]
                    rw [e7]
                    clear e7
                    go_wp2_with fail
                    show K _ _
                    have := H.out _ (Ext.refl _)
                    rw [HFR.out] at this
                    obtain u7 := HU.out
                    rw [u7] at this
                    exact this
                  · rintro L A W K hL hC hW ⟨V, rfl, HV, s0⟩ hK
                    have e8 : V 8 = .bool false := HV 8 _ rfl (hW 8 rfl)
                    have H := Lib.hid (show ∀ W', Ext W W' → K (fr (upd V 9 (.int .i64 ((m0 + 1 : Nat) : Int)))) W' from fun W' he => hK _ _ ⟨upd V 9 (.int .i64 ((m0 + 1 : Nat) : Int)), rfl, HV.up 9 _ (fun x hx => Option.some.inj hx), AxC.ext s0 he⟩)
                    have HU := Lib.hid (show (upd V 9 (.int .i64 ((m0 + 1 : Nat) : Int))) 8 = .bool false from e8)
                    clear hK hC hW hL HV s0
                    rw [HFR.out]
                    rw [e8]
                    clear e8
                    go_wp2_with fail
                    show K _ _
                    have := H.out _ (Ext.refl _)
                    rw [HFR.out] at this
                    obtain u8 := HU.out
                    rw [u8] at this
                    exact this
                  · rintro L A W K hL hC hW ⟨V, rfl, HV, s0⟩ hK
                    have e8 : V 8 = .bool false := HV 8 _ rfl (hW 8 rfl)
                    have e9 : V 9 = .int .i64 ((m0 + 1 : Nat) : Int) := HV 9 _ rfl (hW 9 rfl)
                    have H := Lib.hid (show ∀ W', Ext W W' → K (fr (upd V 10 (.bool true))) W' from fun W' he => hK _ _ ⟨upd V 10 (.bool true), rfl, HV.up 10 _ (fun x hx => Option.some.inj hx), AxC.ext s0 he⟩)
                    have HU := Lib.hid (show (upd V 10 (.bool true)) 8 = .bool false ∧ (upd V 10 (.bool true)) 9 = .int .i64 ((m0 + 1 : Nat) : Int) from ⟨e8, e9⟩)
                    clear hK hC hW hL HV s0
                    rw [HFR.out]
                    rw [e8, e9]
                    clear e8 e9
                    go_wp2_with fail
                    show K _ _
                    have := H.out _ (Ext.refl _)
                    rw [HFR.out] at this
                    obtain ⟨u8, u9⟩ := HU.out
                    rw [u8, u9] at this
                    exact this
                  · rintro L A W K hL hC hW ⟨V, rfl, HV, s0⟩ hK
                    have e8 : V 8 = .bool false := HV 8 _ rfl (hW 8 rfl)
                    have e10 : V 10 = .bool true := HV 10 _ rfl (hW 10 rfl)
                    have H := Lib.hid (show ∀ W', Ext W W' → K (fr (upd V 11 (.bool true))) W' from fun W' he => hK _ _ ⟨upd V 11 (.bool true), rfl, HV.up 11 _ (fun x hx => Option.some.inj hx), AxC.ext s0 he⟩)
                    have HU := Lib.hid (show (upd V 11 (.bool true)) 8 = .bool false ∧ (upd V 11 (.bool true)) 10 = .bool true from ⟨e8, e10⟩)
                    clear hK hC hW hL HV s0
                    rw [HFR.out]
                    rw [e8, e10]
                    clear e8 e10
                    go_wp2_with fail
                    show K _ _
                    have := H.out _ (Ext.refl _)
                    rw [HFR.out] at this
                    obtain ⟨u8, u10⟩ := HU.out
                    rw [u8, u10] at this
                    exact this
                  · rintro L A W K hL hC hW ⟨V, rfl, HV, s0⟩ hK
                    have e11 : V 11 = .bool true := HV 11 _ rfl (hW 11 rfl)
                    have H := Lib.hid (show ∀ W', Ext W W' → K (fr (upd V 12 (.pointer (some ⟨g1, 2, none⟩)))) W' from fun W' he => hK _ _ ⟨upd V 12 (.pointer (some ⟨g1, 2, none⟩)), rfl, HV.up 12 _ (fun x hx => Option.some.inj hx), AxC.ext s0 he⟩)
                    have HU := Lib.hid (show (upd V 12 (.pointer (some ⟨g1, 2, none⟩))) 11 = .bool true from e11)
                    clear hK hC hW hL HV s0
                    rw [HFR.out]
                    rw [e11]
                    clear e11
                    go_wp2_with fail
                    show K _ _
                    have := H.out _ (Ext.refl _)
                    rw [HFR.out] at this
                    obtain u11 := HU.out
                    rw [u11] at this
                    exact this
                  · rintro L A W K hL hC hW ⟨V, rfl, HV, s0⟩ hK
                    have e11 : V 11 = .bool true := HV 11 _ rfl (hW 11 rfl)
                    have e12 : V 12 = .pointer (some ⟨g1, 2, none⟩) := HV 12 _ rfl (hW 12 rfl)
                    have hB := s0
                    have H := Lib.hid (show ∀ W', Ext W W' → K (fr (upd V 13 (.slice (some ⟨bb, oo, none⟩) x.p.length c3))) W' from fun W' he => hK _ _ ⟨upd V 13 (.slice (some ⟨bb, oo, none⟩) x.p.length c3), rfl, HV.up 13 _ (fun x hx => Option.some.inj hx), AxC.ext s0 he⟩)
                    have HU := Lib.hid (show (upd V 13 (.slice (some ⟨bb, oo, none⟩) x.p.length c3)) 11 = .bool true ∧ (upd V 13 (.slice (some ⟨bb, oo, none⟩) x.p.length c3)) 12 = .pointer (some ⟨g1, 2, none⟩) from ⟨e11, e12⟩)
                    clear hK hC hW hL HV s0
                    rw [HFR.out]
                    rw [e11, e12]
                    clear e11 e12
                    have qq := hB.1.cell 2 _ rfl
                    clear hB
                    go_wp2_with fail
                    show K _ _
                    have := H.out _ (Ext.refl _)
                    rw [HFR.out] at this
                    obtain ⟨u11, u12⟩ := HU.out
                    rw [u11, u12] at this
                    exact this
                  · rintro L A W K hL hC hW ⟨V, rfl, HV, s0⟩ hK
                    have e11 : V 11 = .bool true := HV 11 _ rfl (hW 11 rfl)
                    have H := Lib.hid (show ∀ W', Ext W W' → K (fr (upd V 14 (.int .i64 ((m0 + 1 : Nat) : Int)))) W' from fun W' he => hK _ _ ⟨upd V 14 (.int .i64 ((m0 + 1 : Nat) : Int)), rfl, HV.up 14 _ (fun x hx => Option.some.inj hx), AxC.ext s0 he⟩)
                    have HU := Lib.hid (show (upd V 14 (.int .i64 ((m0 + 1 : Nat) : Int))) 11 = .bool true from e11)
                    clear hK hC hW hL HV s0
                    rw [HFR.out]
                    rw [e11]
                    clear e11
                    go_wp2_with fail
                    show K _ _
                    have := H.out _ (Ext.refl _)
                    rw [HFR.out] at this
                    obtain u11 := HU.out
                    rw [u11] at this
                    exact this
                  · rintro L A W K hL hC hW ⟨V, rfl, HV, s0⟩ hK
                    have e11 : V 11 = .bool true := HV 11 _ rfl (hW 11 rfl)
                    have e14 : V 14 = .int .i64 ((m0 + 1 : Nat) : Int) := HV 14 _ rfl (hW 14 rfl)
                    have H := Lib.hid (show ∀ W', Ext W W' → K (fr (upd V 15 (.int .i64 (m0 : Nat)))) W' from fun W' he => hK _ _ ⟨upd V 15 (.int .i64 (m0 : Nat)), rfl, HV.up 15 _ (fun x hx => Option.some.inj hx), AxC.ext s0 he⟩)
                    have HU := Lib.hid (show (upd V 15 (.int .i64 (m0 : Nat))) 11 = .bool true ∧ (upd V 15 (.int .i64 (m0 : Nat))) 14 = .int .i64 ((m0 + 1 : Nat) : Int) from ⟨e11, e14⟩)
                    clear hK hC hW hL HV s0
                    rw [HFR.out]
                    rw [e11, e14]
                    clear e11 e14
                    go_wp2_with fail
                    show K _ _
                    have := H.out _ (Ext.refl _)
                    rw [HFR.out] at this
                    obtain ⟨u11, u14⟩ := HU.out
                    rw [u11, u14] at this
                    exact this
                  · rintro L A W K hL hC hW ⟨V, rfl, HV, s0⟩ hK
                    have e11 : V 11 = .bool true := HV 11 _ rfl (hW 11 rfl)
                    have e13 : V 13 = .slice (some ⟨bb, oo, none⟩) x.p.length c3 := HV 13 _ rfl (hW 13 rfl)
                    have e15 : V 15 = .int .i64 (m0 : Nat) := HV 15 _ rfl (hW 15 rfl)
                    have hB := s0
                    have H := Lib.hid (show ∀ W', Ext W W' → K (fr (upd V 16 (.pointer (some ⟨bb, oo + m0 * 9, none⟩)))) W' from fun W' he => hK _ _ ⟨upd V 16 (.pointer (some ⟨bb, oo + m0 * 9, none⟩)), rfl, HV.up 16 _ (fun x hx => Option.some.inj hx), AxC.ext s0 he⟩)
                    have HU := Lib.hid (show (upd V 16 (.pointer (some ⟨bb, oo + m0 * 9, none⟩))) 11 = .bool true ∧ (upd V 16 (.pointer (some ⟨bb, oo + m0 * 9, none⟩))) 13 = .slice (some ⟨bb, oo, none⟩) x.p.length c3 ∧ (upd V 16 (.pointer (some ⟨bb, oo + m0 * 9, none⟩))) 15 = .int .i64 (m0 : Nat) from ⟨e11, e13, e15⟩)
                    clear hK hC hW hL HV s0
                    rw [HFR.out]
                    rw [e11, e13, e15]
                    clear e11 e13 e15
                    clear hB
                    go_wp2_with fail
                    show K _ _
                    have := H.out _ (Ext.refl _)
                    rw [HFR.out] at this
                    obtain ⟨u11, u13, u15⟩ := HU.out
                    rw [u11, u13, u15] at this
                    exact this
                  · rintro L A W K hL hC hW ⟨V, rfl, HV, s0⟩ hK
                    have e11 : V 11 = .bool true := HV 11 _ rfl (hW 11 rfl)
                    have e16 : V 16 = .pointer (some ⟨bb, oo + m0 * 9, none⟩) := HV 16 _ rfl (hW 16 rfl)
                    have H := Lib.hid (show ∀ W', Ext W W' → K (fr (upd V 17 (.pointer (some ⟨bb, oo + m0 * 9, none⟩)))) W' from fun W' he => hK _ _ ⟨upd V 17 (.pointer (some ⟨bb, oo + m0 * 9, none⟩)), rfl, HV.up 17 _ (fun x hx => Option.some.inj hx), AxC.ext s0 he⟩)
                    have HU := Lib.hid (show (upd V 17 (.pointer (some ⟨bb, oo + m0 * 9, none⟩))) 11 = .bool true ∧ (upd V 17 (.pointer (some ⟨bb, oo + m0 * 9, none⟩))) 16 = .pointer (some ⟨bb, oo + m0 * 9, none⟩) from ⟨e11, e16⟩)
                    clear hK hC hW hL HV s0
                    rw [HFR.out]
                    rw [e11, e16]
                    clear e11 e16
                    go_wp2_with fail
                    show K _ _
                    have := H.out _ (Ext.refl _)
                    rw [HFR.out] at this
                    obtain ⟨u11, u16⟩ := HU.out
                    rw [u11, u16] at this
                    exact this
                  · rintro L A W K hL hC hW ⟨V, rfl, HV, s0⟩ hK
                    have e11 : V 11 = .bool true := HV 11 _ rfl (hW 11 rfl)
                    have e17 : V 17 = .pointer (some ⟨bb, oo + m0 * 9, none⟩) := HV 17 _ rfl (hW 17 rfl)
                    have hB := s0
                    have H := Lib.hid (show ∀ W', Ext W W' → K (fr (upd V 18 (.agg (cS q)))) W' from fun W' he => hK _ _ ⟨upd V 18 (.agg (cS q)), rfl, HV.up 18 _ (fun x hx => Option.some.inj hx), AxC.ext s0 he⟩)
                    have HU := Lib.hid (show (upd V 18 (.agg (cS q))) 11 = .bool true ∧ (upd V 18 (.agg (cS q))) 17 = .pointer (some ⟨bb, oo + m0 * 9, none⟩) from ⟨e11, e17⟩)
                    clear hK hC hW hL HV s0
                    rw [HFR.out]
                    rw [e11, e17]
                    clear e11 e17
                    have HWD := Lib.hid (cP_spot (rangeK_ext HQ.out hB.2))
                    clear hB
                    refine wpList_loadS rfl (.tmp 69) rfl bb (oo + m0 * 9) q rfl HWD.out ?_
                    show K _ _
                    have := H.out _ (Ext.refl _)
                    rw [HFR.out] at this
                    obtain ⟨u11, u17⟩ := HU.out
                    rw [u11, u17] at this
                    exact this
                  · rintro L A W K hL hC hW ⟨V, rfl, HV, s0⟩ hK
                    have e11 : V 11 = .bool true := HV 11 _ rfl (hW 11 rfl)
                    have H := Lib.hid (show ∀ W', Ext W W' → K (fr (upd V 19 (.pointer (some ⟨g1, 2, none⟩)))) W' from fun W' he => hK _ _ ⟨upd V 19 (.pointer (some ⟨g1, 2, none⟩)), rfl, HV.up 19 _ (fun x hx => Option.some.inj hx), AxC.ext s0 he⟩)
                    have HU := Lib.hid (show (upd V 19 (.pointer (some ⟨g1, 2, none⟩))) 11 = .bool true from e11)
                    clear hK hC hW hL HV s0
                    rw [HFR.out]
                    rw [e11]
                    clear e11
                    go_wp2_with fail
                    show K _ _
                    have := H.out _ (Ext.refl _)
                    rw [HFR.out] at this
                    obtain u11 := HU.out
                    rw [u11] at this
                    exact this
                  · rintro L A W K hL hC hW ⟨V, rfl, HV, s0⟩ hK
                    have e11 : V 11 = .bool true := HV 11 _ rfl (hW 11 rfl)
                    have e19 : V 19 = .pointer (some ⟨g1, 2, none⟩) := HV 19 _ rfl (hW 19 rfl)
                    have hB := s0
                    have H := Lib.hid (show ∀ W', Ext W W' → K (fr (upd V 20 (.slice (some ⟨bb, oo, none⟩) x.p.length c3))) W' from fun W' he => hK _ _ ⟨upd V 20 (.slice (some ⟨bb, oo, none⟩) x.p.length c3), rfl, HV.up 20 _ (fun x hx => Option.some.inj hx), AxC.ext s0 he⟩)
                    have HU := Lib.hid (show (upd V 20 (.slice (some ⟨bb, oo, none⟩) x.p.length c3)) 11 = .bool true ∧ (upd V 20 (.slice (some ⟨bb, oo, none⟩) x.p.length c3)) 19 = .pointer (some ⟨g1, 2, none⟩) from ⟨e11, e19⟩)
                    clear hK hC hW hL HV s0
                    rw [HFR.out]
                    rw [e11, e19]
                    clear e11 e19
                    have qq := hB.1.cell 2 _ rfl
                    clear hB
                    go_wp2_with fail
                    show K _ _
                    have := H.out _ (Ext.refl _)
                    rw [HFR.out] at this
                    obtain ⟨u11, u19⟩ := HU.out
                    rw [u11, u19] at this
                    exact this
                  · rintro L A W K hL hC hW ⟨V, rfl, HV, s0⟩ hK
                    have e11 : V 11 = .bool true := HV 11 _ rfl (hW 11 rfl)
                    have H := Lib.hid (show ∀ W', Ext W W' → K (fr (upd V 21 (.int .i64 ((m0 + 1 : Nat) : Int)))) W' from fun W' he => hK _ _ ⟨upd V 21 (.int .i64 ((m0 + 1 : Nat) : Int)), rfl, HV.up 21 _ (fun x hx => Option.some.inj hx), AxC.ext s0 he⟩)
                    have HU := Lib.hid (show (upd V 21 (.int .i64 ((m0 + 1 : Nat) : Int))) 11 = .bool true from e11)
                    clear hK hC hW hL HV s0
                    rw [HFR.out]
                    rw [e11]
                    clear e11
                    go_wp2_with fail
                    show K _ _
                    have := H.out _ (Ext.refl _)
                    rw [HFR.out] at this
                    obtain u11 := HU.out
                    rw [u11] at this
                    exact this
                  · rintro L A W K hL hC hW ⟨V, rfl, HV, s0⟩ hK
                    have e11 : V 11 = .bool true := HV 11 _ rfl (hW 11 rfl)
                    have e20 : V 20 = .slice (some ⟨bb, oo, none⟩) x.p.length c3 := HV 20 _ rfl (hW 20 rfl)
                    have e21 : V 21 = .int .i64 ((m0 + 1 : Nat) : Int) := HV 21 _ rfl (hW 21 rfl)
                    have hB := s0
                    have H := Lib.hid (show ∀ W', Ext W W' → K (fr (upd V 22 (.pointer (some ⟨bb, oo + (m0 + 1) * 9, none⟩)))) W' from fun W' he => hK _ _ ⟨upd V 22 (.pointer (some ⟨bb, oo + (m0 + 1) * 9, none⟩)), rfl, HV.up 22 _ (fun x hx => Option.some.inj hx), AxC.ext s0 he⟩)
                    have HU := Lib.hid (show (upd V 22 (.pointer (some ⟨bb, oo + (m0 + 1) * 9, none⟩))) 11 = .bool true ∧ (upd V 22 (.pointer (some ⟨bb, oo + (m0 + 1) * 9, none⟩))) 20 = .slice (some ⟨bb, oo, none⟩) x.p.length c3 ∧ (upd V 22 (.pointer (some ⟨bb, oo + (m0 + 1) * 9, none⟩))) 21 = .int .i64 ((m0 + 1 : Nat) : Int) from ⟨e11, e20, e21⟩)
                    clear hK hC hW hL HV s0
                    rw [HFR.out]
                    rw [e11, e20, e21]
                    clear e11 e20 e21
                    clear hB
                    go_wp2_with fail
                    show K _ _
                    have := H.out _ (Ext.refl _)
                    rw [HFR.out] at this
                    obtain ⟨u11, u20, u21⟩ := HU.out
                    rw [u11, u20, u21] at this
                    exact this
                  · rintro L A W K hL hC hW ⟨V, rfl, HV, s0⟩ hK
                    have e11 : V 11 = .bool true := HV 11 _ rfl (hW 11 rfl)
                    have e22 : V 22 = .pointer (some ⟨bb, oo + (m0 + 1) * 9, none⟩) := HV 22 _ rfl (hW 22 rfl)
                    have H := Lib.hid (show ∀ W', Ext W W' → K (fr (upd V 23 (.pointer (some ⟨bb, oo + (m0 + 1) * 9, none⟩)))) W' from fun W' he => hK _ _ ⟨upd V 23 (.pointer (some ⟨bb, oo + (m0 + 1) * 9, none⟩)), rfl, HV.up 23 _ (fun x hx => Option.some.inj hx), AxC.ext s0 he⟩)
                    have HU := Lib.hid (show (upd V 23 (.pointer (some ⟨bb, oo + (m0 + 1) * 9, none⟩))) 11 = .bool true ∧ (upd V 23 (.pointer (some ⟨bb, oo + (m0 + 1) * 9, none⟩))) 22 = .pointer (some ⟨bb, oo + (m0 + 1) * 9, none⟩) from ⟨e11, e22⟩)
                    clear hK hC hW hL HV s0
                    rw [HFR.out]
                    rw [e11, e22]
                    clear e11 e22
                    go_wp2_with fail
                    show K _ _
                    have := H.out _ (Ext.refl _)
                    rw [HFR.out] at this
                    obtain ⟨u11, u22⟩ := HU.out
                    rw [u11, u22] at this
                    exact this
                  · rintro L A W K hL hC hW ⟨V, rfl, HV, s0⟩ hK
                    have e11 : V 11 = .bool true := HV 11 _ rfl (hW 11 rfl)
                    have e23 : V 23 = .pointer (some ⟨bb, oo + (m0 + 1) * 9, none⟩) := HV 23 _ rfl (hW 23 rfl)
                    have hB := s0
                    have H := Lib.hid (show ∀ W', Ext W W' → K (fr (upd V 24 (.agg (cS p)))) W' from fun W' he => hK _ _ ⟨upd V 24 (.agg (cS p)), rfl, HV.up 24 _ (fun x hx => Option.some.inj hx), AxC.ext s0 he⟩)
                    have HU := Lib.hid (show (upd V 24 (.agg (cS p))) 11 = .bool true ∧ (upd V 24 (.agg (cS p))) 23 = .pointer (some ⟨bb, oo + (m0 + 1) * 9, none⟩) from ⟨e11, e23⟩)
                    clear hK hC hW hL HV s0
                    rw [HFR.out]
                    rw [e11, e23]
                    clear e11 e23
                    have HWD := Lib.hid (cP_spot (rangeK_ext HP.out hB.2))
                    clear hB
                    refine wpList_loadS rfl (.tmp 75) rfl bb (oo + (m0 + 1) * 9) p rfl HWD.out ?_
                    show K _ _
                    have := H.out _ (Ext.refl _)
                    rw [HFR.out] at this
                    obtain ⟨u11, u23⟩ := HU.out
                    rw [u11, u23] at this
                    exact this
                  · rintro L A W K hL hC hW ⟨V, rfl, HV, s0⟩ hK
                    have e11 : V 11 = .bool true := HV 11 _ rfl (hW 11 rfl)
                    have e18 : V 18 = .agg (cS q) := HV 18 _ rfl (hW 18 rfl)
                    have e24 : V 24 = .agg (cS p) := HV 24 _ rfl (hW 24 rfl)
                    have hB := s0
                    have H := Lib.hid (show ∀ W', Ext W W' → K (fr (upd V 25 (.bool (decide (q.cod < p.cod))))) W' from fun W' he => hK _ _ ⟨upd V 25 (.bool (decide (q.cod < p.cod))), rfl, HV.up 25 _ (fun x hx => Option.some.inj hx), AxC.ext s0 he⟩)
                    have HU := Lib.hid (show (upd V 25 (.bool (decide (q.cod < p.cod)))) 11 = .bool true ∧ (upd V 25 (.bool (decide (q.cod < p.cod)))) 18 = .agg (cS q) ∧ (upd V 25 (.bool (decide (q.cod < p.cod)))) 24 = .agg (cS p) from ⟨e11, e18, e24⟩)
                    clear hK hC hW hL HV s0
                    rw [HFR.out]
                    rw [e11, e18, e24]
                    clear e11 e18 e24
                    clear hB
                    go_wp2_with fail
                    refine (HBE.out _).mono ?_
                    rintro e wx ⟨rfl, he⟩
                    have := H.out _ he
                    clear H
                    go_wp2_with fail
                    show K _ _
                    rw [HFR.out] at this
                    obtain ⟨u11, u18, u24⟩ := HU.out
                    rw [u11, u18, u24] at this
                    exact this
                  · rintro L A W K hL hC hW ⟨V, rfl, HV, s0⟩ hK
                    have e11 : V 11 = .bool true := HV 11 _ rfl (hW 11 rfl)
                    have e25 : V 25 = .bool (decide (q.cod < p.cod)) := HV 25 _ rfl (hW 25 rfl)
                    have H := Lib.hid (show ∀ W', Ext W W' → K (fr (upd V 26 (.bool (!decide (q.cod < p.cod))))) W' from fun W' he => hK _ _ ⟨upd V 26 (.bool (!decide (q.cod < p.cod))), rfl, HV.up 26 _ (fun x hx => Option.some.inj hx), AxC.ext s0 he⟩)
                    have HU := Lib.hid (show (upd V 26 (.bool (!decide (q.cod < p.cod)))) 11 = .bool true ∧ (upd V 26 (.bool (!decide (q.cod < p.cod)))) 25 = .bool (decide (q.cod < p.cod)) from ⟨e11, e25⟩)
                    clear hK hC hW hL HV s0
                    rw [HFR.out]
                    rw [e11, e25]
                    clear e11 e25
                    go_wp2_with fail
                    show K _ _
                    have := H.out _ (Ext.refl _)
                    rw [HFR.out] at this
                    obtain ⟨u11, u25⟩ := HU.out
                    rw [u11, u25] at this
                    exact this
                  · rintro L A W K hL hC hW ⟨V, rfl, HV, s0⟩ hK
                    have e8 : V 8 = .bool false := HV 8 _ rfl (hW 8 rfl)
                    have e11 : V 11 = .bool true := HV 11 _ rfl (hW 11 rfl)
                    have e26 : V 26 = .bool (!decide (q.cod < p.cod)) := HV 26 _ rfl (hW 26 rfl)
                    have H := Lib.hid (show ∀ W', Ext W W' → K (fr (upd V 27 (.bool (!decide (q.cod < p.cod))))) W' from fun W' he => hK _ _ ⟨upd V 27 (.bool (!decide (q.cod < p.cod))), rfl, HV.up 27 _ (fun x hx => Option.some.inj hx), AxC.ext s0 he⟩)
                    have HU := Lib.hid (show (upd V 27 (.bool (!decide (q.cod < p.cod)))) 8 = .bool false ∧ (upd V 27 (.bool (!decide (q.cod < p.cod)))) 11 = .bool true ∧ (upd V 27 (.bool (!decide (q.cod < p.cod)))) 26 = .bool (!decide (q.cod < p.cod)) from ⟨e8, e11, e26⟩)
                    clear hK hC hW hL HV s0
                    rw [HFR.out]
                    rw [e8, e11, e26]
                    clear e8 e11 e26
                    go_wp2_with fail
                    show K _ _
                    have := H.out _ (Ext.refl _)
                    rw [HFR.out] at this
                    obtain ⟨u8, u11, u26⟩ := HU.out
                    rw [u8, u11, u26] at this
                    exact this
                  · rintro L A W K hL hC hW ⟨V, rfl, HV, s0⟩ hK
                    have e8 : V 8 = .bool false := HV 8 _ rfl (hW 8 rfl)
                    have e27 : V 27 = .bool (!decide (q.cod < p.cod)) := HV 27 _ rfl (hW 27 rfl)
                    have H := Lib.hid (show ∀ W', Ext W W' → K (fr (upd V 28 (.bool (!decide (q.cod < p.cod))))) W' from fun W' he => hK _ _ ⟨upd V 28 (.bool (!decide (q.cod < p.cod))), rfl, HV.up 28 _ (fun x hx => Option.some.inj hx), AxC.ext s0 he⟩)
                    have HU := Lib.hid (show (upd V 28 (.bool (!decide (q.cod < p.cod)))) 8 = .bool false ∧ (upd V 28 (.bool (!decide (q.cod < p.cod)))) 27 = .bool (!decide (q.cod < p.cod)) from ⟨e8, e27⟩)
                    clear hK hC hW hL HV s0
                    rw [HFR.out]
                    rw [e8, e27]
                    clear e8 e27
                    go_wp2_with fail
                    show K _ _
                    have := H.out _ (Ext.refl _)
                    rw [HFR.out] at this
                    obtain ⟨u8, u27⟩ := HU.out
                    rw [u8, u27] at this
                    exact this
                  · rintro L A W hL ⟨V, rfl, HV, s0⟩
                    have e0 : V 0 = .pointer (some ⟨g1, 2, none⟩) := HV 0 _ rfl (hL 0 (by simp))
                    have e1 : V 1 = .slice (some ⟨bb, oo, none⟩) x.p.length c3 := HV 1 _ rfl (hL 1 (by simp))
                    have e2 : V 2 = .int .i64 ((m0 + 1 : Nat) : Int) := HV 2 _ rfl (hL 2 (by simp))
                    have e3 : V 3 = .pointer (some ⟨bb, oo + (m0 + 1) * 9, none⟩) := HV 3 _ rfl (hL 3 (by simp))
                    have e4 : V 4 = .pointer (some ⟨bb, oo + (m0 + 1) * 9 + 5, none⟩) := HV 4 _ rfl (hL 4 (by simp))
                    have e5 : V 5 = wv p.val := HV 5 _ rfl (hL 5 (by simp))
                    have e6 : V 6 = wv 0 := HV 6 _ rfl (hL 6 (by simp))
                    have e7 : V 7 = .bool false := HV 7 _ rfl (hL 7 (by simp))
                    have e8 : V 8 = .bool false := HV 8 _ rfl (hL 8 (by simp))
                    have e9 : V 9 = .int .i64 ((m0 + 1 : Nat) : Int) := HV 9 _ rfl (hL 9 (by simp))
                    have e10 : V 10 = .bool true := HV 10 _ rfl (hL 10 (by simp))
                    have e11 : V 11 = .bool true := HV 11 _ rfl (hL 11 (by simp))
                    have e12 : V 12 = .pointer (some ⟨g1, 2, none⟩) := HV 12 _ rfl (hL 12 (by simp))
                    have e13 : V 13 = .slice (some ⟨bb, oo, none⟩) x.p.length c3 := HV 13 _ rfl (hL 13 (by simp))
                    have e14 : V 14 = .int .i64 ((m0 + 1 : Nat) : Int) := HV 14 _ rfl (hL 14 (by simp))
                    have e15 : V 15 = .int .i64 (m0 : Nat) := HV 15 _ rfl (hL 15 (by simp))
                    have e16 : V 16 = .pointer (some ⟨bb, oo + m0 * 9, none⟩) := HV 16 _ rfl (hL 16 (by simp))
                    have e17 : V 17 = .pointer (some ⟨bb, oo + m0 * 9, none⟩) := HV 17 _ rfl (hL 17 (by simp))
                    have e18 : V 18 = .agg (cS q) := HV 18 _ rfl (hL 18 (by simp))
                    have e19 : V 19 = .pointer (some ⟨g1, 2, none⟩) := HV 19 _ rfl (hL 19 (by simp))
                    have e20 : V 20 = .slice (some ⟨bb, oo, none⟩) x.p.length c3 := HV 20 _ rfl (hL 20 (by simp))
                    have e21 : V 21 = .int .i64 ((m0 + 1 : Nat) : Int) := HV 21 _ rfl (hL 21 (by simp))
                    have e22 : V 22 = .pointer (some ⟨bb, oo + (m0 + 1) * 9, none⟩) := HV 22 _ rfl (hL 22 (by simp))
                    have e23 : V 23 = .pointer (some ⟨bb, oo + (m0 + 1) * 9, none⟩) := HV 23 _ rfl (hL 23 (by simp))
                    have e24 : V 24 = .agg (cS p) := HV 24 _ rfl (hL 24 (by simp))
                    have e25 : V 25 = .bool (decide (q.cod < p.cod)) := HV 25 _ rfl (hL 25 (by simp))
                    have e26 : V 26 = .bool (!decide (q.cod < p.cod)) := HV 26 _ rfl (hL 26 (by simp))
                    have e27 : V 27 = .bool (!decide (q.cod < p.cod)) := HV 27 _ rfl (hL 27 (by simp))
                    have e28 : V 28 = .bool (!decide (q.cod < p.cod)) := HV 28 _ rfl (hL 28 (by simp))
                    have hA := s0
                    rw [HFR.out]
                    rw [e0, e1, e2, e3, e4, e5, e6, e7, e8, e9, e10, e11, e12, e13, e14, e15, e16, e17, e18, e19, e20, e21, e22, e23, e24, e25, e26, e27, e28]
                    clear hL HV HFR e0 e1 e2 e3 e4 e5 e6 e7 e8 e9 e10 e11 e12 e13 e14 e15 e16 e17 e18 e19 e20 e21 e22 e23 e24 e25 e26 e27 e28 s0
                    have HXN := Lib.hid (HXR.out.trans hA.2)
                    have HXW := Lib.hid (HXR.out.trans hA.2)
                    have HXC := Lib.hid hA.1
                    clear hA
                    cases hrb : decide (q.cod < p.cod) with
                    | false =>
                      have HF := Lib.hid (HST'.out (of_decide_eq_false hrb))
                      clear hrb
                      go_wp2_with fail
                      refine bodyPost_ret (results_tmp rfl _ _ _) rfl ?_
                      exact ⟨by rw [HF.out]; rfl, HXW.out⟩
                    | true =>
                      have HT := Lib.hid (HMO'.out (of_decide_eq_true hrb))
                      clear hrb
                      go_wp2_with fail
                      exact ⟨⟨m0 + 1 + 1, by omega, by go_num, Lib.hid ⟨HT.out, HNV.out, HXC.out, HXN.out⟩⟩, by simp [intOf]; omega⟩
            · obtain rfl : i0 = x.p.length := by omega
              have hd : decide (x.p.length < x.p.length) = false := decide_eq_false (by omega)
              have hd2 : decide ((x.p.length : Int) < (x.p.length : Int)) = false := decide_eq_false (by omega)
              have HNZ := Lib.hid (nz_all HJ.out.2.1)
              have HUP := Lib.hid (show ∀ m, m + 1 < x.p.length → (x.p.getD m pz0).cod < (x.p.getD (m + 1) pz0).cod from HJ.out.1)
              have HXW := Lib.hid HJ.out.2.2.2
              have q0 := HC.out.cell 0 _ rfl
              have q1 := HC.out.cell 1 _ rfl
              clear HJ hk hlt
              by_cases l1 : x.a.length ≤ 400
              · have e1 : decide (x.a.length ≤ 400) = true := decide_eq_true l1
                have e2 : decide ((x.a.length : Int) ≤ 400) = true := decide_eq_true (by omega)
                have HRA := Lib.hid (rs_all l1 HUA.out)
                by_cases l2 : x.s.length ≤ 400
                · have e3 : decide (x.s.length ≤ 400) = true := decide_eq_true l2
                  have e4 : decide ((x.s.length : Int) ≤ 400) = true := decide_eq_true (by omega)
                  have HRS := Lib.hid (rs_all l2 HUS.out)
                  by_cases l3 : x.p.length ≤ 400
                  · have e5 : decide (x.p.length ≤ 400) = true := decide_eq_true l3
                    have e6 : decide ((x.p.length : Int) ≤ 400) = true := decide_eq_true (by omega)
                    have HF := Lib.hid (right_yes HRA.out HRS.out (rs_all l3 HUP.out) HNZ.out)
                    clear l1 l2 l3
                    go_wp2_with fail
                    refine bodyPost_ret (results_tmp rfl _ _ _) rfl ?_
                    exact ⟨by rw [HF.out]; rfl, HXW.out⟩
                  · have e5 : decide (x.p.length ≤ 400) = false := decide_eq_false l3
                    have e6 : decide ((x.p.length : Int) ≤ 400) = false := decide_eq_false (by omega)
                    have HF := Lib.hid (right_no3 (rs_long (show 400 < x.p.length by omega)))
                    clear l1 l2 l3
                    go_wp2_with fail
                    refine bodyPost_ret (results_tmp rfl _ _ _) rfl ?_
                    exact ⟨by rw [HF.out]; rfl, HXW.out⟩
                · have e3 : decide (x.s.length ≤ 400) = false := decide_eq_false l2
                  have e4 : decide ((x.s.length : Int) ≤ 400) = false := decide_eq_false (by omega)
                  have HF := Lib.hid (right_no2 (rs_long (show 400 < x.s.length by omega)))
                  clear l1 l2
                  go_wp2_with fail
                  refine bodyPost_ret (results_tmp rfl _ _ _) rfl ?_
                  exact ⟨by rw [HF.out]; rfl, HXW.out⟩
              · have e1 : decide (x.a.length ≤ 400) = false := decide_eq_false l1
                have e2 : decide ((x.a.length : Int) ≤ 400) = false := decide_eq_false (by omega)
                have HF := Lib.hid (right_no1 (rs_long (show 400 < x.a.length by omega)))
                clear l1
                go_wp2_with fail
                refine bodyPost_ret (results_tmp rfl _ _ _) rfl ?_
                exact ⟨by rw [HF.out]; rfl, HXW.out⟩
end Go.Proofs.Ytjampleddeidaaa
