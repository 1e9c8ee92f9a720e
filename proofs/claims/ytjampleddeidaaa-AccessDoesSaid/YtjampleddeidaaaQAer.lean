/- Package access: the document's SameAddrs, Same. Package access: the document's Before, Load. -/
import Derived.Test.YtjampleddeidaaaQAcz
import Derived.Test.YtjampleddeidaaaQAcs
import Derived.Test.YtjampleddeidaaaQAct
namespace Go.Proofs.Ytjampleddeidaaa
open Go.ChangeShapes Go.WideShapes Go.ChangeAt Go.RowKit Go.Shelf

set_option maxRecDepth 100000 in
theorem rows_stop {l m : List Pe} {k : Nat} (h : l.getD k pz0 ≠ m.getD k pz0) : decide (l = m) = false := decide_eq_false (fun e => h (by rw [e]))
set_option maxRecDepth 100000 in
theorem rows_all {l m : List Pe} (hl : l.length = m.length) (h : ∀ i, i < l.length → l.getD i pz0 = m.getD i pz0) : decide (l = m) = true := decide_eq_true (by
  apply List.ext_getElem hl
  intro i hi hj
  have := h i hi
  rwa [List.getD_eq_getElem?_getD, List.getD_eq_getElem?_getD, List.getElem?_eq_getElem hi, List.getElem?_eq_getElem hj] at this)
set_option maxRecDepth 100000 in
theorem rows_more {l m : List Pe} {k : Nat} (h : ∀ i, i < k → l.getD i pz0 = m.getD i pz0) (hk : l.getD k pz0 = m.getD k pz0) : ∀ i, i < k + 1 → l.getD i pz0 = m.getD i pz0 := fun i hi => by
  rcases Nat.lt_or_ge i k with h1 | h1
  · exact h i h1
  · obtain rfl : i = k := by omega
    exact hk
set_option maxRecDepth 100000 in
set_option maxHeartbeats 8000000 in
theorem refSameA_any (v u : Value) (l m : List Pe) (w : World) (hs : XA w v l) (ht : XA w u m) : Calls Try.prog 37 #[v, u] w fun e w' => e = .returned (.bool (decide (l = m))) ∧ Ext w w' := by
  have HS := Lib.hid hs
  have HT := Lib.hid ht
  obtain ⟨A1, c1, rfl, h1, h2⟩ := hs.len
  obtain ⟨A2, c2, rfl, h3, h4⟩ := ht.len
  unfold maxLen at h2 h4
  clear hs ht
  go_enter Try.func37, Try.ntmps37
  by_cases hl : l.length = m.length
  case neg =>
    have HF : Hid (decide (l = m) = false) := Lib.hid (decide_eq_false (fun e => hl (by rw [e])))
    have e1 : ((l.length : Int) != (m.length : Int)) = true := by rw [bne_iff_ne]; omega
    have e2 : ((l.length : Int) == (m.length : Int)) = false := by rw [beq_eq_false_iff_ne]; omega
    clear hl
    go_wp2_with fail
    go_ret
    exact ⟨by rw [HF.out]; rfl, Ext.refl _⟩
  have e1 : ((l.length : Int) != (m.length : Int)) = false := by rw [bne_eq_false_iff_eq]; omega
  have e2 : ((l.length : Int) == (m.length : Int)) = true := by rw [beq_iff_eq]; omega
  have HL := Lib.hid hl
  clear hl
  go_wp2_with fail
  clear e1 e2
  go_loopw [5] (fun iv wr => ∃ k : Nat, k ≤ l.length ∧ iv = .int .i64 k ∧ Hid ((∀ i, i < k → l.getD i pz0 = m.getD i pz0) ∧ Ext w wr)) (fun iv _ => l.length - (intOf iv).toNat)
  case atStart => exact ⟨0, by omega, rfl, Lib.hid ⟨fun i hi => absurd hi (by omega), Ext.refl _⟩⟩
  case round =>
    obtain ⟨k, hk, rfl, HJ⟩ := hrel
    by_cases hlt : k < l.length
    · have hd : decide (k < l.length) = true := decide_eq_true hlt
      have hd2 : decide ((k : Int) < (l.length : Int)) = true := decide_eq_true (by omega)
      have hlm : k < m.length := by have := HL.out; omega
      have hd3 : decide (k < m.length) = true := decide_eq_true hlm
      have hd4 : decide ((k : Int) < (m.length : Int)) = true := decide_eq_true (by omega)
      obtain ⟨bb, oo, rfl, hrg, hp⟩ := (HS.out.ext HJ.out.2).at k hlt
      obtain ⟨b2, o2, rfl, hrg2, hp2⟩ := (HT.out.ext HJ.out.2).at k hlm
      have HR := Lib.hid hrg
      have HR2 := Lib.hid hrg2
      have HPP := Lib.hid hp
      have HPQ := Lib.hid hp2
      have HX := Lib.hid HJ.out.2
      have HNX := Lib.hid (fun h => rows_more HJ.out.1 h)
      have HNO := Lib.hid (fun h => rows_stop (l := l) (m := m) (k := k) h)
      clear hrg hp hrg2 hp2 HJ
      generalize l.getD k pz0 = p at *
      generalize m.getD k pz0 = q at *
      obtain ⟨nb, hnb⟩ : ∃ nb, ((p.addr : Int) != (q.addr : Int)) = nb := ⟨_, rfl⟩
      have HNB := Lib.hid hnb
      have HYES := Lib.hid (show nb = true → p ≠ q from fun h e => by rw [← hnb, e] at h; simp at h)
      have HSAM := Lib.hid (show nb = false → p = q from fun h => eq_addr HPP.out HPQ.out (by rw [← hnb] at h; simp at h; omega))
      clear hnb
      go_upto_region 6 with fail
      refine wp_named fun a0 ha0 => ?_
      obtain ⟨fr, hfr⟩ : ∃ fr : (Nat → Value) → Act, ∀ V, fr V = (((((((((a0.put (some 17) (V 0)).put (some 18) (V 1)).put (some 19) (V 2)).put (some 20) (V 3)).put (some 21) (V 4)).put (some 22) (V 5)).put (some 23) (V 6)).put (some 24) (V 7)).put (some 25) (V 8)) := ⟨fun V => (((((((((a0.put (some 17) (V 0)).put (some 18) (V 1)).put (some 19) (V 2)).put (some 20) (V 3)).put (some 21) (V 4)).put (some 22) (V 5)).put (some 23) (V 6)).put (some 24) (V 7)).put (some 25) (V 8)), fun _ => rfl⟩
      rw [ha0] at hfr
      simp only [Act.put, List.setIfInBounds_toArray, List.set_cons_zero, List.set_cons_succ] at hfr
      have HFR := Lib.hid hfr
      clear hfr
      refine wp_region_inv (by kernel_rfl) (by kernel_rfl) (fun L A W => ∃ V : Nat → Value, A = fr V ∧ Vals (fun j => ([some (.slice (some ⟨bb, oo, none⟩) l.length c1), some (.int .i64 (k : Nat)), some (.pointer (some ⟨bb, oo + k, none⟩)), some (.int .u64 (p.addr : Nat)), some (.slice (some ⟨b2, o2, none⟩) m.length c2), some (.int .i64 (k : Nat)), some (.pointer (some ⟨b2, o2 + k, none⟩)), some (.int .u64 (q.addr : Nat)), some (.bool nb)] : List (Option Value)).getD j none) L V ∧ (Ext wr W)) ?_ ⟨?_, ?_, ?_, ?_, ?_, ?_, ?_, ?_, ?_, trivial⟩ ?_
      · refine ⟨fun j => a0.tmps.getD (([17, 18, 19, 20, 21, 22, 23, 24, 25] : List Nat).getD j 0) undef, ?_, Vals.no _ _ _ (far_none _ _ rfl), (Ext.refl wr).drew⟩
        rw [HFR.out, ha0]
        rfl
      all_goals clear ha0
      · rintro L A W K hL hC hW ⟨V, rfl, HV, s0⟩ hK
        have H := Lib.hid (show ∀ W', Ext W W' → K (fr (upd V 0 (.slice (some ⟨bb, oo, none⟩) l.length c1))) W' from fun W' he => hK _ _ ⟨upd V 0 (.slice (some ⟨bb, oo, none⟩) l.length c1), rfl, HV.up 0 _ (fun x hx => Option.some.inj hx), Ext.trans s0 he⟩)
        clear hK hC hW hL HV s0
        rw [HFR.out]
        go_wp2_with fail
        show K _ _
        have := H.out _ (Ext.refl _)
        rw [HFR.out] at this
        exact this
      · rintro L A W K hL hC hW ⟨V, rfl, HV, s0⟩ hK
        have H := Lib.hid (show ∀ W', Ext W W' → K (fr (upd V 1 (.int .i64 (k : Nat)))) W' from fun W' he => hK _ _ ⟨upd V 1 (.int .i64 (k : Nat)), rfl, HV.up 1 _ (fun x hx => Option.some.inj hx), Ext.trans s0 he⟩)
        clear hK hC hW hL HV s0
        rw [HFR.out]
        go_wp2_with fail
        show K _ _
        have := H.out _ (Ext.refl _)
        rw [HFR.out] at this
        exact this
      · rintro L A W K hL hC hW ⟨V, rfl, HV, s0⟩ hK
        have e0 : V 0 = .slice (some ⟨bb, oo, none⟩) l.length c1 := HV 0 _ rfl (hW 0 rfl)
        have e1 : V 1 = .int .i64 (k : Nat) := HV 1 _ rfl (hW 1 rfl)
        have H := Lib.hid (show ∀ W', Ext W W' → K (fr (upd V 2 (.pointer (some ⟨bb, oo + k, none⟩)))) W' from fun W' he => hK _ _ ⟨upd V 2 (.pointer (some ⟨bb, oo + k, none⟩)), rfl, HV.up 2 _ (fun x hx => Option.some.inj hx), Ext.trans s0 he⟩)
        have HU := Lib.hid (show (upd V 2 (.pointer (some ⟨bb, oo + k, none⟩))) 0 = .slice (some ⟨bb, oo, none⟩) l.length c1 ∧ (upd V 2 (.pointer (some ⟨bb, oo + k, none⟩))) 1 = .int .i64 (k : Nat) from ⟨e0, e1⟩)
        clear hK hC hW hL HV s0
        rw [HFR.out]
        rw [e0, e1]
        clear e0 e1
        go_wp2_with fail
        show K _ _
        have := H.out _ (Ext.refl _)
        rw [HFR.out] at this
        obtain ⟨u0, u1⟩ := HU.out
        rw [u0, u1] at this
        exact this
      · rintro L A W K hL hC hW ⟨V, rfl, HV, s0⟩ hK
        have e2 : V 2 = .pointer (some ⟨bb, oo + k, none⟩) := HV 2 _ rfl (hW 2 rfl)
        have hB := s0
        have H := Lib.hid (show ∀ W', Ext W W' → K (fr (upd V 3 (.int .u64 (p.addr : Nat)))) W' from fun W' he => hK _ _ ⟨upd V 3 (.int .u64 (p.addr : Nat)), rfl, HV.up 3 _ (fun x hx => Option.some.inj hx), Ext.trans s0 he⟩)
        have HU := Lib.hid (show (upd V 3 (.int .u64 (p.addr : Nat))) 2 = .pointer (some ⟨bb, oo + k, none⟩) from e2)
        clear hK hC hW hL HV s0
        rw [HFR.out]
        rw [e2]
        clear e2
        have hcl := hB.cell (ex_addr HR.out)
        clear hB
        go_wp2_with fail
        show K _ _
        have := H.out _ (Ext.refl _)
        rw [HFR.out] at this
        obtain u2 := HU.out
        rw [u2] at this
        exact this
      · rintro L A W K hL hC hW ⟨V, rfl, HV, s0⟩ hK
        have H := Lib.hid (show ∀ W', Ext W W' → K (fr (upd V 4 (.slice (some ⟨b2, o2, none⟩) m.length c2))) W' from fun W' he => hK _ _ ⟨upd V 4 (.slice (some ⟨b2, o2, none⟩) m.length c2), rfl, HV.up 4 _ (fun x hx => Option.some.inj hx), Ext.trans s0 he⟩)
        clear hK hC hW hL HV s0
        rw [HFR.out]
        go_wp2_with fail
        show K _ _
        have := H.out _ (Ext.refl _)
        rw [HFR.out] at this
        exact this
      · rintro L A W K hL hC hW ⟨V, rfl, HV, s0⟩ hK
        have H := Lib.hid (show ∀ W', Ext W W' → K (fr (upd V 5 (.int .i64 (k : Nat)))) W' from fun W' he => hK _ _ ⟨upd V 5 (.int .i64 (k : Nat)), rfl, HV.up 5 _ (fun x hx => Option.some.inj hx), Ext.trans s0 he⟩)
        clear hK hC hW hL HV s0
        rw [HFR.out]
        go_wp2_with fail
        show K _ _
        have := H.out _ (Ext.refl _)
        rw [HFR.out] at this
        exact this
      · rintro L A W K hL hC hW ⟨V, rfl, HV, s0⟩ hK
        have e4 : V 4 = .slice (some ⟨b2, o2, none⟩) m.length c2 := HV 4 _ rfl (hW 4 rfl)
        have e5 : V 5 = .int .i64 (k : Nat) := HV 5 _ rfl (hW 5 rfl)
        have H := Lib.hid (show ∀ W', Ext W W' → K (fr (upd V 6 (.pointer (some ⟨b2, o2 + k, none⟩)))) W' from fun W' he => hK _ _ ⟨upd V 6 (.pointer (some ⟨b2, o2 + k, none⟩)), rfl, HV.up 6 _ (fun x hx => Option.some.inj hx), Ext.trans s0 he⟩)
        have HU := Lib.hid (show (upd V 6 (.pointer (some ⟨b2, o2 + k, none⟩))) 4 = .slice (some ⟨b2, o2, none⟩) m.length c2 ∧ (upd V 6 (.pointer (some ⟨b2, o2 + k, none⟩))) 5 = .int .i64 (k : Nat) from ⟨e4, e5⟩)
        clear hK hC hW hL HV s0
        rw [HFR.out]
        rw [e4, e5]
        clear e4 e5
        go_wp2_with fail
        show K _ _
        have := H.out _ (Ext.refl _)
        rw [HFR.out] at this
        obtain ⟨u4, u5⟩ := HU.out
        rw [u4, u5] at this
        exact this
      · rintro L A W K hL hC hW ⟨V, rfl, HV, s0⟩ hK
        have e6 : V 6 = .pointer (some ⟨b2, o2 + k, none⟩) := HV 6 _ rfl (hW 6 rfl)
        have hB := s0
        have H := Lib.hid (show ∀ W', Ext W W' → K (fr (upd V 7 (.int .u64 (q.addr : Nat)))) W' from fun W' he => hK _ _ ⟨upd V 7 (.int .u64 (q.addr : Nat)), rfl, HV.up 7 _ (fun x hx => Option.some.inj hx), Ext.trans s0 he⟩)
        have HU := Lib.hid (show (upd V 7 (.int .u64 (q.addr : Nat))) 6 = .pointer (some ⟨b2, o2 + k, none⟩) from e6)
        clear hK hC hW hL HV s0
        rw [HFR.out]
        rw [e6]
        clear e6
        have hcl := hB.cell (ex_addr HR2.out)
        clear hB
        go_wp2_with fail
        show K _ _
        have := H.out _ (Ext.refl _)
        rw [HFR.out] at this
        obtain u6 := HU.out
        rw [u6] at this
        exact this
      · rintro L A W K hL hC hW ⟨V, rfl, HV, s0⟩ hK
        have e3 : V 3 = .int .u64 (p.addr : Nat) := HV 3 _ rfl (hW 3 rfl)
        have e7 : V 7 = .int .u64 (q.addr : Nat) := HV 7 _ rfl (hW 7 rfl)
        have hB := s0
        have H := Lib.hid (show ∀ W', Ext W W' → K (fr (upd V 8 (.bool nb))) W' from fun W' he => hK _ _ ⟨upd V 8 (.bool nb), rfl, HV.up 8 _ (fun x hx => Option.some.inj hx), Ext.trans s0 he⟩)
        have HU := Lib.hid (show (upd V 8 (.bool nb)) 3 = .int .u64 (p.addr : Nat) ∧ (upd V 8 (.bool nb)) 7 = .int .u64 (q.addr : Nat) from ⟨e3, e7⟩)
        clear hK hC hW hL HV s0
        rw [HFR.out]
        rw [e3, e7]
        clear e3 e7
        clear hB
        go_wp2_with fail
        rw [HNB.out]
        show K _ _
        have := H.out _ (Ext.refl _)
        rw [HFR.out] at this
        obtain ⟨u3, u7⟩ := HU.out
        rw [u3, u7] at this
        exact this
      · rintro L A W hL ⟨V, rfl, HV, s0⟩
        have e0 : V 0 = .slice (some ⟨bb, oo, none⟩) l.length c1 := HV 0 _ rfl (hL 0 (by simp))
        have e1 : V 1 = .int .i64 (k : Nat) := HV 1 _ rfl (hL 1 (by simp))
        have e2 : V 2 = .pointer (some ⟨bb, oo + k, none⟩) := HV 2 _ rfl (hL 2 (by simp))
        have e3 : V 3 = .int .u64 (p.addr : Nat) := HV 3 _ rfl (hL 3 (by simp))
        have e4 : V 4 = .slice (some ⟨b2, o2, none⟩) m.length c2 := HV 4 _ rfl (hL 4 (by simp))
        have e5 : V 5 = .int .i64 (k : Nat) := HV 5 _ rfl (hL 5 (by simp))
        have e6 : V 6 = .pointer (some ⟨b2, o2 + k, none⟩) := HV 6 _ rfl (hL 6 (by simp))
        have e7 : V 7 = .int .u64 (q.addr : Nat) := HV 7 _ rfl (hL 7 (by simp))
        have e8 : V 8 = .bool nb := HV 8 _ rfl (hL 8 (by simp))
        have hA := s0
        rw [HFR.out]
        rw [e0, e1, e2, e3, e4, e5, e6, e7, e8]
        clear hL HV HFR e0 e1 e2 e3 e4 e5 e6 e7 e8 s0
        cases nb with
        | true =>
          have HF := Lib.hid (HNO.out (HYES.out rfl))
          go_wp2_with fail
          refine bodyPost_ret (results_tmp rfl _ _ _) rfl ?_
          exact ⟨by rw [HF.out]; rfl, HX.out.trans hA⟩
        | false =>
          have HN := Lib.hid (HNX.out (HSAM.out rfl))
          go_wp2_with fail
          exact ⟨⟨k + 1, by omega, by go_num, Lib.hid ⟨HN.out, HX.out.trans hA⟩⟩, by simp [intOf]; omega⟩
    · obtain rfl : k = l.length := by omega
      have hd : decide (l.length < l.length) = false := decide_eq_false (by omega)
      have hd2 : decide ((l.length : Int) < (l.length : Int)) = false := decide_eq_false (by omega)
      have HF := Lib.hid (rows_all HL.out HJ.out.1)
      go_wp2_with fail
      refine bodyPost_ret (results_tmp rfl _ _ _) rfl ?_
      exact ⟨by rw [HF.out]; rfl, HJ.out.2⟩
set_option maxRecDepth 100000 in
theorem SmR.ext {wr W W' : World} {g2 g3 : Nat} {ca cb : Array Value} (h : Cs W g2 26 ca ∧ Cs W g3 26 cb ∧ Ext wr W) (he : Ext W W') : Cs W' g2 26 ca ∧ Cs W' g3 26 cb ∧ Ext wr W' := ⟨Cs.ext h.1 he, Cs.ext h.2.1 he, h.2.2.trans he⟩
set_option maxRecDepth 100000 in
set_option maxHeartbeats 8000000 in
theorem refSameX_any (va vs vp ua us up : Value) (x y : Ax) (w : World) (hx : AxR w va vs vp x) (hy : AxR w ua us up y) : Calls Try.prog 13 #[.agg #[va, vs, vp], .agg #[ua, us, up]] w fun e w' => e = .returned (.bool (sameX x y)) ∧ Ext w w' := by
  have HX := Lib.hid hx
  have HY := Lib.hid hy
  obtain ⟨A1, c1, rfl, _, _⟩ := hx.1.len
  obtain ⟨A2, c2, rfl, _, hA2⟩ := hx.2.1.len
  obtain ⟨A3, c3, rfl, _, hA3⟩ := hx.2.2.len
  obtain ⟨B1, d1, rfl, _, _⟩ := hy.1.len
  obtain ⟨B2, d2, rfl, _, hB2⟩ := hy.2.1.len
  obtain ⟨B3, d3, rfl, _, hB3⟩ := hy.2.2.len
  unfold maxLen at hA2 hA3 hB2 hB3
  obtain ⟨w0, hw0⟩ : ∃ w0, (w.alloc (.cells #[.slice A1 x.a.length c1, .slice A2 x.s.length c2, .slice A3 x.p.length c3] 26)).alloc (.cells #[.slice B1 y.a.length d1, .slice B2 y.s.length d2, .slice B3 y.p.length d3] 26) = w0 := ⟨_, rfl⟩
  have HC : Hid (Cs w0 w.heap.size 26 #[.slice A1 x.a.length c1, .slice A2 x.s.length c2, .slice A3 x.p.length c3]) := Lib.hid (by rw [← hw0]; exact Cs.alloc (Cs.new _ _ _ _ rfl) _)
  have HD : Hid (Cs w0 (w.heap.size + 1) 26 #[.slice B1 y.a.length d1, .slice B2 y.s.length d2, .slice B3 y.p.length d3]) := Lib.hid (by rw [← hw0]; exact Cs.new _ _ _ _ (by simp))
  have HE : Hid (Ext w w0) := Lib.hid (by rw [← hw0]; exact ((Ext.refl w).alloc _).alloc _)
  have HDF : Hid (sameX x y = (decide (x.a = y.a) && (decide (x.s = y.s) && decide (x.p = y.p)))) := Lib.hid rfl
  have HW0 := Lib.hid hw0
  clear hx hy hw0
  go_enter Try.func13, Try.ntmps13
  go_upto_region 1 with fail
  rw [HW0.out]
  clear HW0
  obtain ⟨g2, hg2⟩ : ∃ g, w.heap.size = g := ⟨_, rfl⟩
  obtain ⟨g3, hg3⟩ : ∃ g, w.heap.size + 1 = g := ⟨_, rfl⟩
  rw [hg3] at HD ⊢
  rw [hg2] at HC ⊢
  clear hg2 hg3
  have q1 := HC.out.cell 0 _ rfl
  have q2 := HD.out.cell 0 _ rfl
  go_wp2_with fail
  refine (refSameA_any _ _ x.a y.a _ (HX.out.1.ext HE.out) (HY.out.1.ext HE.out)).mono ?_
  rintro e w1 ⟨rfl, he⟩
  have HJ0 := Lib.hid (show Cs w1 g2 26 #[.slice A1 x.a.length c1, .slice A2 x.s.length c2, .slice A3 x.p.length c3] ∧ Cs w1 g3 26 #[.slice B1 y.a.length d1, .slice B2 y.s.length d2, .slice B3 y.p.length d3] ∧ Ext w w1 from ⟨Cs.ext HC.out he, Cs.ext HD.out he, HE.out.trans he⟩)
  clear he q1 q2 HC HD HE
  cases ha : decide (x.a = y.a) with
  | false =>
    have HF := Lib.hid (show sameX x y = false by rw [HDF.out, ha, Bool.false_and])
    clear ha
    go_wp2_with fail
    refine bodyPost_ret (results_tmp rfl _ _ _) rfl ?_
    exact ⟨by rw [HF.out]; rfl, HJ0.out.2.2⟩
  | true =>
    have HDF := Lib.hid (show sameX x y = (decide (x.s = y.s) && decide (x.p = y.p)) by rw [HDF.out, ha, Bool.true_and])
    have q1 := HJ0.out.1.cell 1 _ rfl
    have q2 := HJ0.out.2.1.cell 1 _ rfl
    have q3 := HJ0.out.1.cell 2 _ rfl
    have q4 := HJ0.out.2.1.cell 2 _ rfl
    clear ha
    by_cases hs : x.s.length = y.s.length
    case neg =>
      have HF := Lib.hid (show sameX x y = false by rw [HDF.out, decide_eq_false (fun e => hs (by rw [e])), Bool.false_and])
      have e1 : ((x.s.length : Int) != (y.s.length : Int)) = true := by rw [bne_iff_ne]; omega
      have e2 : ((x.s.length : Int) == (y.s.length : Int)) = false := by rw [beq_eq_false_iff_ne]; omega
      clear hs
      go_wp2_with fail
      refine bodyPost_ret (results_tmp rfl _ _ _) rfl ?_
      exact ⟨by rw [HF.out]; rfl, HJ0.out.2.2⟩
    have e1 : ((x.s.length : Int) != (y.s.length : Int)) = false := by rw [bne_eq_false_iff_eq]; omega
    have e2 : ((x.s.length : Int) == (y.s.length : Int)) = true := by rw [beq_iff_eq]; omega
    have HLS := Lib.hid hs
    clear hs
    by_cases hp : x.p.length = y.p.length
    case neg =>
      have HF := Lib.hid (show sameX x y = false by rw [HDF.out, show decide (x.p = y.p) = false from decide_eq_false (fun e => hp (by rw [e])), Bool.and_false])
      have e3 : ((x.p.length : Int) != (y.p.length : Int)) = true := by rw [bne_iff_ne]; omega
      have e4 : ((x.p.length : Int) == (y.p.length : Int)) = false := by rw [beq_eq_false_iff_ne]; omega
      clear hp
      go_wp2_with fail
      refine bodyPost_ret (results_tmp rfl _ _ _) rfl ?_
      exact ⟨by rw [HF.out]; rfl, HJ0.out.2.2⟩
    have e3 : ((x.p.length : Int) != (y.p.length : Int)) = false := by rw [bne_eq_false_iff_eq]; omega
    have e4 : ((x.p.length : Int) == (y.p.length : Int)) = true := by rw [beq_iff_eq]; omega
    have HLP := Lib.hid hp
    have HSTS := Lib.hid (fun (h : decide (x.s = y.s) = false) => show sameX x y = false by rw [HDF.out, h, Bool.false_and])
    have HALS := Lib.hid (fun (h : decide (x.s = y.s) = true) => show sameX x y = decide (x.p = y.p) by rw [HDF.out, h, Bool.true_and])
    clear hp HDF
    go_wp2_with fail
    clear e1 e2 e3 e4 q1 q2 q3 q4
    go_loopw [5] (fun iv wr => ∃ k : Nat, k ≤ x.s.length ∧ iv = .int .i64 k ∧ Hid ((∀ i, i < k → x.s.getD i pz0 = y.s.getD i pz0) ∧ Cs wr g2 26 #[.slice A1 x.a.length c1, .slice A2 x.s.length c2, .slice A3 x.p.length c3] ∧ Cs wr g3 26 #[.slice B1 y.a.length d1, .slice B2 y.s.length d2, .slice B3 y.p.length d3] ∧ Ext w wr)) (fun iv _ => x.s.length - (intOf iv).toNat)
    case atStart => exact ⟨0, by omega, rfl, Lib.hid ⟨fun i hi => absurd hi (by omega), HJ0.out⟩⟩
    case round =>
      obtain ⟨k, hk, rfl, HJ⟩ := hrel
      clear HJ0
      have q2 : wr.cell? ⟨g2, 1, none⟩ = some (.slice A2 x.s.length c2) := HJ.out.2.1.cell 1 _ rfl
      by_cases hlt : k < x.s.length
      · have hd : decide (k < x.s.length) = true := decide_eq_true hlt
        have hd2 : decide ((k : Int) < (x.s.length : Int)) = true := decide_eq_true (by omega)
        have hlm : k < y.s.length := by have := HLS.out; omega
        have hd3 : decide (k < y.s.length) = true := decide_eq_true hlm
        have hd4 : decide ((k : Int) < (y.s.length : Int)) = true := decide_eq_true (by omega)
        obtain ⟨bb, oo, rfl, hrg, hp⟩ := (HX.out.2.1.ext HJ.out.2.2.2).at k hlt
        obtain ⟨b2, o2, rfl, hrg2, hp2⟩ := (HY.out.2.1.ext HJ.out.2.2.2).at k hlm
        have HR := Lib.hid hrg
        have HR2 := Lib.hid hrg2
        have HPP := Lib.hid hp
        have HPQ := Lib.hid hp2
        have HWE := Lib.hid (show True ∧ ∀ W, Ext wr W → ∀ a u, wr.cell? a = some u → W.cell? a = some u from ⟨trivial, fun W h a u hc => h.cell hc⟩)
        have HNX := Lib.hid (fun h => rows_more HJ.out.1 h)
        have HNO := Lib.hid (fun h => HSTS.out (rows_stop (l := x.s) (m := y.s) (k := k) h))
        clear hrg hp hrg2 hp2
        generalize x.s.getD k pz0 = p at *
        generalize y.s.getD k pz0 = q at *
        obtain ⟨nb, hnb⟩ : ∃ nb, (!p.eqS q) = nb := ⟨_, rfl⟩
        have HNB := Lib.hid hnb
        have HYES := Lib.hid (show nb = true → p ≠ q from fun h e => by rw [← hnb, e, Pe.eqS_self] at h; cases h)
        have HSAM := Lib.hid (show nb = false → p = q from fun h => eq_spot HPP.out HPQ.out (by rw [← hnb, Bool.not_eq_false'] at h; exact h))
        clear hnb
        go_upto_region 6 with fail
        clear q2
        refine wp_named fun a0 ha0 => ?_
        obtain ⟨fr, hfr⟩ : ∃ fr : (Nat → Value) → Act, ∀ V, fr V = (((((((((((a0.put (some 38) (V 0)).put (some 39) (V 1)).put (some 40) (V 2)).put (some 41) (V 3)).put (some 42) (V 4)).put (some 43) (V 5)).put (some 44) (V 6)).put (some 45) (V 7)).put (some 46) (V 8)).put (some 47) (V 9)).put (some 48) (V 10)) := ⟨fun V => (((((((((((a0.put (some 38) (V 0)).put (some 39) (V 1)).put (some 40) (V 2)).put (some 41) (V 3)).put (some 42) (V 4)).put (some 43) (V 5)).put (some 44) (V 6)).put (some 45) (V 7)).put (some 46) (V 8)).put (some 47) (V 9)).put (some 48) (V 10)), fun _ => rfl⟩
        rw [ha0] at hfr
        simp only [Act.put, List.setIfInBounds_toArray, List.set_cons_zero, List.set_cons_succ] at hfr
        have HFR := Lib.hid hfr
        clear hfr
        refine wp_region_inv (by kernel_rfl) (by kernel_rfl) (fun L A W => ∃ V : Nat → Value, A = fr V ∧ Vals (fun j => ([some (.pointer (some ⟨g2, 1, none⟩)), some (.slice (some ⟨bb, oo, none⟩) x.s.length c2), some (.int .i64 (k : Nat)), some (.pointer (some ⟨bb, oo + k * 5, none⟩)), some (.agg (cS p)), some (.pointer (some ⟨g3, 1, none⟩)), some (.slice (some ⟨b2, o2, none⟩) y.s.length d2), some (.int .i64 (k : Nat)), some (.pointer (some ⟨b2, o2 + k * 5, none⟩)), some (.agg (cS q)), some (.bool nb)] : List (Option Value)).getD j none) L V ∧ (Cs W g2 26 #[.slice A1 x.a.length c1, .slice (some ⟨bb, oo, none⟩) x.s.length c2, .slice A3 x.p.length c3] ∧ Cs W g3 26 #[.slice B1 y.a.length d1, .slice (some ⟨b2, o2, none⟩) y.s.length d2, .slice B3 y.p.length d3] ∧ Ext wr W)) ?_ ⟨?_, ?_, ?_, ?_, ?_, ?_, ?_, ?_, ?_, ?_, ?_, trivial⟩ ?_
        · refine ⟨fun j => a0.tmps.getD (([38, 39, 40, 41, 42, 43, 44, 45, 46, 47, 48] : List Nat).getD j 0) undef, ?_, Vals.no _ _ _ (far_none _ _ rfl), ⟨Cs.ext HJ.out.2.1 (Ext.refl _).drew, Cs.ext HJ.out.2.2.1 (Ext.refl _).drew, (Ext.refl _).drew⟩⟩
          rw [HFR.out, ha0]
          rfl
        all_goals clear ha0
        · rintro L A W K hL hC hW ⟨V, rfl, HV, s0⟩ hK
          have H := Lib.hid (show ∀ W', Ext W W' → K (fr (upd V 0 (.pointer (some ⟨g2, 1, none⟩)))) W' from fun W' he => hK _ _ ⟨upd V 0 (.pointer (some ⟨g2, 1, none⟩)), rfl, HV.up 0 _ (fun x hx => Option.some.inj hx), SmR.ext s0 he⟩)
          clear hK hC hW hL HV s0
          rw [HFR.out]
          go_wp2_with fail
          show K _ _
          have := H.out _ (Ext.refl _)
          rw [HFR.out] at this
          exact this
        · rintro L A W K hL hC hW ⟨V, rfl, HV, s0⟩ hK
          have e0 : V 0 = .pointer (some ⟨g2, 1, none⟩) := HV 0 _ rfl (hW 0 rfl)
          have hB := s0
          have H := Lib.hid (show ∀ W', Ext W W' → K (fr (upd V 1 (.slice (some ⟨bb, oo, none⟩) x.s.length c2))) W' from fun W' he => hK _ _ ⟨upd V 1 (.slice (some ⟨bb, oo, none⟩) x.s.length c2), rfl, HV.up 1 _ (fun x hx => Option.some.inj hx), SmR.ext s0 he⟩)
          have HU := Lib.hid (show (upd V 1 (.slice (some ⟨bb, oo, none⟩) x.s.length c2)) 0 = .pointer (some ⟨g2, 1, none⟩) from e0)
          clear hK hC hW hL HV s0
          rw [HFR.out]
          rw [e0]
          clear e0
          have hcl := hB.1.cell 1 _ rfl
          clear hB
          go_wp2_with fail
          show K _ _
          have := H.out _ (Ext.refl _)
          rw [HFR.out] at this
          obtain u0 := HU.out
          rw [u0] at this
          exact this
        · rintro L A W K hL hC hW ⟨V, rfl, HV, s0⟩ hK
          have H := Lib.hid (show ∀ W', Ext W W' → K (fr (upd V 2 (.int .i64 (k : Nat)))) W' from fun W' he => hK _ _ ⟨upd V 2 (.int .i64 (k : Nat)), rfl, HV.up 2 _ (fun x hx => Option.some.inj hx), SmR.ext s0 he⟩)
          clear hK hC hW hL HV s0
          rw [HFR.out]
          go_wp2_with fail
          show K _ _
          have := H.out _ (Ext.refl _)
          rw [HFR.out] at this
          exact this
        · rintro L A W K hL hC hW ⟨V, rfl, HV, s0⟩ hK
          have e1 : V 1 = .slice (some ⟨bb, oo, none⟩) x.s.length c2 := HV 1 _ rfl (hW 1 rfl)
          have e2 : V 2 = .int .i64 (k : Nat) := HV 2 _ rfl (hW 2 rfl)
          have H := Lib.hid (show ∀ W', Ext W W' → K (fr (upd V 3 (.pointer (some ⟨bb, oo + k * 5, none⟩)))) W' from fun W' he => hK _ _ ⟨upd V 3 (.pointer (some ⟨bb, oo + k * 5, none⟩)), rfl, HV.up 3 _ (fun x hx => Option.some.inj hx), SmR.ext s0 he⟩)
          have HU := Lib.hid (show (upd V 3 (.pointer (some ⟨bb, oo + k * 5, none⟩))) 1 = .slice (some ⟨bb, oo, none⟩) x.s.length c2 ∧ (upd V 3 (.pointer (some ⟨bb, oo + k * 5, none⟩))) 2 = .int .i64 (k : Nat) from ⟨e1, e2⟩)
          clear hK hC hW hL HV s0
          rw [HFR.out]
          rw [e1, e2]
          clear e1 e2
          go_wp2_with fail
          show K _ _
          have := H.out _ (Ext.refl _)
          rw [HFR.out] at this
          obtain ⟨u1, u2⟩ := HU.out
          rw [u1, u2] at this
          exact this
        · rintro L A W K hL hC hW ⟨V, rfl, HV, s0⟩ hK
          have e3 : V 3 = .pointer (some ⟨bb, oo + k * 5, none⟩) := HV 3 _ rfl (hW 3 rfl)
          have hB := s0
          have H := Lib.hid (show ∀ W', Ext W W' → K (fr (upd V 4 (.agg (cS p)))) W' from fun W' he => hK _ _ ⟨upd V 4 (.agg (cS p)), rfl, HV.up 4 _ (fun x hx => Option.some.inj hx), SmR.ext s0 he⟩)
          have HU := Lib.hid (show (upd V 4 (.agg (cS p))) 3 = .pointer (some ⟨bb, oo + k * 5, none⟩) from e3)
          clear hK hC hW hL HV s0
          rw [HFR.out]
          rw [e3]
          clear e3
          have HWW := Lib.hid (fun (j : Nat) (z : Value) (hz : (cS p).toList[j]? = some z) => HWE.out.2 _ hB.2.2 _ _ (HR.out j z hz))
          clear hB
          refine wpList_loadS rfl (.tmp 41) rfl bb (oo + k * 5) p rfl HWW.out ?_
          show K _ _
          have := H.out _ (Ext.refl _)
          rw [HFR.out] at this
          obtain u3 := HU.out
          rw [u3] at this
          exact this
        · rintro L A W K hL hC hW ⟨V, rfl, HV, s0⟩ hK
          have H := Lib.hid (show ∀ W', Ext W W' → K (fr (upd V 5 (.pointer (some ⟨g3, 1, none⟩)))) W' from fun W' he => hK _ _ ⟨upd V 5 (.pointer (some ⟨g3, 1, none⟩)), rfl, HV.up 5 _ (fun x hx => Option.some.inj hx), SmR.ext s0 he⟩)
          clear hK hC hW hL HV s0
          rw [HFR.out]
          go_wp2_with fail
          show K _ _
          have := H.out _ (Ext.refl _)
          rw [HFR.out] at this
          exact this
        · rintro L A W K hL hC hW ⟨V, rfl, HV, s0⟩ hK
          have e5 : V 5 = .pointer (some ⟨g3, 1, none⟩) := HV 5 _ rfl (hW 5 rfl)
          have hB := s0
          have H := Lib.hid (show ∀ W', Ext W W' → K (fr (upd V 6 (.slice (some ⟨b2, o2, none⟩) y.s.length d2))) W' from fun W' he => hK _ _ ⟨upd V 6 (.slice (some ⟨b2, o2, none⟩) y.s.length d2), rfl, HV.up 6 _ (fun x hx => Option.some.inj hx), SmR.ext s0 he⟩)
          have HU := Lib.hid (show (upd V 6 (.slice (some ⟨b2, o2, none⟩) y.s.length d2)) 5 = .pointer (some ⟨g3, 1, none⟩) from e5)
          clear hK hC hW hL HV s0
          rw [HFR.out]
          rw [e5]
          clear e5
          have hcl := hB.2.1.cell 1 _ rfl
          clear hB
          go_wp2_with fail
          show K _ _
          have := H.out _ (Ext.refl _)
          rw [HFR.out] at this
          obtain u5 := HU.out
          rw [u5] at this
          exact this
        · rintro L A W K hL hC hW ⟨V, rfl, HV, s0⟩ hK
          have H := Lib.hid (show ∀ W', Ext W W' → K (fr (upd V 7 (.int .i64 (k : Nat)))) W' from fun W' he => hK _ _ ⟨upd V 7 (.int .i64 (k : Nat)), rfl, HV.up 7 _ (fun x hx => Option.some.inj hx), SmR.ext s0 he⟩)
          clear hK hC hW hL HV s0
          rw [HFR.out]
          go_wp2_with fail
          show K _ _
          have := H.out _ (Ext.refl _)
          rw [HFR.out] at this
          exact this
        · rintro L A W K hL hC hW ⟨V, rfl, HV, s0⟩ hK
          have e6 : V 6 = .slice (some ⟨b2, o2, none⟩) y.s.length d2 := HV 6 _ rfl (hW 6 rfl)
          have e7 : V 7 = .int .i64 (k : Nat) := HV 7 _ rfl (hW 7 rfl)
          have H := Lib.hid (show ∀ W', Ext W W' → K (fr (upd V 8 (.pointer (some ⟨b2, o2 + k * 5, none⟩)))) W' from fun W' he => hK _ _ ⟨upd V 8 (.pointer (some ⟨b2, o2 + k * 5, none⟩)), rfl, HV.up 8 _ (fun x hx => Option.some.inj hx), SmR.ext s0 he⟩)
          have HU := Lib.hid (show (upd V 8 (.pointer (some ⟨b2, o2 + k * 5, none⟩))) 6 = .slice (some ⟨b2, o2, none⟩) y.s.length d2 ∧ (upd V 8 (.pointer (some ⟨b2, o2 + k * 5, none⟩))) 7 = .int .i64 (k : Nat) from ⟨e6, e7⟩)
          clear hK hC hW hL HV s0
          rw [HFR.out]
          rw [e6, e7]
          clear e6 e7
          go_wp2_with fail
          show K _ _
          have := H.out _ (Ext.refl _)
          rw [HFR.out] at this
          obtain ⟨u6, u7⟩ := HU.out
          rw [u6, u7] at this
          exact this
        · rintro L A W K hL hC hW ⟨V, rfl, HV, s0⟩ hK
          have e8 : V 8 = .pointer (some ⟨b2, o2 + k * 5, none⟩) := HV 8 _ rfl (hW 8 rfl)
          have hB := s0
          have H := Lib.hid (show ∀ W', Ext W W' → K (fr (upd V 9 (.agg (cS q)))) W' from fun W' he => hK _ _ ⟨upd V 9 (.agg (cS q)), rfl, HV.up 9 _ (fun x hx => Option.some.inj hx), SmR.ext s0 he⟩)
          have HU := Lib.hid (show (upd V 9 (.agg (cS q))) 8 = .pointer (some ⟨b2, o2 + k * 5, none⟩) from e8)
          clear hK hC hW hL HV s0
          rw [HFR.out]
          rw [e8]
          clear e8
          have HWW := Lib.hid (fun (j : Nat) (z : Value) (hz : (cS q).toList[j]? = some z) => HWE.out.2 _ hB.2.2 _ _ (HR2.out j z hz))
          clear hB
          refine wpList_loadS rfl (.tmp 46) rfl b2 (o2 + k * 5) q rfl HWW.out ?_
          show K _ _
          have := H.out _ (Ext.refl _)
          rw [HFR.out] at this
          obtain u8 := HU.out
          rw [u8] at this
          exact this
        · rintro L A W K hL hC hW ⟨V, rfl, HV, s0⟩ hK
          have e4 : V 4 = .agg (cS p) := HV 4 _ rfl (hW 4 rfl)
          have e9 : V 9 = .agg (cS q) := HV 9 _ rfl (hW 9 rfl)
          have hB := s0
          have H := Lib.hid (show ∀ W', Ext W W' → K (fr (upd V 10 (.bool nb))) W' from fun W' he => hK _ _ ⟨upd V 10 (.bool nb), rfl, HV.up 10 _ (fun x hx => Option.some.inj hx), SmR.ext s0 he⟩)
          have HU := Lib.hid (show (upd V 10 (.bool nb)) 4 = .agg (cS p) ∧ (upd V 10 (.bool nb)) 9 = .agg (cS q) from ⟨e4, e9⟩)
          clear hK hC hW hL HV s0
          rw [HFR.out]
          rw [e4, e9]
          clear e4 e9
          clear hB
          refine wpList_neqS rfl (.tmp 42) (.tmp 47) rfl p q HPP.out.2.1 HPQ.out.2.1 rfl rfl ?_
          rw [HNB.out]
          show K _ _
          have := H.out _ (Ext.refl _)
          rw [HFR.out] at this
          obtain ⟨u4, u9⟩ := HU.out
          rw [u4, u9] at this
          exact this
        · rintro L A W hL ⟨V, rfl, HV, s0⟩
          have e0 : V 0 = .pointer (some ⟨g2, 1, none⟩) := HV 0 _ rfl (hL 0 (by simp))
          have e1 : V 1 = .slice (some ⟨bb, oo, none⟩) x.s.length c2 := HV 1 _ rfl (hL 1 (by simp))
          have e2 : V 2 = .int .i64 (k : Nat) := HV 2 _ rfl (hL 2 (by simp))
          have e3 : V 3 = .pointer (some ⟨bb, oo + k * 5, none⟩) := HV 3 _ rfl (hL 3 (by simp))
          have e4 : V 4 = .agg (cS p) := HV 4 _ rfl (hL 4 (by simp))
          have e5 : V 5 = .pointer (some ⟨g3, 1, none⟩) := HV 5 _ rfl (hL 5 (by simp))
          have e6 : V 6 = .slice (some ⟨b2, o2, none⟩) y.s.length d2 := HV 6 _ rfl (hL 6 (by simp))
          have e7 : V 7 = .int .i64 (k : Nat) := HV 7 _ rfl (hL 7 (by simp))
          have e8 : V 8 = .pointer (some ⟨b2, o2 + k * 5, none⟩) := HV 8 _ rfl (hL 8 (by simp))
          have e9 : V 9 = .agg (cS q) := HV 9 _ rfl (hL 9 (by simp))
          have e10 : V 10 = .bool nb := HV 10 _ rfl (hL 10 (by simp))
          have hA := s0
          rw [HFR.out]
          rw [e0, e1, e2, e3, e4, e5, e6, e7, e8, e9, e10]
          clear hL HV HFR e0 e1 e2 e3 e4 e5 e6 e7 e8 e9 e10 s0
          have HJA := Lib.hid hA
          clear hA
          cases nb with
          | true =>
            have HF := Lib.hid (HNO.out (HYES.out rfl))
            go_wp2_with fail
            refine bodyPost_ret (results_tmp rfl _ _ _) rfl ?_
            exact ⟨by rw [HF.out]; rfl, HJ.out.2.2.2.trans HJA.out.2.2⟩
          | false =>
            have HN := Lib.hid (HNX.out (HSAM.out rfl))
            go_wp2_with fail
            exact ⟨⟨k + 1, by omega, by go_num, Lib.hid ⟨HN.out, HJA.out.1, HJA.out.2.1, HJ.out.2.2.2.trans HJA.out.2.2⟩⟩, by simp [intOf]; omega⟩
      · obtain rfl : k = x.s.length := by omega
        have hd : decide (x.s.length < x.s.length) = false := decide_eq_false (by omega)
        have hd2 : decide ((x.s.length : Int) < (x.s.length : Int)) = false := decide_eq_false (by omega)
        have HF := Lib.hid (HALS.out (rows_all HLS.out HJ.out.1))
        have HSTP := Lib.hid (fun (h : decide (x.p = y.p) = false) => show sameX x y = false by rw [HF.out, h])
        have HALP := Lib.hid (fun (h : decide (x.p = y.p) = true) => show sameX x y = true by rw [HF.out, h])
        have HJ0 := Lib.hid HJ.out.2
        clear HJ HF
        go_wp2_with fail
        clear q2
        go_loopw [6] (fun iv wr => ∃ k : Nat, k ≤ x.p.length ∧ iv = .int .i64 k ∧ Hid ((∀ i, i < k → x.p.getD i pz0 = y.p.getD i pz0) ∧ Cs wr g2 26 #[.slice A1 x.a.length c1, .slice A2 x.s.length c2, .slice A3 x.p.length c3] ∧ Cs wr g3 26 #[.slice B1 y.a.length d1, .slice B2 y.s.length d2, .slice B3 y.p.length d3] ∧ Ext w wr)) (fun iv _ => x.p.length - (intOf iv).toNat)
        case atStart => exact ⟨0, by omega, rfl, Lib.hid ⟨fun i hi => absurd hi (by omega), HJ0.out⟩⟩
        case round =>
          obtain ⟨k, hk, rfl, HJ⟩ := hrel
          clear HJ0
          have q2 : wr.cell? ⟨g2, 2, none⟩ = some (.slice A3 x.p.length c3) := HJ.out.2.1.cell 2 _ rfl
          by_cases hlt : k < x.p.length
          · have hd : decide (k < x.p.length) = true := decide_eq_true hlt
            have hd2 : decide ((k : Int) < (x.p.length : Int)) = true := decide_eq_true (by omega)
            have hlm : k < y.p.length := by have := HLP.out; omega
            have hd3 : decide (k < y.p.length) = true := decide_eq_true hlm
            have hd4 : decide ((k : Int) < (y.p.length : Int)) = true := decide_eq_true (by omega)
            obtain ⟨bb, oo, rfl, hrg, hp⟩ := (HX.out.2.2.ext HJ.out.2.2.2).at k hlt
            obtain ⟨b2, o2, rfl, hrg2, hp2⟩ := (HY.out.2.2.ext HJ.out.2.2.2).at k hlm
            have HR := Lib.hid hrg
            have HR2 := Lib.hid hrg2
            have HPP := Lib.hid hp
            have HPQ := Lib.hid hp2
            have HWE := Lib.hid (show True ∧ ∀ W, Ext wr W → ∀ a u, wr.cell? a = some u → W.cell? a = some u from ⟨trivial, fun W h a u hc => h.cell hc⟩)
            have HNX := Lib.hid (fun h => rows_more HJ.out.1 h)
            have HNO := Lib.hid (fun h => HSTP.out (rows_stop (l := x.p) (m := y.p) (k := k) h))
            clear hrg hp hrg2 hp2
            generalize x.p.getD k pz0 = p at *
            generalize y.p.getD k pz0 = q at *
            obtain ⟨nb, hnb⟩ : ∃ nb, (!p.eqB q) = nb := ⟨_, rfl⟩
            have HNB := Lib.hid hnb
            have HYES := Lib.hid (show nb = true → p ≠ q from fun h e => by rw [← hnb, e, Pe.eqB_self] at h; cases h)
            have HSAM := Lib.hid (show nb = false → p = q from fun h => (Pe.eqB_iff p q).1 (by rw [← hnb, Bool.not_eq_false'] at h; exact h))
            clear hnb
            go_upto_region 11 with fail
            clear q2
            refine wp_named fun a0 ha0 => ?_
            obtain ⟨fr, hfr⟩ : ∃ fr : (Nat → Value) → Act, ∀ V, fr V = (((((((((((a0.put (some 56) (V 0)).put (some 57) (V 1)).put (some 58) (V 2)).put (some 59) (V 3)).put (some 60) (V 4)).put (some 61) (V 5)).put (some 62) (V 6)).put (some 63) (V 7)).put (some 64) (V 8)).put (some 65) (V 9)).put (some 66) (V 10)) := ⟨fun V => (((((((((((a0.put (some 56) (V 0)).put (some 57) (V 1)).put (some 58) (V 2)).put (some 59) (V 3)).put (some 60) (V 4)).put (some 61) (V 5)).put (some 62) (V 6)).put (some 63) (V 7)).put (some 64) (V 8)).put (some 65) (V 9)).put (some 66) (V 10)), fun _ => rfl⟩
            rw [ha0] at hfr
            simp only [Act.put, List.setIfInBounds_toArray, List.set_cons_zero, List.set_cons_succ] at hfr
            have HFR := Lib.hid hfr
            clear hfr
            refine wp_region_inv (by kernel_rfl) (by kernel_rfl) (fun L A W => ∃ V : Nat → Value, A = fr V ∧ Vals (fun j => ([some (.pointer (some ⟨g2, 2, none⟩)), some (.slice (some ⟨bb, oo, none⟩) x.p.length c3), some (.int .i64 (k : Nat)), some (.pointer (some ⟨bb, oo + k * 9, none⟩)), some (.agg (cP p)), some (.pointer (some ⟨g3, 2, none⟩)), some (.slice (some ⟨b2, o2, none⟩) y.p.length d3), some (.int .i64 (k : Nat)), some (.pointer (some ⟨b2, o2 + k * 9, none⟩)), some (.agg (cP q)), some (.bool nb)] : List (Option Value)).getD j none) L V ∧ (Cs W g2 26 #[.slice A1 x.a.length c1, .slice A2 x.s.length c2, .slice (some ⟨bb, oo, none⟩) x.p.length c3] ∧ Cs W g3 26 #[.slice B1 y.a.length d1, .slice B2 y.s.length d2, .slice (some ⟨b2, o2, none⟩) y.p.length d3] ∧ Ext wr W)) ?_ ⟨?_, ?_, ?_, ?_, ?_, ?_, ?_, ?_, ?_, ?_, ?_, trivial⟩ ?_
            · refine ⟨fun j => a0.tmps.getD (([56, 57, 58, 59, 60, 61, 62, 63, 64, 65, 66] : List Nat).getD j 0) undef, ?_, Vals.no _ _ _ (far_none _ _ rfl), ⟨Cs.ext HJ.out.2.1 (Ext.refl _).drew, Cs.ext HJ.out.2.2.1 (Ext.refl _).drew, (Ext.refl _).drew⟩⟩
              rw [HFR.out, ha0]
              rfl
            all_goals clear ha0
            · rintro L A W K hL hC hW ⟨V, rfl, HV, s0⟩ hK
              have H := Lib.hid (show ∀ W', Ext W W' → K (fr (upd V 0 (.pointer (some ⟨g2, 2, none⟩)))) W' from fun W' he => hK _ _ ⟨upd V 0 (.pointer (some ⟨g2, 2, none⟩)), rfl, HV.up 0 _ (fun x hx => Option.some.inj hx), SmR.ext s0 he⟩)
              clear hK hC hW hL HV s0
              rw [HFR.out]
              go_wp2_with fail
              show K _ _
              have := H.out _ (Ext.refl _)
              rw [HFR.out] at this
              exact this
            · rintro L A W K hL hC hW ⟨V, rfl, HV, s0⟩ hK
              have e0 : V 0 = .pointer (some ⟨g2, 2, none⟩) := HV 0 _ rfl (hW 0 rfl)
              have hB := s0
              have H := Lib.hid (show ∀ W', Ext W W' → K (fr (upd V 1 (.slice (some ⟨bb, oo, none⟩) x.p.length c3))) W' from fun W' he => hK _ _ ⟨upd V 1 (.slice (some ⟨bb, oo, none⟩) x.p.length c3), rfl, HV.up 1 _ (fun x hx => Option.some.inj hx), SmR.ext s0 he⟩)
              have HU := Lib.hid (show (upd V 1 (.slice (some ⟨bb, oo, none⟩) x.p.length c3)) 0 = .pointer (some ⟨g2, 2, none⟩) from e0)
              clear hK hC hW hL HV s0
              rw [HFR.out]
              rw [e0]
              clear e0
              have hcl := hB.1.cell 2 _ rfl
              clear hB
              go_wp2_with fail
              show K _ _
              have := H.out _ (Ext.refl _)
              rw [HFR.out] at this
              obtain u0 := HU.out
              rw [u0] at this
              exact this
            · rintro L A W K hL hC hW ⟨V, rfl, HV, s0⟩ hK
              have H := Lib.hid (show ∀ W', Ext W W' → K (fr (upd V 2 (.int .i64 (k : Nat)))) W' from fun W' he => hK _ _ ⟨upd V 2 (.int .i64 (k : Nat)), rfl, HV.up 2 _ (fun x hx => Option.some.inj hx), SmR.ext s0 he⟩)
              clear hK hC hW hL HV s0
              rw [HFR.out]
              go_wp2_with fail
              show K _ _
              have := H.out _ (Ext.refl _)
              rw [HFR.out] at this
              exact this
            · rintro L A W K hL hC hW ⟨V, rfl, HV, s0⟩ hK
              have e1 : V 1 = .slice (some ⟨bb, oo, none⟩) x.p.length c3 := HV 1 _ rfl (hW 1 rfl)
              have e2 : V 2 = .int .i64 (k : Nat) := HV 2 _ rfl (hW 2 rfl)
              have H := Lib.hid (show ∀ W', Ext W W' → K (fr (upd V 3 (.pointer (some ⟨bb, oo + k * 9, none⟩)))) W' from fun W' he => hK _ _ ⟨upd V 3 (.pointer (some ⟨bb, oo + k * 9, none⟩)), rfl, HV.up 3 _ (fun x hx => Option.some.inj hx), SmR.ext s0 he⟩)
              have HU := Lib.hid (show (upd V 3 (.pointer (some ⟨bb, oo + k * 9, none⟩))) 1 = .slice (some ⟨bb, oo, none⟩) x.p.length c3 ∧ (upd V 3 (.pointer (some ⟨bb, oo + k * 9, none⟩))) 2 = .int .i64 (k : Nat) from ⟨e1, e2⟩)
              clear hK hC hW hL HV s0
              rw [HFR.out]
              rw [e1, e2]
              clear e1 e2
              go_wp2_with fail
              show K _ _
              have := H.out _ (Ext.refl _)
              rw [HFR.out] at this
              obtain ⟨u1, u2⟩ := HU.out
              rw [u1, u2] at this
              exact this
            · rintro L A W K hL hC hW ⟨V, rfl, HV, s0⟩ hK
              have e3 : V 3 = .pointer (some ⟨bb, oo + k * 9, none⟩) := HV 3 _ rfl (hW 3 rfl)
              have hB := s0
              have H := Lib.hid (show ∀ W', Ext W W' → K (fr (upd V 4 (.agg (cP p)))) W' from fun W' he => hK _ _ ⟨upd V 4 (.agg (cP p)), rfl, HV.up 4 _ (fun x hx => Option.some.inj hx), SmR.ext s0 he⟩)
              have HU := Lib.hid (show (upd V 4 (.agg (cP p))) 3 = .pointer (some ⟨bb, oo + k * 9, none⟩) from e3)
              clear hK hC hW hL HV s0
              rw [HFR.out]
              rw [e3]
              clear e3
              have HWW := Lib.hid (fun (j : Nat) (z : Value) (hz : (cP p).toList[j]? = some z) => HWE.out.2 _ hB.2.2 _ _ (HR.out j z hz))
              clear hB
              refine wpList_loadP rfl (.tmp 59) rfl bb (oo + k * 9) p rfl HWW.out ?_
              show K _ _
              have := H.out _ (Ext.refl _)
              rw [HFR.out] at this
              obtain u3 := HU.out
              rw [u3] at this
              exact this
            · rintro L A W K hL hC hW ⟨V, rfl, HV, s0⟩ hK
              have H := Lib.hid (show ∀ W', Ext W W' → K (fr (upd V 5 (.pointer (some ⟨g3, 2, none⟩)))) W' from fun W' he => hK _ _ ⟨upd V 5 (.pointer (some ⟨g3, 2, none⟩)), rfl, HV.up 5 _ (fun x hx => Option.some.inj hx), SmR.ext s0 he⟩)
              clear hK hC hW hL HV s0
              rw [HFR.out]
              go_wp2_with fail
              show K _ _
              have := H.out _ (Ext.refl _)
              rw [HFR.out] at this
              exact this
            · rintro L A W K hL hC hW ⟨V, rfl, HV, s0⟩ hK
              have e5 : V 5 = .pointer (some ⟨g3, 2, none⟩) := HV 5 _ rfl (hW 5 rfl)
              have hB := s0
              have H := Lib.hid (show ∀ W', Ext W W' → K (fr (upd V 6 (.slice (some ⟨b2, o2, none⟩) y.p.length d3))) W' from fun W' he => hK _ _ ⟨upd V 6 (.slice (some ⟨b2, o2, none⟩) y.p.length d3), rfl, HV.up 6 _ (fun x hx => Option.some.inj hx), SmR.ext s0 he⟩)
              have HU := Lib.hid (show (upd V 6 (.slice (some ⟨b2, o2, none⟩) y.p.length d3)) 5 = .pointer (some ⟨g3, 2, none⟩) from e5)
              clear hK hC hW hL HV s0
              rw [HFR.out]
              rw [e5]
              clear e5
              have hcl := hB.2.1.cell 2 _ rfl
              clear hB
              go_wp2_with fail
              show K _ _
              have := H.out _ (Ext.refl _)
              rw [HFR.out] at this
              obtain u5 := HU.out
              rw [u5] at this
              exact this
            · rintro L A W K hL hC hW ⟨V, rfl, HV, s0⟩ hK
              have H := Lib.hid (show ∀ W', Ext W W' → K (fr (upd V 7 (.int .i64 (k : Nat)))) W' from fun W' he => hK _ _ ⟨upd V 7 (.int .i64 (k : Nat)), rfl, HV.up 7 _ (fun x hx => Option.some.inj hx), SmR.ext s0 he⟩)
              clear hK hC hW hL HV s0
              rw [HFR.out]
              go_wp2_with fail
              show K _ _
              have := H.out _ (Ext.refl _)
              rw [HFR.out] at this
              exact this
            · rintro L A W K hL hC hW ⟨V, rfl, HV, s0⟩ hK
              have e6 : V 6 = .slice (some ⟨b2, o2, none⟩) y.p.length d3 := HV 6 _ rfl (hW 6 rfl)
              have e7 : V 7 = .int .i64 (k : Nat) := HV 7 _ rfl (hW 7 rfl)
              have H := Lib.hid (show ∀ W', Ext W W' → K (fr (upd V 8 (.pointer (some ⟨b2, o2 + k * 9, none⟩)))) W' from fun W' he => hK _ _ ⟨upd V 8 (.pointer (some ⟨b2, o2 + k * 9, none⟩)), rfl, HV.up 8 _ (fun x hx => Option.some.inj hx), SmR.ext s0 he⟩)
              have HU := Lib.hid (show (upd V 8 (.pointer (some ⟨b2, o2 + k * 9, none⟩))) 6 = .slice (some ⟨b2, o2, none⟩) y.p.length d3 ∧ (upd V 8 (.pointer (some ⟨b2, o2 + k * 9, none⟩))) 7 = .int .i64 (k : Nat) from ⟨e6, e7⟩)
              clear hK hC hW hL HV s0
              rw [HFR.out]
              rw [e6, e7]
              clear e6 e7
              go_wp2_with fail
              show K _ _
              have := H.out _ (Ext.refl _)
              rw [HFR.out] at this
              obtain ⟨u6, u7⟩ := HU.out
              rw [u6, u7] at this
              exact this
            · rintro L A W K hL hC hW ⟨V, rfl, HV, s0⟩ hK
              have e8 : V 8 = .pointer (some ⟨b2, o2 + k * 9, none⟩) := HV 8 _ rfl (hW 8 rfl)
              have hB := s0
              have H := Lib.hid (show ∀ W', Ext W W' → K (fr (upd V 9 (.agg (cP q)))) W' from fun W' he => hK _ _ ⟨upd V 9 (.agg (cP q)), rfl, HV.up 9 _ (fun x hx => Option.some.inj hx), SmR.ext s0 he⟩)
              have HU := Lib.hid (show (upd V 9 (.agg (cP q))) 8 = .pointer (some ⟨b2, o2 + k * 9, none⟩) from e8)
              clear hK hC hW hL HV s0
              rw [HFR.out]
              rw [e8]
              clear e8
              have HWW := Lib.hid (fun (j : Nat) (z : Value) (hz : (cP q).toList[j]? = some z) => HWE.out.2 _ hB.2.2 _ _ (HR2.out j z hz))
              clear hB
              refine wpList_loadP rfl (.tmp 64) rfl b2 (o2 + k * 9) q rfl HWW.out ?_
              show K _ _
              have := H.out _ (Ext.refl _)
              rw [HFR.out] at this
              obtain u8 := HU.out
              rw [u8] at this
              exact this
            · rintro L A W K hL hC hW ⟨V, rfl, HV, s0⟩ hK
              have e4 : V 4 = .agg (cP p) := HV 4 _ rfl (hW 4 rfl)
              have e9 : V 9 = .agg (cP q) := HV 9 _ rfl (hW 9 rfl)
              have hB := s0
              have H := Lib.hid (show ∀ W', Ext W W' → K (fr (upd V 10 (.bool nb))) W' from fun W' he => hK _ _ ⟨upd V 10 (.bool nb), rfl, HV.up 10 _ (fun x hx => Option.some.inj hx), SmR.ext s0 he⟩)
              have HU := Lib.hid (show (upd V 10 (.bool nb)) 4 = .agg (cP p) ∧ (upd V 10 (.bool nb)) 9 = .agg (cP q) from ⟨e4, e9⟩)
              clear hK hC hW hL HV s0
              rw [HFR.out]
              rw [e4, e9]
              clear e4 e9
              clear hB
              refine wpList_neqP rfl (.tmp 60) (.tmp 65) rfl p q HPP.out HPQ.out rfl rfl ?_
              rw [HNB.out]
              show K _ _
              have := H.out _ (Ext.refl _)
              rw [HFR.out] at this
              obtain ⟨u4, u9⟩ := HU.out
              rw [u4, u9] at this
              exact this
            · rintro L A W hL ⟨V, rfl, HV, s0⟩
              have e0 : V 0 = .pointer (some ⟨g2, 2, none⟩) := HV 0 _ rfl (hL 0 (by simp))
              have e1 : V 1 = .slice (some ⟨bb, oo, none⟩) x.p.length c3 := HV 1 _ rfl (hL 1 (by simp))
              have e2 : V 2 = .int .i64 (k : Nat) := HV 2 _ rfl (hL 2 (by simp))
              have e3 : V 3 = .pointer (some ⟨bb, oo + k * 9, none⟩) := HV 3 _ rfl (hL 3 (by simp))
              have e4 : V 4 = .agg (cP p) := HV 4 _ rfl (hL 4 (by simp))
              have e5 : V 5 = .pointer (some ⟨g3, 2, none⟩) := HV 5 _ rfl (hL 5 (by simp))
              have e6 : V 6 = .slice (some ⟨b2, o2, none⟩) y.p.length d3 := HV 6 _ rfl (hL 6 (by simp))
              have e7 : V 7 = .int .i64 (k : Nat) := HV 7 _ rfl (hL 7 (by simp))
              have e8 : V 8 = .pointer (some ⟨b2, o2 + k * 9, none⟩) := HV 8 _ rfl (hL 8 (by simp))
              have e9 : V 9 = .agg (cP q) := HV 9 _ rfl (hL 9 (by simp))
              have e10 : V 10 = .bool nb := HV 10 _ rfl (hL 10 (by simp))
              have hA := s0
              rw [HFR.out]
              rw [e0, e1, e2, e3, e4, e5, e6, e7, e8, e9, e10]
              clear hL HV HFR e0 e1 e2 e3 e4 e5 e6 e7 e8 e9 e10 s0
              have HJA := Lib.hid hA
              clear hA
              cases nb with
              | true =>
                have HF := Lib.hid (HNO.out (HYES.out rfl))
                go_wp2_with fail
                refine bodyPost_ret (results_tmp rfl _ _ _) rfl ?_
                exact ⟨by rw [HF.out]; rfl, HJ.out.2.2.2.trans HJA.out.2.2⟩
              | false =>
                have HN := Lib.hid (HNX.out (HSAM.out rfl))
                go_wp2_with fail
                exact ⟨⟨k + 1, by omega, by go_num, Lib.hid ⟨HN.out, HJA.out.1, HJA.out.2.1, HJ.out.2.2.2.trans HJA.out.2.2⟩⟩, by simp [intOf]; omega⟩
          · obtain rfl : k = x.p.length := by omega
            have hd : decide (x.p.length < x.p.length) = false := decide_eq_false (by omega)
            have hd2 : decide ((x.p.length : Int) < (x.p.length : Int)) = false := decide_eq_false (by omega)
            have HF := Lib.hid (HALP.out (rows_all HLP.out HJ.out.1))
            go_wp2_with fail
            refine bodyPost_ret (results_tmp rfl _ _ _) rfl ?_
            exact ⟨by rw [HF.out]; rfl, HJ.out.2.2.2⟩
end Go.Proofs.Ytjampleddeidaaa
namespace Go.Proofs.Ytjampleddeidaaa
open Go.ChangeShapes Go.WideShapes Go.ChangeAt Go.RowKit Go.Shelf

set_option maxRecDepth 100000 in
set_option maxHeartbeats 4000000 in
theorem refBefore_any (p q : Pe) (w : World) (hp : okS p) (hq : okS q) : Calls Try.prog 21 #[.agg (cS p), .agg (cS q)] w fun e w' => e = .returned (.bool (decide (p.cod < q.cod))) ∧ Ext w w' := by
  have HLT : Hid (p.cod < q.cod ↔ p.addr < q.addr ∨ p.addr = q.addr ∧ p.key < q.key) := Lib.hid (cdN_lt hp.2.1 hq.2.1)
  have HK1 := Lib.hid hp.2.1
  have HK2 := Lib.hid hq.2.1
  obtain ⟨w0, hw0⟩ : ∃ w0, (w.alloc (.cells (cS p) 32)).alloc (.cells (cS q) 32) = w0 := ⟨_, rfl⟩
  have HP : Hid (Cs w0 w.heap.size 32 (cS p)) := Lib.hid (by rw [← hw0]; exact Cs.alloc (Cs.new _ _ _ _ rfl) _)
  have HQ : Hid (Cs w0 (w.heap.size + 1) 32 (cS q)) := Lib.hid (by rw [← hw0]; exact Cs.new _ _ _ _ (by simp))
  have HE : Hid (Ext w w0) := Lib.hid (by rw [← hw0]; exact ((Ext.refl w).alloc _).alloc _)
  have R1 := Lib.hid (cS_key (Cs.rg HP.out))
  have R2 := Lib.hid (cS_key (Cs.rg HQ.out))
  have q1 : w0.cell? ⟨w.heap.size, 0, none⟩ = some (.int .u64 (p.addr : Nat)) := HP.out.cell 0 _ rfl
  have q2 : w0.cell? ⟨w.heap.size + 1, 0, none⟩ = some (.int .u64 (q.addr : Nat)) := HQ.out.cell 0 _ rfl
  obtain ⟨pc, hpc⟩ : ∃ c, cS p = c := ⟨_, rfl⟩
  obtain ⟨qc, hqc⟩ : ∃ c, cS q = c := ⟨_, rfl⟩
  rw [hpc, hqc] at hw0 ⊢
  have HW0 := Lib.hid hw0
  clear hp hq hw0 hpc hqc
  go_enter Try.func21, Try.ntmps21
  go_upto_region 1 with fail
  rw [HW0.out]
  clear HW0
  by_cases h1 : p.addr < q.addr
  · have d1 : decide ((p.addr : Int) < (q.addr : Int)) = true := decide_eq_true (by omega)
    have d2 : decide (p.addr < q.addr) = true := decide_eq_true h1
    have HF := Lib.hid (show decide (p.cod < q.cod) = true from decide_eq_true (HLT.out.2 (.inl h1)))
    clear h1
    go_wp2_with fail
    refine bodyPost_ret (results_tmp rfl _ _ _) rfl ?_
    exact ⟨by rw [HF.out]; rfl, HE.out⟩
  · have d1 : decide ((p.addr : Int) < (q.addr : Int)) = false := decide_eq_false (by omega)
    have d2 : decide (p.addr < q.addr) = false := decide_eq_false h1
    by_cases h2 : p.addr = q.addr
    · have d3 : ((p.addr : Int) == (q.addr : Int)) = true := by rw [beq_iff_eq]; omega
      have d4 : (p.addr == q.addr) = true := by rw [beq_iff_eq]; exact h2
      have HF := Lib.hid (show decide (p.cod < q.cod) = decide (p.key < q.key) from decide_eq_decide.2 ⟨fun h => by
        rcases HLT.out.1 h with h | h
        · exact absurd h h1
        · exact h.2, fun h => HLT.out.2 (.inr ⟨h2, h⟩)⟩)
      have HCL := Lib.hid (cmp_lt0 p.key q.key)
      clear h1 h2
      go_wp2_with (first
        | ((with_reducible refine wpList_load_wordIn ?_ (.tmp 17) ?_ w.heap.size 1 p.key ?_ ?_ ?_); (exact rfl); (exact rfl); (exact rfl); (exact R1.out))
        | ((with_reducible refine wpList_load_wordIn ?_ (.tmp 19) ?_ (w.heap.size + 1) 1 q.key ?_ ?_ ?_); (exact rfl); (exact rfl); (exact rfl); (exact R2.out)))
      refine (refCmp_any p.key q.key _ HK1.out HK2.out).mono ?_
      rintro e w1 ⟨rfl, he⟩
      have HE1 := Lib.hid (HE.out.trans he)
      clear he
      go_wp2_with fail
      refine bodyPost_ret (results_tmp rfl _ _ _) rfl ?_
      exact ⟨by rw [HF.out, ← HCL.out]; rfl, HE1.out⟩
    · have d3 : ((p.addr : Int) == (q.addr : Int)) = false := by rw [beq_eq_false_iff_ne]; omega
      have d4 : (p.addr == q.addr) = false := by rw [beq_eq_false_iff_ne]; exact h2
      have HF := Lib.hid (show decide (p.cod < q.cod) = false from decide_eq_false (fun h => by
        rcases HLT.out.1 h with h | h
        · exact h1 h
        · exact h2 h.1))
      clear h1 h2
      go_wp2_with fail
      refine bodyPost_ret (results_tmp rfl _ _ _) rfl ?_
      exact ⟨by rw [HF.out]; rfl, HE.out⟩
end Go.Proofs.Ytjampleddeidaaa
