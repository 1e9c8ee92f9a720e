/- Package access: the document's Load and Touch. -/
import Derived.Test.YtjampleddeidaaaAev
import Derived.Test.YtjampleddeidaaaAeu
import Derived.Test.YtjampleddeidaaaAem
namespace Go.Proofs.Ytjampleddeidaaa
open Go.ChangeShapes Go.WideShapes Go.ChangeAt Go.RowKit Go.Shelf

set_option maxRecDepth 100000 in
theorem LdC.ext {wr W W' : World} {g1 g3 : Nat} {q : Pe} {cs : Array Value} (h : Cs W g1 26 cs ∧ BS W g3 q ∧ Ext wr W) (he : Ext W W') : Cs W' g1 26 cs ∧ BS W' g3 q ∧ Ext wr W' := ⟨Cs.ext h.1 he, h.2.1.ext he, h.2.2.trans he⟩
set_option maxRecDepth 100000 in
set_option maxHeartbeats 8000000 in
theorem refLoadX_any (va vs vp : Value) (x : Ax) (q : Pe) (w : World) (hx : AxR w va vs vp x) (hq : okS q) (hr : rightX x = true) :
    Calls Try.prog 18 #[.agg #[va, vs, vp], .agg (cS q)] w fun e w' => e = .returned (wv (loadX x q)) ∧ Ext w w' := by
  have HX := Lib.hid hx
  have HQK := Lib.hid (show q.key < M256 from hq.2.1)
  have HNO := Lib.hid (fun h => load_no hr (q := q) h)
  have HYE := Lib.hid (fun p hp h => load_mem hr (p := p) (q := q) hp h)
  obtain ⟨A1, c1, rfl, _, _⟩ := hx.1.len
  obtain ⟨A2, c2, rfl, _, _⟩ := hx.2.1.len
  obtain ⟨A3, c3, rfl, hc3, hm3⟩ := hx.2.2.len
  unfold maxLen at hm3
  obtain ⟨w0, hw0⟩ : ∃ w0, ((w.alloc (.cells #[.slice A1 x.a.length c1, .slice A2 x.s.length c2, .slice A3 x.p.length c3] 26)).alloc (.cells (cS q) 32)).alloc (.cells #[.int .u64 0, .int .u64 0, .int .u64 0, .int .u64 0] 30) = w0 := ⟨_, rfl⟩
  have HC0 : Hid (Cs w0 w.heap.size 26 #[.slice A1 x.a.length c1, .slice A2 x.s.length c2, .slice A3 x.p.length c3]) := Lib.hid (by rw [← hw0]; exact Cs.alloc (Cs.alloc (Cs.new _ _ _ _ rfl) _) _)
  have HQ0 : Hid (BS w0 (w.heap.size + 1) q) := Lib.hid (by rw [← hw0]; exact Cs.alloc (Cs.new _ _ _ _ (by simp)) _)
  have HR0 : Hid (Cs w0 (w.heap.size + 1 + 1) 30 (wc 0)) := Lib.hid (by rw [← hw0]; exact Cs.new _ _ _ _ (by simp))
  have HE0 : Hid (Ext w w0) := Lib.hid (by rw [← hw0]; exact (((Ext.refl w).alloc _).alloc _).alloc _)
  have HW0 := Lib.hid hw0
  clear hx hw0 hq hr
  go_enter Try.func18, Try.ntmps18
  go_upto_region 1 with fail
  rw [HW0.out]
  clear HW0
  obtain ⟨g4, hg4⟩ : ∃ g, w.heap.size + 1 + 1 = g := ⟨_, rfl⟩
  have HG4 : Hid (w.heap.size ≤ g4) := Lib.hid (by omega)
  rw [hg4] at HR0 ⊢
  obtain ⟨g3, hg3⟩ : ∃ g, w.heap.size + 1 = g := ⟨_, rfl⟩
  rw [hg3] at HQ0 ⊢
  obtain ⟨g1, hg1⟩ : ∃ g, w.heap.size = g := ⟨_, rfl⟩
  have HG1 := Lib.hid hg1
  rw [hg1] at HC0 ⊢
  clear hg1 hg3 hg4
  go_wp2_with fail
  go_loopw [5] (fun iv wr => ∃ k : Nat, k ≤ x.p.length ∧ iv = .int .i64 (k : Nat) ∧ Hid ((∀ i, i < k → (x.p.getD i pz0).cod ≠ q.cod) ∧ Ext w0 wr)) (fun iv _ => x.p.length - (intOf iv).toNat)
  case atStart => exact ⟨0, by omega, rfl, Lib.hid ⟨fun i hi => absurd hi (by omega), Ext.refl _⟩⟩
  case round =>
    obtain ⟨k, hk, rfl, HJ⟩ := hrel
    have HC := Lib.hid (Cs.ext HC0.out HJ.out.2)
    have HQ1 := Lib.hid (BS.ext HQ0.out HJ.out.2)
    have q2 := HC.out.cell 2 _ rfl
    by_cases hlt : k < x.p.length
    · have hd : decide (k < x.p.length) = true := decide_eq_true hlt
      have hd2 : decide ((k : Int) < (x.p.length : Int)) = true := decide_eq_true (by omega)
      obtain ⟨bb, oo, rfl, hp1, hp2⟩ := (HX.out.2.2.ext (HE0.out.trans HJ.out.2)).at k hlt
      have HP := Lib.hid hp1
      have HPK := Lib.hid (show (x.p.getD k pz0).key < M256 from hp2.2.1)
      have HY := Lib.hid (fun (h : (x.p.getD k pz0).cod = q.cod) => HYE.out _ (getX_mem hlt) h)
      have HN := Lib.hid (fun (h : (x.p.getD k pz0).cod ≠ q.cod) => show ∀ i, i < k + 1 → (x.p.getD i pz0).cod ≠ q.cod from fun i hi => by
        rcases Nat.lt_or_ge i k with h' | h'
        · exact HJ.out.1 i h'
        · obtain rfl : i = k := by omega
          exact h)
      have HXR := Lib.hid HJ.out.2
      generalize x.p.getD k pz0 = p at *
      obtain ⟨eb, heb⟩ : ∃ b, p.eqS q = b := ⟨_, rfl⟩
      have HEB := Lib.hid heb
      have HEC := Lib.hid (eqS_codS HPK.out HQK.out)
      clear hp1 hp2 heb HNO HYE HJ
      go_upto_region 4 with fail
      refine wp_named fun a0 ha0 => ?_
      obtain ⟨fr, hfr⟩ : ∃ fr : (Nat → Value) → Act, ∀ V, fr V = ((((((((a0.put (some 13) (V 0)).put (some 14) (V 1)).put (some 15) (V 2)).put (some 16) (V 3)).put (some 17) (V 4)).put (some 18) (V 5)).put (some 19) (V 6)).put (some 20) (V 7)) := ⟨fun V => ((((((((a0.put (some 13) (V 0)).put (some 14) (V 1)).put (some 15) (V 2)).put (some 16) (V 3)).put (some 17) (V 4)).put (some 18) (V 5)).put (some 19) (V 6)).put (some 20) (V 7)), fun _ => rfl⟩
      rw [ha0] at hfr
      simp only [Act.put, List.setIfInBounds_toArray, List.set_cons_zero, List.set_cons_succ] at hfr
      have HFR := Lib.hid hfr
      clear hfr
      refine wp_region_inv (by kernel_rfl) (by kernel_rfl) (fun L A W => ∃ V : Nat → Value, A = fr V ∧ Vals (fun j => ([some (.pointer (some ⟨g1, 2, none⟩)), some (.slice (some ⟨bb, oo, none⟩) x.p.length c3), some (.int .i64 (k : Nat)), some (.pointer (some ⟨bb, oo + k * 9, none⟩)), some (.pointer (some ⟨bb, oo + k * 9, none⟩)), some (.agg (cS p)), some (.agg (cS q)), some (.bool eb)] : List (Option Value)).getD j none) L V ∧ (Cs W g1 26 #[.slice A1 x.a.length c1, .slice A2 x.s.length c2, .slice (some ⟨bb, oo, none⟩) x.p.length c3] ∧ BS W g3 q ∧ Ext wr W)) ?_ ⟨?_, ?_, ?_, ?_, ?_, ?_, ?_, ?_, trivial⟩ ?_
      · refine ⟨fun j => a0.tmps.getD (([13, 14, 15, 16, 17, 18, 19, 20] : List Nat).getD j 0) undef, ?_, Vals.no _ _ _ (far_none _ _ rfl), ⟨Cs.ext HC.out (Ext.refl _).drew, BS.ext HQ1.out (Ext.refl _).drew, (Ext.refl _).drew⟩⟩
        rw [HFR.out, ha0]
        rfl
      all_goals clear ha0
      · rintro L A W K hL hC hW ⟨V, rfl, HV, s0⟩ hK
        have H := Lib.hid (show ∀ W', Ext W W' → K (fr (upd V 0 (.pointer (some ⟨g1, 2, none⟩)))) W' from fun W' he => hK _ _ ⟨upd V 0 (.pointer (some ⟨g1, 2, none⟩)), rfl, HV.up 0 _ (fun x hx => Option.some.inj hx), LdC.ext s0 he⟩)
        clear hK hC hW hL HV s0
        rw [HFR.out]
        go_wp2_with fail
        show K _ _
        have := H.out _ (Ext.refl _)
        rw [HFR.out] at this
        exact this
      · rintro L A W K hL hC hW ⟨V, rfl, HV, s0⟩ hK
        have e0 : V 0 = .pointer (some ⟨g1, 2, none⟩) := HV 0 _ rfl (hW 0 rfl)
        have hB := s0
        have H := Lib.hid (show ∀ W', Ext W W' → K (fr (upd V 1 (.slice (some ⟨bb, oo, none⟩) x.p.length c3))) W' from fun W' he => hK _ _ ⟨upd V 1 (.slice (some ⟨bb, oo, none⟩) x.p.length c3), rfl, HV.up 1 _ (fun x hx => Option.some.inj hx), LdC.ext s0 he⟩)
        have HU := Lib.hid (show (upd V 1 (.slice (some ⟨bb, oo, none⟩) x.p.length c3)) 0 = .pointer (some ⟨g1, 2, none⟩) from e0)
        clear hK hC hW hL HV s0
        rw [HFR.out]
        rw [e0]
        clear e0
        have qq := hB.1.cell 2 _ rfl
        clear hB
        go_wp2_with fail
        show K _ _
        have := H.out _ (Ext.refl _)
        rw [HFR.out] at this
        obtain u0 := HU.out
        rw [u0] at this
        exact this
      · rintro L A W K hL hC hW ⟨V, rfl, HV, s0⟩ hK
        have H := Lib.hid (show ∀ W', Ext W W' → K (fr (upd V 2 (.int .i64 (k : Nat)))) W' from fun W' he => hK _ _ ⟨upd V 2 (.int .i64 (k : Nat)), rfl, HV.up 2 _ (fun x hx => Option.some.inj hx), LdC.ext s0 he⟩)
        clear hK hC hW hL HV s0
        rw [HFR.out]
        go_wp2_with fail
        show K _ _
        have := H.out _ (Ext.refl _)
        rw [HFR.out] at this
        exact this
      · rintro L A W K hL hC hW ⟨V, rfl, HV, s0⟩ hK
        have e1 : V 1 = .slice (some ⟨bb, oo, none⟩) x.p.length c3 := HV 1 _ rfl (hW 1 rfl)
        have e2 : V 2 = .int .i64 (k : Nat) := HV 2 _ rfl (hW 2 rfl)
        have hB := s0
        have H := Lib.hid (show ∀ W', Ext W W' → K (fr (upd V 3 (.pointer (some ⟨bb, oo + k * 9, none⟩)))) W' from fun W' he => hK _ _ ⟨upd V 3 (.pointer (some ⟨bb, oo + k * 9, none⟩)), rfl, HV.up 3 _ (fun x hx => Option.some.inj hx), LdC.ext s0 he⟩)
        have HU := Lib.hid (show (upd V 3 (.pointer (some ⟨bb, oo + k * 9, none⟩))) 1 = .slice (some ⟨bb, oo, none⟩) x.p.length c3 ∧ (upd V 3 (.pointer (some ⟨bb, oo + k * 9, none⟩))) 2 = .int .i64 (k : Nat) from ⟨e1, e2⟩)
        clear hK hC hW hL HV s0
        rw [HFR.out]
        rw [e1, e2]
        clear e1 e2
        clear hB
        go_wp2_with fail
        show K _ _
        have := H.out _ (Ext.refl _)
        rw [HFR.out] at this
        obtain ⟨u1, u2⟩ := HU.out
        rw [u1, u2] at this
        exact this
      · rintro L A W K hL hC hW ⟨V, rfl, HV, s0⟩ hK
        have e3 : V 3 = .pointer (some ⟨bb, oo + k * 9, none⟩) := HV 3 _ rfl (hW 3 rfl)
        have H := Lib.hid (show ∀ W', Ext W W' → K (fr (upd V 4 (.pointer (some ⟨bb, oo + k * 9, none⟩)))) W' from fun W' he => hK _ _ ⟨upd V 4 (.pointer (some ⟨bb, oo + k * 9, none⟩)), rfl, HV.up 4 _ (fun x hx => Option.some.inj hx), LdC.ext s0 he⟩)
        have HU := Lib.hid (show (upd V 4 (.pointer (some ⟨bb, oo + k * 9, none⟩))) 3 = .pointer (some ⟨bb, oo + k * 9, none⟩) from e3)
        clear hK hC hW hL HV s0
        rw [HFR.out]
        rw [e3]
        clear e3
        go_wp2_with fail
        show K _ _
        have := H.out _ (Ext.refl _)
        rw [HFR.out] at this
        obtain u3 := HU.out
        rw [u3] at this
        exact this
      · rintro L A W K hL hC hW ⟨V, rfl, HV, s0⟩ hK
        have e4 : V 4 = .pointer (some ⟨bb, oo + k * 9, none⟩) := HV 4 _ rfl (hW 4 rfl)
        have hB := s0
        have H := Lib.hid (show ∀ W', Ext W W' → K (fr (upd V 5 (.agg (cS p)))) W' from fun W' he => hK _ _ ⟨upd V 5 (.agg (cS p)), rfl, HV.up 5 _ (fun x hx => Option.some.inj hx), LdC.ext s0 he⟩)
        have HU := Lib.hid (show (upd V 5 (.agg (cS p))) 4 = .pointer (some ⟨bb, oo + k * 9, none⟩) from e4)
        clear hK hC hW hL HV s0
        rw [HFR.out]
        rw [e4]
        clear e4
        have HWD := Lib.hid (cP_spot (rangeK_ext HP.out hB.2.2))
        clear hB
        refine wpList_loadS rfl (.tmp 17) rfl bb (oo + k * 9) p rfl HWD.out ?_
        show K _ _
        have := H.out _ (Ext.refl _)
        rw [HFR.out] at this
        obtain u4 := HU.out
        rw [u4] at this
        exact this
      · rintro L A W K hL hC hW ⟨V, rfl, HV, s0⟩ hK
        have hB := s0
        have H := Lib.hid (show ∀ W', Ext W W' → K (fr (upd V 6 (.agg (cS q)))) W' from fun W' he => hK _ _ ⟨upd V 6 (.agg (cS q)), rfl, HV.up 6 _ (fun x hx => Option.some.inj hx), LdC.ext s0 he⟩)
        clear hK hC hW hL HV s0
        rw [HFR.out]
        have HWD := Lib.hid (Cs.rg hB.2.1)
        clear hB
        refine wpList_loadS rfl (.tmp 3) rfl g3 0 q rfl HWD.out ?_
        show K _ _
        have := H.out _ (Ext.refl _)
        rw [HFR.out] at this
        exact this
      · rintro L A W K hL hC hW ⟨V, rfl, HV, s0⟩ hK
        have e5 : V 5 = .agg (cS p) := HV 5 _ rfl (hW 5 rfl)
        have e6 : V 6 = .agg (cS q) := HV 6 _ rfl (hW 6 rfl)
        have hB := s0
        have H := Lib.hid (show ∀ W', Ext W W' → K (fr (upd V 7 (.bool eb))) W' from fun W' he => hK _ _ ⟨upd V 7 (.bool eb), rfl, HV.up 7 _ (fun x hx => Option.some.inj hx), LdC.ext s0 he⟩)
        have HU := Lib.hid (show (upd V 7 (.bool eb)) 5 = .agg (cS p) ∧ (upd V 7 (.bool eb)) 6 = .agg (cS q) from ⟨e5, e6⟩)
        clear hK hC hW hL HV s0
        rw [HFR.out]
        rw [e5, e6]
        clear e5 e6
        refine wpList_eqlS rfl (.tmp 18) (.tmp 19) rfl p q HPK.out HQK.out rfl rfl ?_
        rw [HEB.out]
        show K _ _
        have := H.out _ (Ext.refl _)
        rw [HFR.out] at this
        obtain ⟨u5, u6⟩ := HU.out
        rw [u5, u6] at this
        exact this
      · rintro L A W hL ⟨V, rfl, HV, s0⟩
        have e0 : V 0 = .pointer (some ⟨g1, 2, none⟩) := HV 0 _ rfl (hL 0 (by simp))
        have e1 : V 1 = .slice (some ⟨bb, oo, none⟩) x.p.length c3 := HV 1 _ rfl (hL 1 (by simp))
        have e2 : V 2 = .int .i64 (k : Nat) := HV 2 _ rfl (hL 2 (by simp))
        have e3 : V 3 = .pointer (some ⟨bb, oo + k * 9, none⟩) := HV 3 _ rfl (hL 3 (by simp))
        have e4 : V 4 = .pointer (some ⟨bb, oo + k * 9, none⟩) := HV 4 _ rfl (hL 4 (by simp))
        have e5 : V 5 = .agg (cS p) := HV 5 _ rfl (hL 5 (by simp))
        have e6 : V 6 = .agg (cS q) := HV 6 _ rfl (hL 6 (by simp))
        have e7 : V 7 = .bool eb := HV 7 _ rfl (hL 7 (by simp))
        have hA := s0
        rw [HFR.out]
        rw [e0, e1, e2, e3, e4, e5, e6, e7]
        clear hL HV HFR e0 e1 e2 e3 e4 e5 e6 e7 s0
        have HC2 := Lib.hid hA.1
        have HXW := Lib.hid (HXR.out.trans hA.2.2)
        have HRW := Lib.hid (Cs.ext HR0.out HXW.out)
        have HPW := Lib.hid (cP_val (rangeK_ext HP.out hA.2.2))
        clear hA
        cases eb with
        | true =>
          have HF := Lib.hid (HY.out (of_decide_eq_true (by rw [← HEC.out, HEB.out])))
          have qq := HC2.out.cell 2 _ rfl
          go_wp2_with (first
            | ((with_reducible refine wpList_load_wordIn ?_ (.tmp 25) ?_ bb (oo + k * 9 + 5) p.val ?_ ?_ ?_); (exact rfl); (exact rfl); (exact rfl); (exact HPW.out))
            | ((with_reducible refine wpList_store_word ?_ ?_ 30 (.tmp 4) (.tmp 26) ?_ winfo g4 (wc 0) p.val ?_ ?_ ?_ ?_ ?_); (exact rfl); (exact rfl); (exact rfl); (exact rfl); (exact rfl); (exact HRW.out); (exact rfl); intro w3 k3 g3'; have K3 := Lib.hid k3; have G3 := Lib.hid g3'; clear k3 g3'))
          refine bodyPost_ret (results_word Try.results18 _ _ g4 p.val rfl K3.out Try.underlying30 winfo) rfl ?_
          exact ⟨by rw [HF.out], (HE0.out.trans HXW.out).grown G3.out HG4.out⟩
        | false =>
          have HT := Lib.hid (HN.out (of_decide_eq_false (by rw [← HEC.out, HEB.out])))
          go_wp2_with fail
          exact ⟨⟨k + 1, by omega, by go_num, Lib.hid ⟨HT.out, HXW.out⟩⟩, by simp [intOf]; omega⟩
    · obtain rfl : k = x.p.length := by omega
      have hd : decide (x.p.length < x.p.length) = false := decide_eq_false (by omega)
      have hd2 : decide ((x.p.length : Int) < (x.p.length : Int)) = false := decide_eq_false (by omega)
      have HF := Lib.hid (HNO.out (fun p hp => by obtain ⟨i, hi, e⟩ := memX_get hp; rw [← e]; exact HJ.out.1 i hi))
      have HXW := Lib.hid HJ.out.2
      have HRW := Lib.hid (Cs.ext HR0.out HXW.out)
      clear HJ
      go_wp2_with ((with_reducible refine wpList_store_word ?_ ?_ 30 (.tmp 4) (.tmp 27) ?_ winfo g4 (wc 0) 0 ?_ ?_ ?_ ?_ ?_); (exact rfl); (exact rfl); (exact rfl); (exact rfl); (exact rfl); (exact HRW.out); (exact rfl); intro w3 k3 g3'; have K3 := Lib.hid k3; have G3 := Lib.hid g3'; clear k3 g3')
      refine bodyPost_ret (results_word Try.results18 _ _ g4 0 rfl K3.out Try.underlying30 winfo) rfl ?_
      exact ⟨by rw [HF.out], (HE0.out.trans HXW.out).grown G3.out HG4.out⟩
/-! ### Touch -/
set_option maxRecDepth 100000 in
theorem srX_same {l : List Pe} (hl : ∀ p ∈ l, okA p) (hr : RiseX l) : srX l = l := rise_same (srX_rise l) hr fun p => mem_srX hl p
set_option maxRecDepth 100000 in
theorem srX_one {l : List Pe} {p : Pe} (hl : ∀ p ∈ l, okA p) (hr : RiseX l) : srX (l ++ [p]) = plX l p := by
  have h := srX_same hl hr
  unfold srX at h ⊢
  rw [List.foldl_append, h]
  rfl
set_option maxRecDepth 100000 in
/-- What the document's Touch, Reach say of a row that may be: there is room where the row, put in, is not too long. -/
theorem pt_room {l : List Pe} (hr : rsB l = true) (p : Pe) : (plX l p).length ≤ 400 ↔ ptE l p = 0 := by
  obtain ⟨h4, h⟩ := rs_iff.1 hr
  rw [plX_length h p]
  unfold ptE
  cases hh : hasX l p.cod with
  | true => simp [h4]
  | false =>
    by_cases he : l.length = 400
    · simp [he]
    · simp [he]; omega
set_option maxRecDepth 100000 in
theorem pt_more {l : List Pe} (hr : rsB l = true) {p : Pe} : decide (l.length < (plX l p).length) = !hasX l p.cod := by
  rw [plX_length (rs_iff.1 hr).2 p]
  cases hasX l p.cod with
  | true => exact decide_eq_false (by simp)
  | false => exact decide_eq_true (by simp)
set_option maxRecDepth 100000 in
theorem pt_ok {l : List Pe} {p : Pe} (h : ptE l p = 0) : ptL l p = plX l p ∧ ptB l p = !hasX l p.cod := by
  unfold ptL ptB
  rw [if_pos h, if_pos h]
  exact ⟨rfl, rfl⟩
set_option maxRecDepth 100000 in
theorem infoLA : (Try.prog.info? 22).map (·.size) = some 1 := by kernel_rfl
set_option maxRecDepth 100000 in
theorem infoLS : (Try.prog.info? 23).map (·.size) = some 1 := by kernel_rfl
set_option maxRecDepth 100000 in
theorem infoLP : (Try.prog.info? 24).map (·.size) = some 1 := by kernel_rfl
def RfX (W : World) (y : Ax) (b ok : Bool) (e : Ending) (w' : World) : Prop := ∃ ua us up, e = .returned (.tuple #[.agg #[ua, us, up], .bool b, .bool ok]) ∧ AxR w' ua us up y ∧ Ext W w'
set_option maxRecDepth 100000 in
theorem axR_nil (W : World) : AxR W (.slice none 0 0) (.slice none 0 0) (.slice none 0 0) ax0 := ⟨XA.nil _, XS.nil _, XP.nil _⟩
set_option maxRecDepth 100000 in
theorem ownA_app {W : World} {lo : Nat} {v : Value} {l m : List Pe} (h : W.ownsRow lo 28 1 v (l.length + m.length) (fA l ++ fA m)) (hl : ∀ p ∈ l, okA p) (hm : ∀ p ∈ m, okA p) : OwnA W lo v (l ++ m) := by
  refine ⟨by rw [List.length_append, fA_app2]; exact h, fun p hp => ?_⟩
  rcases List.mem_append.1 hp with hp | hp
  · exact hl p hp
  · exact hm p hp
set_option maxRecDepth 100000 in
set_option maxHeartbeats 8000000 in
theorem refTouchX_any (va vs vp : Value) (x : Ax) (q : Pe) (w : World) (hx : AxR w va vs vp x) (hq : okA q) (hr : rsB x.a = true) :
    Calls Try.prog 17 #[.agg #[va, vs, vp], .int .u64 (q.addr : Nat)] w (RfX w (if ptE x.a q = 0 then { x with a := ptL x.a q } else ax0) (ptB x.a q) (decide (ptE x.a q = 0))) := by
  have HX := Lib.hid hx
  have HQ := Lib.hid hq
  have HL : Hid (x.a.length ≤ 400) := Lib.hid (rs_iff.1 hr).1
  have HSR := Lib.hid (srX_one (p := q) hx.1.oks (rs_iff.1 hr).2)
  have HRM := Lib.hid (pt_room hr q)
  have HMO := Lib.hid (pt_more (p := q) hr)
  obtain ⟨A1, c1, rfl, _, _⟩ := hx.1.len
  obtain ⟨A2, c2, rfl, _, _⟩ := hx.2.1.len
  obtain ⟨A3, c3, rfl, _, _⟩ := hx.2.2.len
  obtain ⟨w0, hw0⟩ : ∃ w0, (w.alloc (.cells #[.slice A1 x.a.length c1, .slice A2 x.s.length c2, .slice A3 x.p.length c3] 26)).alloc (.cells #[.slice none 0 0, .slice none 0 0, .slice none 0 0] 26) = w0 := ⟨_, rfl⟩
  have HC0 : Hid (Cs w0 w.heap.size 26 #[.slice A1 x.a.length c1, .slice A2 x.s.length c2, .slice A3 x.p.length c3]) := Lib.hid (by rw [← hw0]; exact Cs.alloc (Cs.new _ _ _ _ rfl) _)
  have HR0 : Hid (Cs w0 (w.heap.size + 1) 26 #[.slice none 0 0, .slice none 0 0, .slice none 0 0]) := Lib.hid (by rw [← hw0]; exact Cs.new _ _ _ _ (by simp))
  have HE0 : Hid (Ext w w0) := Lib.hid (by rw [← hw0]; exact ((Ext.refl w).alloc _).alloc _)
  have HW0 := Lib.hid hw0
  have HOK := Lib.hid hx.1.oks
  have HRS := Lib.hid (fun W (h : Ext w0 W) => (HX.out.1.ext (HE0.out.trans h)).rs)
  obtain ⟨ry, hry⟩ : ∃ y, (if ptE x.a q = 0 then { x with a := ptL x.a q } else ax0 : Ax) = y := ⟨_, rfl⟩
  obtain ⟨rb, hrb⟩ : ∃ b, decide (ptE x.a q = 0) = b := ⟨_, rfl⟩
  have HRY := Lib.hid hry
  have HRB := Lib.hid hrb
  rw [hry, hrb]
  clear hx hq hr hw0 hry hrb
  go_enter Try.func17, Try.ntmps17
  go_upto_region 1 with fail
  rw [HW0.out]
  clear HW0
  obtain ⟨gr, hgr⟩ : ∃ g, w.heap.size + 1 = g := ⟨_, rfl⟩
  have HGR : Hid (w.heap.size ≤ gr ∧ w.heap.size ≠ gr ∧ gr < w0.heap.size) := Lib.hid (by have := HR0.out.lt; omega)
  rw [hgr] at HR0 ⊢
  obtain ⟨g1, hg1⟩ : ∃ g, w.heap.size = g := ⟨_, rfl⟩
  have HG1 := Lib.hid hg1
  rw [hg1] at HC0 HGR ⊢
  clear hg1 hgr
  have q0 : (w0.alloc (.cells #[] 28)).cell? ⟨g1, 0, none⟩ = some (.slice A1 x.a.length c1) := (Cs.alloc HC0.out _).cell 0 _ rfl
  go_wp2_with (first
    | (at_builtin; refine wpList_append_row ?_ (.tmp 9) (.tmp 11) 22 rfl w0.heap.size 28 Try.underlying22 _ 1 8 infoA3 rfl (by decide) (.slice (some ⟨w0.heap.size, 0, none⟩) 0 0) ([] : List Pe).length (fA []) rfl (World.ownsRow_lit (e := 28) (size := 1) w0 #[] 0 (Nat.le_refl _) (by decide) (Nat.zero_mul _).symm) (.slice A1 x.a.length c1) x.a.length (fA x.a) rfl (HRS.out _ ((Ext.refl _).alloc _)) (fA_one _) (by have := HL.out; rw [List.length_nil]; omega) (by decide) (by rw [World.size_alloc]; exact Nat.le_succ _) ?_; (exact rfl); intro v5 w5 o5 g5 b5; have O5 := Lib.hid (show OwnA w5 w0.heap.size v5 x.a from ownA_app (l := []) o5 (fun p hp => nomatch hp) HOK.out); have E5 := Lib.hid (Ext.appendR ((Ext.refl w0).alloc (.cells #[] 28)) (World.ownsRow_lit (e := 28) (size := 1) w0 #[] 0 (Nat.le_refl _) (by decide) (Nat.zero_mul _).symm) g5); clear o5 g5 b5)
    | (at_builtin; refine wpList_append_row ?_ (.tmp 12) (.tmp 14) 22 rfl w0.heap.size 28 Try.underlying22 _ 1 8 infoA3 rfl (by decide) v5 x.a.length (fA x.a) rfl (own_ext O5.out.1 ((Ext.refl _).alloc _)) (.slice (some ⟨w5.heap.size, 0, none⟩) 1 1) [q].length (fA [q]) rfl (by rw [fA_single]; exact rs_oneA (Cs.new _ _ _ _ rfl)) (fA_one _) (by have := HL.out; rw [List.length_singleton]; omega) (by decide) (Nat.le_trans E5.out.size (by rw [World.size_alloc]; exact Nat.le_succ _)) ?_; (exact rfl); intro v6 w6 o6 g6 b6; have O6 := Lib.hid (ownA_app o6 HOK.out (fun p hp => by rw [List.mem_singleton.1 hp]; exact HQ.out)); have E6 := Lib.hid (Ext.appendR (E5.out.alloc (.cells (cA q) 28)) (own_ext O5.out.1 ((Ext.refl _).alloc _)) g6); clear o6 g6 b6))
  refine (refSortedX_any v6 (x.a ++ [q]) w6 O6.out.xs (by have := HL.out; simp; omega)).mono ?_
  rintro e w7 ⟨v7, rfl, ho, he⟩
  rw [HSR.out] at ho
  have HOW := Lib.hid ho
  have HE7 := Lib.hid (E6.out.trans he)
  have HC7 := Lib.hid (Cs.ext HC0.out HE7.out)
  have HR7 := Lib.hid (Cs.ext HR0.out HE7.out)
  have HEW := Lib.hid (HE0.out.trans HE7.out)
  obtain ⟨A7, c7, e7, _, _⟩ := ho.sl
  subst e7
  clear ho he O5 E5 O6 E6 q0 HC0 HR0 HRS HSR
  obtain ⟨m, hm⟩ : ∃ m, plX x.a q = m := ⟨_, rfl⟩
  have HM := Lib.hid hm
  rw [hm] at HOW HRM HMO ⊢
  clear hm
  by_cases hp : ptE x.a q = 0
  · have HP := Lib.hid hp
    have hm4 := HRM.out.2 hp
    have hd : decide (400 < m.length) = false := decide_eq_false (by omega)
    have hd2 : decide ((400 : Int) < (m.length : Int)) = false := decide_eq_false (by omega)
    obtain ⟨cb, hcb⟩ : ∃ b, decide (x.a.length < m.length) = b := ⟨_, rfl⟩
    have hcb2 : decide ((x.a.length : Int) < (m.length : Int)) = cb := by rw [← hcb]; exact decide_eq_decide.2 (by omega)
    have HCB := Lib.hid (show cb = ptB x.a q by rw [← hcb, HMO.out, (pt_ok hp).2])
    have HPL := Lib.hid (show ptL x.a q = m by rw [(pt_ok hp).1, HM.out])
    have q7 := HC7.out.cell 0 _ rfl
    clear hp hm4
    go_wp2_with (first
      | ((with_reducible refine wpList_store_one ?_ ?_ 22 (.tmp 28) (.tmp 27) ?_ g1 0 26 #[.slice A1 x.a.length c1, .slice A2 x.s.length c2, .slice A3 x.p.length c3] (.slice A7 m.length c7) rfl ?_ ?_ ?_ infoLA ?_ rfl ?_); (exact rfl); (exact rfl); (exact rfl); (exact rfl); (exact rfl); (exact HC7.out); (exact of_decide_eq_true rfl); intro w8 k8 g8; have K8 := Lib.hid (show Cs w8 g1 26 #[.slice A7 m.length c7, .slice A2 x.s.length c2, .slice A3 x.p.length c3] from k8); have G8 := Lib.hid g8; clear k8 g8)
      | ((with_reducible refine wpList_loadX ?_ (.tmp 2) ?_ g1 (.slice A7 m.length c7) (.slice A2 x.s.length c2) (.slice A3 x.p.length c3) ?_ ?_ ?_); (exact rfl); (exact rfl); (exact rfl); (exact K8.out))
      | ((with_reducible refine wpList_storeX ?_ ?_ (.tmp 4) (.tmp 29) ?_ gr (.slice none 0 0) (.slice none 0 0) (.slice none 0 0) (.slice A7 m.length c7) (.slice A2 x.s.length c2) (.slice A3 x.p.length c3) ?_ ?_ rfl rfl rfl ?_ ?_); (exact rfl); (exact rfl); (exact rfl); (exact rfl); (exact rfl); (exact Cs.kept HR7.out G8.out (fun e => HGR.out.2.1 (by injection e with e; exact e.symm))); intro w9 k9 g9; have K9 := Lib.hid k9; have G9 := Lib.hid g9; clear k9 g9))
    have HE9 := Lib.hid ((HEW.out.grown G8.out (Nat.le_of_eq HG1.out)).grown G9.out (Nat.le_trans (Nat.le_of_eq HG1.out) HGR.out.1))
    refine bodyPost_ret (results_ax_err Try.results17 _ _ gr _ _ _ rfl K9.out) rfl ?_
    refine ⟨_, _, _, by rw [← HCB.out, ← HRB.out, decide_eq_true HP.out]; rfl, ?_, HE9.out⟩
    rw [← HRY.out, if_pos HP.out, HPL.out]
    exact ⟨((HOW.out.keptT G8.out HC7.out (by decide)).keptT G9.out (Cs.kept HR7.out G8.out (fun e => HGR.out.2.1 (by injection e with e; exact e.symm))) (by decide)).xs, HX.out.2.1.ext HE9.out, HX.out.2.2.ext HE9.out⟩
  · have HP := Lib.hid hp
    have hm4 : 400 < m.length := by have := HRM.out; omega
    have hd : decide (400 < m.length) = true := decide_eq_true hm4
    have hd2 : decide ((400 : Int) < (m.length : Int)) = true := decide_eq_true (by omega)
    have HPB := Lib.hid (show ptB x.a q = false by unfold ptB; rw [if_neg hp])
    clear hp hm4
    go_wp2_with ((with_reducible refine wpList_storeX ?_ ?_ (.tmp 4) (.tmp 20) ?_ gr (.slice none 0 0) (.slice none 0 0) (.slice none 0 0) (.slice none 0 0) (.slice none 0 0) (.slice none 0 0) ?_ ?_ rfl rfl rfl HR7.out ?_); (exact rfl); (exact rfl); (exact rfl); (exact rfl); (exact rfl); intro w9 k9 g9; have K9 := Lib.hid k9; have G9 := Lib.hid g9; clear k9 g9)
    refine bodyPost_ret (results_ax_err Try.results17 _ _ gr _ _ _ rfl K9.out) rfl ?_
    refine ⟨_, _, _, by rw [HPB.out, ← HRB.out, decide_eq_false HP.out]; rfl, ?_, HEW.out.grown G9.out (Nat.le_trans (Nat.le_of_eq HG1.out) HGR.out.1)⟩
    rw [← HRY.out, if_neg HP.out]
    exact axR_nil _
end Go.Proofs.Ytjampleddeidaaa
