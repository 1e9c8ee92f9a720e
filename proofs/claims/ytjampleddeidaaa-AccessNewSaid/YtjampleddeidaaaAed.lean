/- Package access: slices.Index, Contains of addresses, spots. -/
import Derived.Test.YtjampleddeidaaaAcz
namespace Go.Proofs.Ytjampleddeidaaa
open Go.ChangeShapes Go.WideShapes Go.ChangeAt Go.RowKit Go.Shelf

set_option maxRecDepth 100000 in
theorem Sl.takeX {α : Type} {W : World} {s : Nat} {Rd : List Value → α → Prop} {A : Option Addr} {n c : Nat} {l : List α} (h : Sl W s Rd (.slice A n c) l) (i : Nat) (hi : i ≤ l.length) : Sl W s Rd (.slice A i c) (l.take i) := by
  obtain ⟨A', c', e, h1, h2, h3⟩ := h
  injection e with e1 e2 e3
  subst e1 e2 e3
  refine ⟨A, c, by rw [List.length_take, Nat.min_eq_left hi], by rw [List.length_take]; omega, h2, fun hp => ?_⟩
  have hp' : 0 < l.length := by rw [List.length_take] at hp; omega
  obtain ⟨b, o, e, hc⟩ := h3 hp'
  refine ⟨b, o, e, fun j x hx => hc j x ?_⟩
  rw [List.getElem?_take] at hx
  split at hx
  · exact hx
  · cases hx
set_option maxRecDepth 100000 in
theorem mem_stop {l : List Pe} {q : Pe} {k : Nat} (hk : k < l.length) (h : q = l.getD k pz0) : q ∈ l := h ▸ getX_mem hk
set_option maxRecDepth 100000 in
theorem mem_none {l : List Pe} {q : Pe} (h : ∀ i, i < l.length → l.getD i pz0 ≠ q) : ¬ q ∈ l := fun hm => by
  obtain ⟨i, hi, e⟩ := memX_get hm
  exact h i hi e
set_option maxRecDepth 100000 in
set_option maxHeartbeats 4000000 in
theorem indexA_any (v : Value) (l : List Pe) (q : Pe) (w : World) (hs : XA w v l) (hq : okA q) : Calls Try.prog 55 #[v, .int .u64 (q.addr : Nat)] w fun e w' => ∃ r : Int, e = .returned (.int .i64 r) ∧ (0 ≤ r ↔ q ∈ l) ∧ Ext w w' := by
  have HS := Lib.hid hs
  have HQ := Lib.hid hq
  obtain ⟨A1, c1, rfl, h1, h2⟩ := hs.len
  unfold maxLen at h2
  clear hs hq
  go_enter Try.func55, Try.ntmps55
  go_wp2_with fail
  go_loopw [8] (fun iv wr => ∃ k : Nat, k ≤ l.length ∧ iv = .int .i64 k ∧ Hid ((∀ i, i < k → l.getD i pz0 ≠ q) ∧ Ext w wr)) (fun iv _ => l.length - (intOf iv).toNat)
  case atStart => exact ⟨0, by omega, rfl, Lib.hid ⟨fun i hi => absurd hi (by omega), Ext.refl _⟩⟩
  case round =>
    obtain ⟨k, hk, rfl, HJ⟩ := hrel
    by_cases hlt : k < l.length
    · have hd : decide (k < l.length) = true := decide_eq_true hlt
      have hd2 : decide ((k : Int) < (l.length : Int)) = true := decide_eq_true (by omega)
      obtain ⟨bb, oo, rfl, hrg, hp⟩ := (HS.out.ext HJ.out.2).at k hlt
      have HR := Lib.hid hrg
      have HPP := Lib.hid hp
      have HMO := Lib.hid (fun (h : l.getD k pz0 ≠ q) => show ∀ i, i < k + 1 → l.getD i pz0 ≠ q from fun i hi => by
        rcases Nat.lt_or_ge i k with h' | h'
        · exact HJ.out.1 i h'
        · obtain rfl : i = k := by omega
          exact h)
      have HST := Lib.hid (fun (h : q = l.getD k pz0) => mem_stop hlt h)
      clear hrg hp
      generalize l.getD k pz0 = p at *
      obtain ⟨nb, hnb⟩ : ∃ nb, ((q.addr : Int) == (p.addr : Int)) = nb := ⟨_, rfl⟩
      have HYES := Lib.hid (show nb = true → q = p from fun h => eq_addr HQ.out HPP.out (by rw [← hnb] at h; simp at h; omega))
      have HSAM := Lib.hid (show nb = false → p ≠ q from fun h e => by rw [← hnb, e] at h; simp at h)
      have hcl := ex_addr HR.out
      cases nb with
      | true =>
        have HM := Lib.hid (HST.out (HYES.out rfl))
        go_wp2_with fail
        refine bodyPost_ret (results_tmp rfl _ _ _) rfl ?_
        exact ⟨_, rfl, ⟨fun _ => HM.out, fun _ => by omega⟩, HJ.out.2⟩
      | false =>
        have HM := Lib.hid (HMO.out (HSAM.out rfl))
        go_wp2_with fail
        exact ⟨⟨k + 1, by omega, by go_num, Lib.hid ⟨HM.out, HJ.out.2⟩⟩, by simp [intOf]; omega⟩
    · obtain rfl : k = l.length := by omega
      have hd : decide (l.length < l.length) = false := decide_eq_false (by omega)
      have hd2 : decide ((l.length : Int) < (l.length : Int)) = false := decide_eq_false (by omega)
      have HN := Lib.hid (mem_none HJ.out.1)
      go_wp2_with fail
      refine bodyPost_ret (results_tmp rfl _ _ _) rfl ?_
      exact ⟨_, rfl, ⟨fun h => absurd h (by decide), fun h => absurd h HN.out⟩, HJ.out.2⟩
set_option maxRecDepth 100000 in
set_option maxHeartbeats 4000000 in
theorem containsA_any (v : Value) (l : List Pe) (q : Pe) (w : World) (hs : XA w v l) (hq : okA q) : Calls Try.prog 28 #[v, .int .u64 (q.addr : Nat)] w fun e w' => e = .returned (.bool (decide (q ∈ l))) ∧ Ext w w' := by
  have HI := Lib.hid (indexA_any v l q w hs hq)
  clear hs hq
  go_enter Try.func28, Try.ntmps28
  go_wp2_with fail
  refine HI.out.mono ?_
  rintro e w1 ⟨r, rfl, hr, he⟩
  have HR := Lib.hid (show decide (0 ≤ r) = decide (q ∈ l) from decide_eq_decide.2 hr)
  have HE := Lib.hid he
  clear hr he
  go_wp2_with fail
  refine bodyPost_ret (results_tmp rfl _ _ _) rfl ?_
  exact ⟨by rw [← HR.out]; rfl, HE.out⟩
set_option maxRecDepth 100000 in
theorem InX.ext {w W W' : World} {g : Nat} {cs : Array Value} (h : Cs W g 32 cs ∧ Ext w W) (he : Ext W W') : Cs W' g 32 cs ∧ Ext w W' := ⟨Cs.ext h.1 he, h.2.trans he⟩
set_option maxRecDepth 100000 in
set_option maxHeartbeats 4000000 in
theorem indexS_any (v : Value) (l : List Pe) (q : Pe) (w : World) (hs : XS w v l) (hq : okS q) : Calls Try.prog 51 #[v, .agg (cS q)] w fun e w' => ∃ r : Int, e = .returned (.int .i64 r) ∧ (0 ≤ r ↔ q ∈ l) ∧ Ext w w' := by
  have HS := Lib.hid hs
  have HQ := Lib.hid hq
  obtain ⟨A1, c1, rfl, h1, h2⟩ := hs.len
  unfold maxLen at h2
  obtain ⟨w0, hw0⟩ : ∃ w0, w.alloc (.cells (cS q) 32) = w0 := ⟨_, rfl⟩
  have HG0 : Hid (Cs w0 w.heap.size 32 (cS q)) := Lib.hid (by rw [← hw0]; exact Cs.new _ _ _ _ rfl)
  have HE0 : Hid (Ext w w0) := Lib.hid (by rw [← hw0]; exact (Ext.refl w).alloc _)
  obtain ⟨qc, hqc⟩ : ∃ qc, cS q = qc := ⟨_, rfl⟩
  have HQC := Lib.hid hqc
  rw [hqc] at hw0 ⊢
  have HW0 := Lib.hid hw0
  clear hs hq hw0 hqc
  go_enter Try.func51, Try.ntmps51
  go_upto_region 1 with fail
  rw [HW0.out]
  clear HW0
  obtain ⟨g3, hg3⟩ : ∃ g, w.heap.size = g := ⟨_, rfl⟩
  rw [hg3] at HG0 ⊢
  clear hg3
  go_wp2_with fail
  go_loopw [8] (fun iv wr => ∃ k : Nat, k ≤ l.length ∧ iv = .int .i64 k ∧ Hid ((∀ i, i < k → l.getD i pz0 ≠ q) ∧ Cs wr g3 32 (cS q) ∧ Ext w wr)) (fun iv _ => l.length - (intOf iv).toNat)
  case atStart => exact ⟨0, by omega, rfl, Lib.hid ⟨fun i hi => absurd hi (by omega), HG0.out, HE0.out⟩⟩
  case round =>
    obtain ⟨k, hk, rfl, HJ⟩ := hrel
    by_cases hlt : k < l.length
    · have hd : decide (k < l.length) = true := decide_eq_true hlt
      have hd2 : decide ((k : Int) < (l.length : Int)) = true := decide_eq_true (by omega)
      obtain ⟨bb, oo, rfl, hrg, hp⟩ := (HS.out.ext HJ.out.2.2).at k hlt
      have HR := Lib.hid hrg
      have HPP := Lib.hid hp
      have HMO := Lib.hid (fun (h : l.getD k pz0 ≠ q) => show ∀ i, i < k + 1 → l.getD i pz0 ≠ q from fun i hi => by
        rcases Nat.lt_or_ge i k with h' | h'
        · exact HJ.out.1 i h'
        · obtain rfl : i = k := by omega
          exact h)
      have HST := Lib.hid (fun (h : q = l.getD k pz0) => mem_stop hlt h)
      clear hrg hp
      generalize l.getD k pz0 = p at *
      obtain ⟨nb, hnb⟩ : ∃ nb, q.eqS p = nb := ⟨_, rfl⟩
      have HNB := Lib.hid hnb
      have HYES := Lib.hid (show nb = true → q = p from fun h => eq_spot HQ.out HPP.out (by rw [hnb]; exact h))
      have HSAM := Lib.hid (show nb = false → p ≠ q from fun h e => by rw [← hnb, e, Pe.eqS_self] at h; cases h)
      go_upto_region 4 with fail
      refine wp_named fun a0 ha0 => ?_
      obtain ⟨fr, hfr⟩ : ∃ fr : (Nat → Value) → Act, ∀ V, fr V = ((((((a0.put (some 11) (V 0)).put (some 12) (V 1)).put (some 13) (V 2)).put (some 14) (V 3)).put (some 15) (V 4)).put (some 16) (V 5)) := ⟨fun V => ((((((a0.put (some 11) (V 0)).put (some 12) (V 1)).put (some 13) (V 2)).put (some 14) (V 3)).put (some 15) (V 4)).put (some 16) (V 5)), fun _ => rfl⟩
      rw [ha0] at hfr
      simp only [Act.put, List.setIfInBounds_toArray, List.set_cons_zero, List.set_cons_succ] at hfr
      have HFR := Lib.hid hfr
      clear hfr
      refine wp_region_inv (by kernel_rfl) (by kernel_rfl) (fun L A W => ∃ V : Nat → Value, A = fr V ∧ Vals (fun j => ([some (.agg (cS q)), some (.slice (some ⟨bb, oo, none⟩) l.length c1), some (.int .i64 (k : Nat)), some (.pointer (some ⟨bb, oo + k * 5, none⟩)), some (.agg (cS p)), some (.bool nb)] : List (Option Value)).getD j none) L V ∧ (Cs W g3 32 (cS q) ∧ Ext wr W)) ?_ ⟨?_, ?_, ?_, ?_, ?_, ?_, trivial⟩ ?_
      · refine ⟨fun j => a0.tmps.getD (([11, 12, 13, 14, 15, 16] : List Nat).getD j 0) undef, ?_, Vals.no _ _ _ (far_none _ _ rfl), ⟨Cs.ext HJ.out.2.1 (Ext.refl wr).drew, (Ext.refl wr).drew⟩⟩
        rw [HFR.out, ha0]
        rfl
      all_goals clear ha0
      · rintro L A W K hL hC hW ⟨V, rfl, HV, s0⟩ hK
        have hB := s0
        have H := Lib.hid (show ∀ W', Ext W W' → K (fr (upd V 0 (.agg (cS q)))) W' from fun W' he => hK _ _ ⟨upd V 0 (.agg (cS q)), rfl, HV.up 0 _ (fun x hx => Option.some.inj hx), InX.ext s0 he⟩)
        clear hK hC hW hL HV s0
        rw [HFR.out]
        have HWW := Lib.hid (Cs.rg hB.1)
        clear hB
        refine wpList_loadS rfl (.tmp 3) rfl g3 0 q rfl HWW.out ?_
        show K _ _
        have := H.out _ (Ext.refl _)
        rw [HFR.out] at this
        exact this
      · rintro L A W K hL hC hW ⟨V, rfl, HV, s0⟩ hK
        have H := Lib.hid (show ∀ W', Ext W W' → K (fr (upd V 1 (.slice (some ⟨bb, oo, none⟩) l.length c1))) W' from fun W' he => hK _ _ ⟨upd V 1 (.slice (some ⟨bb, oo, none⟩) l.length c1), rfl, HV.up 1 _ (fun x hx => Option.some.inj hx), InX.ext s0 he⟩)
        clear hK hC hW hL HV s0
        rw [HFR.out]
        go_wp2_with fail
        show K _ _
        have := H.out _ (Ext.refl _)
        rw [HFR.out] at this
        exact this
      · rintro L A W K hL hC hW ⟨V, rfl, HV, s0⟩ hK
        have H := Lib.hid (show ∀ W', Ext W W' → K (fr (upd V 2 (.int .i64 (k : Nat)))) W' from fun W' he => hK _ _ ⟨upd V 2 (.int .i64 (k : Nat)), rfl, HV.up 2 _ (fun x hx => Option.some.inj hx), InX.ext s0 he⟩)
        clear hK hC hW hL HV s0
        rw [HFR.out]
        go_wp2_with fail
        show K _ _
        have := H.out _ (Ext.refl _)
        rw [HFR.out] at this
        exact this
      · rintro L A W K hL hC hW ⟨V, rfl, HV, s0⟩ hK
        have e1 : V 1 = .slice (some ⟨bb, oo, none⟩) l.length c1 := HV 1 _ rfl (hW 1 rfl)
        have e2 : V 2 = .int .i64 (k : Nat) := HV 2 _ rfl (hW 2 rfl)
        have H := Lib.hid (show ∀ W', Ext W W' → K (fr (upd V 3 (.pointer (some ⟨bb, oo + k * 5, none⟩)))) W' from fun W' he => hK _ _ ⟨upd V 3 (.pointer (some ⟨bb, oo + k * 5, none⟩)), rfl, HV.up 3 _ (fun x hx => Option.some.inj hx), InX.ext s0 he⟩)
        have HU := Lib.hid (show (upd V 3 (.pointer (some ⟨bb, oo + k * 5, none⟩))) 1 = .slice (some ⟨bb, oo, none⟩) l.length c1 ∧ (upd V 3 (.pointer (some ⟨bb, oo + k * 5, none⟩))) 2 = .int .i64 (k : Nat) from ⟨e1, e2⟩)
        clear hK hC hW hL HV s0
        rw [HFR.out]
        rw [e1, e2]
        clear e1 e2
        go_wp2_with fail
        show K _ _
        have := H.out _ (Ext.refl _)
        rw [HFR.out] at this
        obtain ⟨u1, u2⟩ := HU.out
        rw [u1, u2] at this
        exact this
      · rintro L A W K hL hC hW ⟨V, rfl, HV, s0⟩ hK
        have e3 : V 3 = .pointer (some ⟨bb, oo + k * 5, none⟩) := HV 3 _ rfl (hW 3 rfl)
        have hB := s0
        have H := Lib.hid (show ∀ W', Ext W W' → K (fr (upd V 4 (.agg (cS p)))) W' from fun W' he => hK _ _ ⟨upd V 4 (.agg (cS p)), rfl, HV.up 4 _ (fun x hx => Option.some.inj hx), InX.ext s0 he⟩)
        have HU := Lib.hid (show (upd V 4 (.agg (cS p))) 3 = .pointer (some ⟨bb, oo + k * 5, none⟩) from e3)
        clear hK hC hW hL HV s0
        rw [HFR.out]
        rw [e3]
        clear e3
        have HWW := Lib.hid (fun (y : Nat) (z : Value) (hz : (cS p).toList[y]? = some z) => hB.2.cell (HR.out y z hz))
        clear hB
        refine wpList_loadS rfl (.tmp 14) rfl bb (oo + k * 5) p rfl HWW.out ?_
        show K _ _
        have := H.out _ (Ext.refl _)
        rw [HFR.out] at this
        obtain u3 := HU.out
        rw [u3] at this
        exact this
      · rintro L A W K hL hC hW ⟨V, rfl, HV, s0⟩ hK
        have e0 : V 0 = .agg (cS q) := HV 0 _ rfl (hW 0 rfl)
        have e4 : V 4 = .agg (cS p) := HV 4 _ rfl (hW 4 rfl)
        have hB := s0
        have H := Lib.hid (show ∀ W', Ext W W' → K (fr (upd V 5 (.bool nb))) W' from fun W' he => hK _ _ ⟨upd V 5 (.bool nb), rfl, HV.up 5 _ (fun x hx => Option.some.inj hx), InX.ext s0 he⟩)
        have HU := Lib.hid (show (upd V 5 (.bool nb)) 0 = .agg (cS q) ∧ (upd V 5 (.bool nb)) 4 = .agg (cS p) from ⟨e0, e4⟩)
        clear hK hC hW hL HV s0
        rw [HFR.out]
        rw [e0, e4]
        clear e0 e4
        clear hB
        refine wpList_eqlS rfl (.tmp 11) (.tmp 15) rfl q p HQ.out.2.1 HPP.out.2.1 rfl rfl ?_
        rw [HNB.out]
        show K _ _
        have := H.out _ (Ext.refl _)
        rw [HFR.out] at this
        obtain ⟨u0, u4⟩ := HU.out
        rw [u0, u4] at this
        exact this
      · rintro L A W hL ⟨V, rfl, HV, s0⟩
        have e0 : V 0 = .agg (cS q) := HV 0 _ rfl (hL 0 (by simp))
        have e1 : V 1 = .slice (some ⟨bb, oo, none⟩) l.length c1 := HV 1 _ rfl (hL 1 (by simp))
        have e2 : V 2 = .int .i64 (k : Nat) := HV 2 _ rfl (hL 2 (by simp))
        have e3 : V 3 = .pointer (some ⟨bb, oo + k * 5, none⟩) := HV 3 _ rfl (hL 3 (by simp))
        have e4 : V 4 = .agg (cS p) := HV 4 _ rfl (hL 4 (by simp))
        have e5 : V 5 = .bool nb := HV 5 _ rfl (hL 5 (by simp))
        have hA := s0
        rw [HFR.out]
        rw [e0, e1, e2, e3, e4, e5]
        clear hL HV HFR e0 e1 e2 e3 e4 e5 s0
        have HJA := Lib.hid hA
        clear hA
        cases nb with
        | true =>
          have HM := Lib.hid (HST.out (HYES.out rfl))
          go_wp2_with fail
          refine bodyPost_ret (results_tmp rfl _ _ _) rfl ?_
          exact ⟨_, rfl, ⟨fun _ => HM.out, fun _ => by omega⟩, HJ.out.2.2.trans HJA.out.2⟩
        | false =>
          have HM := Lib.hid (HMO.out (HSAM.out rfl))
          go_wp2_with fail
          exact ⟨⟨k + 1, by omega, by go_num, Lib.hid ⟨HM.out, HJA.out.1, HJ.out.2.2.trans HJA.out.2⟩⟩, by simp [intOf]; omega⟩
    · obtain rfl : k = l.length := by omega
      have hd : decide (l.length < l.length) = false := decide_eq_false (by omega)
      have hd2 : decide ((l.length : Int) < (l.length : Int)) = false := decide_eq_false (by omega)
      have HN := Lib.hid (mem_none HJ.out.1)
      go_wp2_with fail
      refine bodyPost_ret (results_tmp rfl _ _ _) rfl ?_
      exact ⟨_, rfl, ⟨fun h => absurd h (by decide), fun h => absurd h HN.out⟩, HJ.out.2.2⟩
set_option maxRecDepth 100000 in
set_option maxHeartbeats 4000000 in
theorem containsS_any (v : Value) (l : List Pe) (q : Pe) (w : World) (hs : XS w v l) (hq : okS q) : Calls Try.prog 26 #[v, .agg (cS q)] w fun e w' => e = .returned (.bool (decide (q ∈ l))) ∧ Ext w w' := by
  obtain ⟨w0, hw0⟩ : ∃ w0, w.alloc (.cells (cS q) 32) = w0 := ⟨_, rfl⟩
  have HG : Hid (Cs w0 w.heap.size 32 (cS q)) := Lib.hid (by rw [← hw0]; exact Cs.new _ _ _ _ rfl)
  have HE0 : Hid (Ext w w0) := Lib.hid (by rw [← hw0]; exact (Ext.refl w).alloc _)
  have HRG := Lib.hid (Cs.rg HG.out)
  have HI := Lib.hid (indexS_any v l q w0 (hs.ext HE0.out) hq)
  obtain ⟨qc, hqc⟩ : ∃ qc, cS q = qc := ⟨_, rfl⟩
  rw [hqc] at hw0 ⊢
  have HW0 := Lib.hid hw0
  clear hs hq hw0 hqc
  go_enter Try.func26, Try.ntmps26
  go_upto_region 1 with fail
  rw [HW0.out]
  clear HW0
  go_wp2_with ((with_reducible refine wpList_loadS ?_ (.tmp 3) ?_ w.heap.size 0 q ?_ ?_ ?_); (exact rfl); (exact rfl); (exact rfl); (exact HRG.out))
  refine HI.out.mono ?_
  rintro e w1 ⟨r, rfl, hr, he⟩
  have HR := Lib.hid (show decide (0 ≤ r) = decide (q ∈ l) from decide_eq_decide.2 hr)
  have HE := Lib.hid (HE0.out.trans he)
  clear hr he
  go_wp2_with fail
  refine bodyPost_ret (results_tmp rfl _ _ _) rfl ?_
  exact ⟨by rw [← HR.out]; rfl, HE.out⟩
end Go.Proofs.Ytjampleddeidaaa
