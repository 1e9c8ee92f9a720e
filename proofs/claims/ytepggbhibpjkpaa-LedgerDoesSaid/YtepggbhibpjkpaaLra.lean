/- The document's functions of layer 7: None, Find, sum, Same. -/
import Derived.Test.YtepggbhibpjkpaaLho
import Derived.Test.YtepggbhibpjkpaaRcd
namespace Go.Proofs.Ytepggbhibpjkpaa
open Go.ChangeShapes Go.WideShapes Go.ChangeAt Go.RowKit Go.Shelf

set_option maxRecDepth 100000 in
theorem lb_zero (i : Nat) : lb 0 i = 0 := by unfold lb; simp
set_option maxRecDepth 100000 in
theorem none_iff {n : Nat} (hn : n < M256) : n = 0 ↔ (lb n 0 = 0 ∧ lb n 1 = 0 ∧ lb n 2 = 0 ∧ lb n 3 = 0) := by
  constructor
  · rintro rfl
    exact ⟨lb_zero 0, lb_zero 1, lb_zero 2, lb_zero 3⟩
  · rintro ⟨h0, h1, h2, h3⟩
    refine lb_inj n 0 hn (by decide) (fun i hi => ?_)
    rw [lb_zero]
    obtain rfl | rfl | rfl | rfl : i = 0 ∨ i = 1 ∨ i = 2 ∨ i = 3 := by omega
    · exact h0
    · exact h1
    · exact h2
    · exact h3
set_option maxRecDepth 100000 in
set_option maxHeartbeats 4000000 in
theorem refNone_any (n : Nat) (w : World) (hn : n < M256) : Calls Try.prog 134 #[wv n] w fun e w' => e = .returned (.bool (decide (n = 0))) ∧ Ext w w' := by
  have HN := Lib.hid (none_iff hn)
  obtain ⟨w0, hw0⟩ : ∃ w0, w.alloc (.cells (wc n) 29) = w0 := ⟨_, rfl⟩
  have HW0 := Lib.hid hw0
  have HG : Hid (Cs w0 w.heap.size 29 (wc n)) := Lib.hid (by rw [← hw0]; exact Cs.new _ _ _ _ rfl)
  have HE : Hid (Ext w w0) := Lib.hid (by rw [← hw0]; exact (Ext.refl _).alloc _)
  clear hw0 hn
  unfold wv
  go_enter Try.func134, Try.ntmps134
  go_upto_region 1 with fail
  rw [show w.alloc (.cells (wc n) 29) = w0 from HW0.out]
  clear HW0
  have q0 : w0.cell? ⟨w.heap.size, 0, none⟩ = some (.int .u64 (lb n 0 : Nat)) := HG.out.cell 0 _ rfl
  have q1 : w0.cell? ⟨w.heap.size, 1, none⟩ = some (.int .u64 (lb n 1 : Nat)) := HG.out.cell 1 _ rfl
  have q2 : w0.cell? ⟨w.heap.size, 2, none⟩ = some (.int .u64 (lb n 2 : Nat)) := HG.out.cell 2 _ rfl
  have q3 : w0.cell? ⟨w.heap.size, 3, none⟩ = some (.int .u64 (lb n 3 : Nat)) := HG.out.cell 3 _ rfl
  by_cases h0 : lb n 0 = 0
  case neg =>
    have HF := Lib.hid (show decide (n = 0) = false from decide_eq_false (fun e => h0 (HN.out.1 e).1))
    have e1 : ((lb n 0 : Int) == 0) = false := by rw [beq_eq_false_iff_ne]; omega
    have e2 : (lb n 0 == 0) = false := by rw [beq_eq_false_iff_ne]; exact h0
    clear h0
    go_wp2_with fail
    go_ret
    exact ⟨by rw [HF.out]; rfl, HE.out⟩
  rw [h0] at q0
  by_cases h1 : lb n 1 = 0
  case neg =>
    have HF := Lib.hid (show decide (n = 0) = false from decide_eq_false (fun e => h1 (HN.out.1 e).2.1))
    have e1 : ((lb n 1 : Int) == 0) = false := by rw [beq_eq_false_iff_ne]; omega
    have e2 : (lb n 1 == 0) = false := by rw [beq_eq_false_iff_ne]; exact h1
    clear h1
    go_wp2_with fail
    go_ret
    exact ⟨by rw [HF.out]; rfl, HE.out⟩
  rw [h1] at q1
  by_cases h2 : lb n 2 = 0
  case neg =>
    have HF := Lib.hid (show decide (n = 0) = false from decide_eq_false (fun e => h2 (HN.out.1 e).2.2.1))
    have e1 : ((lb n 2 : Int) == 0) = false := by rw [beq_eq_false_iff_ne]; omega
    have e2 : (lb n 2 == 0) = false := by rw [beq_eq_false_iff_ne]; exact h2
    clear h2
    go_wp2_with fail
    go_ret
    exact ⟨by rw [HF.out]; rfl, HE.out⟩
  rw [h2] at q2
  by_cases h3 : lb n 3 = 0
  case neg =>
    have HF := Lib.hid (show decide (n = 0) = false from decide_eq_false (fun e => h3 (HN.out.1 e).2.2.2))
    have e1 : ((lb n 3 : Int) == 0) = false := by rw [beq_eq_false_iff_ne]; omega
    have e2 : (lb n 3 == 0) = false := by rw [beq_eq_false_iff_ne]; exact h3
    clear h3
    go_wp2_with fail
    go_ret
    exact ⟨by rw [HF.out]; rfl, HE.out⟩
  rw [h3] at q3
  have HF := Lib.hid (show decide (n = 0) = true from decide_eq_true (HN.out.2 ⟨h0, h1, h2, h3⟩))
  clear h0 h1 h2 h3
  go_wp2_with fail
  go_ret
  exact ⟨by rw [HF.out]; rfl, HE.out⟩
set_option maxRecDepth 100000 in
theorem hdc_new (a : Nat) : hdc ⟨a, 0, 0, 0, 0⟩ = #[.int .u64 (a : Nat), .int .u64 0, .int .u64 0, .int .u64 0, .int .u64 0, .int .u64 0, .int .u64 0, .int .u64 0, .int .u64 0, .int .u64 0, .int .u64 0] := by simp [hdc, lv, lb]
set_option maxRecDepth 100000 in
theorem rowG_at {l : List Hd} (hr : RiseG l) (k : Nat) (hk : k < l.length) : rowG l (l.getD k hz0).addr = l.getD k hz0 := by
  have hm : l.getD k hz0 ∈ l := by rw [List.getD_eq_getElem?_getD, List.getElem?_eq_getElem hk]; exact List.getElem_mem hk
  rcases rowG_or hr (l.getD k hz0).addr with ⟨q, hq, e, e1, _⟩ | ⟨h1, _, _⟩
  · rw [e1]
    exact uniqG ((riseG_iff l).1 hr) q hq _ hm e
  · exact absurd rfl (h1 _ hm)
set_option maxRecDepth 100000 in
theorem rowG_no {l : List Hd} (hr : RiseG l) (a : Nat) (h : ∀ k, k < l.length → (l.getD k hz0).addr ≠ a) : rowG l a = ⟨a, 0, 0, 0, 0⟩ := by
  rcases rowG_or hr a with ⟨q, hq, e, _, _⟩ | ⟨_, e1, _⟩
  · obtain ⟨k, hk, rfl⟩ := List.getElem_of_mem hq
    refine absurd ?_ (h k hk)
    rw [List.getD_eq_getElem?_getD, List.getElem?_eq_getElem hk]
    exact e
  · exact e1
set_option maxRecDepth 100000 in
set_option maxHeartbeats 4000000 in
theorem refFind_any (v : Value) (l : List Hd) (a : Nat) (w : World) (hs : Hds w v l) (hr : RiseG l) : Calls Try.prog 136 #[.agg #[v], .int .u64 (a : Nat)] w fun e w' => e = .returned (.agg (hdc (rowG l a))) ∧ Ext w w' := by
  have HS := Lib.hid hs
  have HR0 := Lib.hid hr
  obtain ⟨A1, c1, rfl, h1, h2⟩ := hs.len
  unfold maxLen at h2
  obtain ⟨w0, hw0⟩ : ∃ w0, (w.alloc (.cells #[.slice A1 l.length c1] 88)).alloc (.cells (hdc hz0) 97) = w0 := ⟨_, rfl⟩
  have HW0 := Lib.hid hw0
  have HG : Hid (Cs w0 w.heap.size 88 #[.slice A1 l.length c1]) := Lib.hid (by rw [← hw0]; exact Cs.alloc (Cs.new _ _ _ _ rfl) _)
  have HZ : Hid (Cs w0 (w.heap.size + 1) 97 (hdc hz0)) := Lib.hid (by rw [← hw0]; exact Cs.new _ _ _ _ (by rw [World.size_alloc]))
  have HE : Hid (Ext w w0) := Lib.hid (by rw [← hw0]; exact ((Ext.refl w).alloc _).alloc _)
  clear hw0 hs hr
  go_enter Try.func136, Try.ntmps136
  go_upto_region 1 with fail
  rw [show (w.alloc (.cells #[.slice A1 l.length c1] 88)).alloc (.cells #[.int .u64 0, .int .u64 0, .int .u64 0, .int .u64 0, .int .u64 0, .int .u64 0, .int .u64 0, .int .u64 0, .int .u64 0, .int .u64 0, .int .u64 0] 97) = w0 from HW0.out]
  clear HW0
  have HGL := Lib.hid (show w.heap.size ≤ w.heap.size + 1 by omega)
  obtain ⟨gL, hgL⟩ : ∃ g, w.heap.size = g := ⟨_, rfl⟩
  rw [hgL] at HG HZ ⊢
  have HGZ : Hid (w.heap.size ≤ gL + 1) := Lib.hid (by omega)
  clear hgL HGL
  go_wp2_with fail
  go_loopw [5] (fun iv wr => ∃ k : Nat, k ≤ l.length ∧ iv = .int .i64 k ∧ Hid ((∀ i, i < k → (l.getD i hz0).addr ≠ a) ∧ Ext w0 wr)) (fun iv _ => l.length - (intOf iv).toNat)
  case atStart => exact ⟨0, by omega, rfl, Lib.hid ⟨fun i hi => absurd hi (by omega), Ext.refl _⟩⟩
  case round =>
    obtain ⟨k, hk, rfl, HJ⟩ := hrel
    have HE1 := Lib.hid (HE.out.trans HJ.out.2)
    have HZ1 := Lib.hid (Cs.ext HZ.out HJ.out.2)
    have qL := (Cs.ext HG.out HJ.out.2).cell 0 _ rfl
    by_cases hlt : k < l.length
    · have hd : decide (k < l.length) = true := decide_eq_true hlt
      have hd2 : decide ((k : Int) < (l.length : Int)) = true := decide_eq_true (by omega)
      obtain ⟨bb, oo, rfl, hrg, hp⟩ := (HS.out.ext HE1.out).at k hlt
      have HR := Lib.hid hrg
      have HRW := Lib.hid (rowG_at HR0.out k hlt)
      have HNX := Lib.hid (show (l.getD k hz0).addr ≠ a → ∀ i, i < k + 1 → (l.getD i hz0).addr ≠ a from fun h i hi => by
        rcases Nat.lt_or_ge i k with h1 | h1
        · exact HJ.out.1 i h1
        · obtain rfl : i = k := by omega
          exact h)
      clear hrg hp
      generalize l.getD k hz0 = p at *
      have qa : wr.cell? ⟨bb, oo + k * 11, none⟩ = some (.int .u64 (p.addr : Nat)) := by
        have := HR.out 0 _ rfl
        rwa [Nat.add_zero] at this
      by_cases ha : p.addr = a
      · have e1 : ((p.addr : Int) == (a : Int)) = true := by rw [beq_iff_eq]; omega
        have e2 : (p.addr == a) = true := by rw [beq_iff_eq]; exact ha
        have HPA := Lib.hid ha
        have HPO := Lib.hid (hdc_one p)
        obtain ⟨pc, hpc⟩ : ∃ pc, hdc p = pc := ⟨_, rfl⟩
        have HPC := Lib.hid hpc
        have HPS := Lib.hid (show pc.size = 11 by rw [← hpc]; rfl)
        rw [hpc] at HPO
        clear ha hpc
        go_wp2_with (first
          | (((with_reducible refine wpList_load_hd ?_ (.tmp 24) ?_ bb (oo + k * 11) p ?_ ?_ ?_); (exact rfl); (exact rfl); (exact rfl); (exact HR.out)); rw [HPC.out])
          | ((with_reducible refine wpList_store_agg ?_ ?_ 97 (.tmp 4) (.tmp 25) ?_ hdinfo (gL + 1) (hdc hz0) pc ?_ ?_ ?_ ?_ ?_ ?_ ?_); (exact rfl); (exact rfl); (exact rfl); (exact HPO.out); (exact rfl); (exact rfl); (exact HZ1.out); (exact rfl); (exact HPS.out); intro w9 k9 g9; have K9 := Lib.hid k9; have G9 := Lib.hid g9; clear k9 g9))
        refine bodyPost_ret (results_cell_row Try.results136 _ _ (gL + 1) 97 _ (0, 0) _ rfl K9.out Try.underlying97 rfl (by rw [hdinfo, HPS.out])) rfl ?_
        exact ⟨by rw [← HPC.out, ← HPA.out, HRW.out], HE1.out.grown G9.out HGZ.out⟩
      · have e1 : ((p.addr : Int) == (a : Int)) = false := by rw [beq_eq_false_iff_ne]; omega
        have e2 : (p.addr == a) = false := by rw [beq_eq_false_iff_ne]; exact ha
        have HPN := Lib.hid (HNX.out ha)
        clear ha
        go_wp2_with fail
        exact ⟨⟨k + 1, by omega, by go_num, Lib.hid ⟨HPN.out, HJ.out.2⟩⟩, by simp [intOf]; omega⟩
    · obtain rfl : k = l.length := by omega
      have hd : decide (l.length < l.length) = false := decide_eq_false (by omega)
      have hd2 : decide ((l.length : Int) < (l.length : Int)) = false := decide_eq_false (by omega)
      have HNO := Lib.hid (rowG_no HR0.out a (fun i hi => HJ.out.1 i hi))
      go_wp2_with ((with_reducible refine wpList_store_agg ?_ ?_ 97 (.tmp 4) (.tmp 27) ?_ hdinfo (gL + 1) (hdc hz0) (hdc ⟨a, 0, 0, 0, 0⟩) ?_ ?_ ?_ ?_ ?_ ?_ ?_); (exact rfl); (exact rfl); (exact rfl); (exact hdc_one _); (exact rfl); (exact (congrArg Value.agg (hdc_new a)).symm); (exact HZ1.out); (exact rfl); (exact rfl); intro w9 k9 g9; have K9 := Lib.hid k9; have G9 := Lib.hid g9; clear k9 g9)
      refine bodyPost_ret (results_cell_row Try.results136 _ _ (gL + 1) 97 _ (0, 0) _ rfl K9.out Try.underlying97 rfl hdinfo) rfl ?_
      exact ⟨by rw [HNO.out], HE1.out.grown G9.out HGZ.out⟩
set_option maxRecDepth 100000 in
set_option maxHeartbeats 4000000 in
theorem refSameL_any (v u : Value) (l m : List Hd) (w : World) (hs : Hds w v l) (ht : Hds w u m) : Calls Try.prog 43 #[.agg #[v], .agg #[u]] w fun e w' => e = .returned (.bool (sameG l m)) ∧ Ext w w' := by
  have HS := Lib.hid hs
  have HT := Lib.hid ht
  obtain ⟨A1, c1, rfl, h1, h2⟩ := hs.len
  obtain ⟨A2, c2, rfl, h3, h4⟩ := ht.len
  unfold maxLen at h2 h4
  obtain ⟨w0, hw0⟩ : ∃ w0, (w.alloc (.cells #[.slice A1 l.length c1] 88)).alloc (.cells #[.slice A2 m.length c2] 88) = w0 := ⟨_, rfl⟩
  have HW0 := Lib.hid hw0
  have HA : Hid (Cs w0 w.heap.size 88 #[.slice A1 l.length c1]) := Lib.hid (by rw [← hw0]; exact Cs.alloc (Cs.new _ _ _ _ rfl) _)
  have HB : Hid (Cs w0 (w.heap.size + 1) 88 #[.slice A2 m.length c2]) := Lib.hid (by rw [← hw0]; exact Cs.new _ _ _ _ (by rw [World.size_alloc]))
  have HE : Hid (Ext w w0) := Lib.hid (by rw [← hw0]; exact ((Ext.refl w).alloc _).alloc _)
  clear hw0 hs ht
  go_enter Try.func43, Try.ntmps43
  go_upto_region 1 with fail
  rw [HW0.out]
  clear HW0
  obtain ⟨gA, hgA⟩ : ∃ g, w.heap.size = g := ⟨_, rfl⟩
  obtain ⟨gB, hgB⟩ : ∃ g, gA + 1 = g := ⟨_, rfl⟩
  rw [hgA] at HA HB ⊢
  rw [hgB] at HB ⊢
  clear hgA hgB
  have qA := HA.out.cell 0 _ rfl
  have qB := HB.out.cell 0 _ rfl
  by_cases hl : l.length = m.length
  case neg =>
    have HF := Lib.hid (sameG_len hl)
    have e1 : ((l.length : Int) != (m.length : Int)) = true := by rw [bne_iff_ne]; omega
    have e2 : ((l.length : Int) == (m.length : Int)) = false := by rw [beq_eq_false_iff_ne]; omega
    clear hl
    go_wp2_with fail
    go_ret
    exact ⟨by rw [HF.out]; rfl, HE.out⟩
  have e1 : ((l.length : Int) != (m.length : Int)) = false := by rw [bne_eq_false_iff_eq]; omega
  have e2 : ((l.length : Int) == (m.length : Int)) = true := by rw [beq_iff_eq]; omega
  have HL := Lib.hid hl
  clear hl
  go_wp2_with fail
  clear e1 e2 qA qB
  go_loopw [5] (fun iv wr => ∃ k : Nat, k ≤ l.length ∧ iv = .int .i64 k ∧ Hid ((∀ i, i < k → (l.getD i hz0).eqB (m.getD i hz0) = true) ∧ Ext w0 wr)) (fun iv _ => l.length - (intOf iv).toNat)
  case atStart => exact ⟨0, by omega, rfl, Lib.hid ⟨fun i hi => absurd hi (by omega), Ext.refl _⟩⟩
  case round =>
    obtain ⟨k, hk, rfl, HJ⟩ := hrel
    have HE1 := Lib.hid (HE.out.trans HJ.out.2)
    have HA1 := Lib.hid (Cs.ext HA.out HJ.out.2)
    have HB1 := Lib.hid (Cs.ext HB.out HJ.out.2)
    have qA := HA1.out.cell 0 _ rfl
    by_cases hlt : k < l.length
    · have hd : decide (k < l.length) = true := decide_eq_true hlt
      have hd2 : decide ((k : Int) < (l.length : Int)) = true := decide_eq_true (by omega)
      have hlm : k < m.length := by have := HL.out; omega
      have hd3 : decide (k < m.length) = true := decide_eq_true hlm
      have hd4 : decide ((k : Int) < (m.length : Int)) = true := decide_eq_true (by omega)
      obtain ⟨bb, oo, rfl, hrg, hp⟩ := (HS.out.ext HE1.out).at k hlt
      obtain ⟨b2, o2, rfl, hrg2, hp2⟩ := (HT.out.ext HE1.out).at k hlm
      have HR := Lib.hid hrg
      have HR2 := Lib.hid hrg2
      have HPP := Lib.hid hp
      have HPQ := Lib.hid hp2
      have HNX := Lib.hid (show (l.getD k hz0).eqB (m.getD k hz0) = true → ∀ i, i < k + 1 → (l.getD i hz0).eqB (m.getD i hz0) = true from fun h i hi => by
        rcases Nat.lt_or_ge i k with h1 | h1
        · exact HJ.out.1 i h1
        · obtain rfl : i = k := by omega
          exact h)
      have HNO := Lib.hid (fun h => sameG_at (l := l) (m := m) k hlt h)
      clear hrg hp hrg2 hp2
      generalize l.getD k hz0 = p at *
      generalize m.getD k hz0 = q at *
      go_upto_region 6 with fail
      clear qA
      refine wp_named fun a0 ha0 => ?_
      obtain ⟨fr, hfr⟩ : ∃ fr : (Nat → Value) → Act, ∀ V, fr V = (((((((((((a0.put (some 20) (V 0)).put (some 21) (V 1)).put (some 22) (V 2)).put (some 23) (V 3)).put (some 24) (V 4)).put (some 25) (V 5)).put (some 26) (V 6)).put (some 27) (V 7)).put (some 28) (V 8)).put (some 29) (V 9)).put (some 30) (V 10)) := ⟨fun V => (((((((((((a0.put (some 20) (V 0)).put (some 21) (V 1)).put (some 22) (V 2)).put (some 23) (V 3)).put (some 24) (V 4)).put (some 25) (V 5)).put (some 26) (V 6)).put (some 27) (V 7)).put (some 28) (V 8)).put (some 29) (V 9)).put (some 30) (V 10)), fun _ => rfl⟩
      rw [ha0] at hfr
      simp only [Act.put, List.setIfInBounds_toArray, List.set_cons_zero, List.set_cons_succ] at hfr
      have HFR := Lib.hid hfr
      clear hfr
      refine wp_region_inv (by kernel_rfl) (by kernel_rfl) (fun L A W => ∃ V : Nat → Value, A = fr V ∧ Vals (fun j => ([some (.pointer (some ⟨gA, 0, none⟩)), some (.slice (some ⟨bb, oo, none⟩) l.length c1), some (.int .i64 k), some (.pointer (some ⟨bb, oo + k * 11, none⟩)), some (.agg (hdc p)), some (.pointer (some ⟨gB, 0, none⟩)), some (.slice (some ⟨b2, o2, none⟩) m.length c2), some (.int .i64 k), some (.pointer (some ⟨b2, o2 + k * 11, none⟩)), some (.agg (hdc q)), some (.bool (!p.eqB q))] : List (Option Value)).getD j none) L V ∧ (Ext wr W)) ?_ ⟨?_, ?_, ?_, ?_, ?_, ?_, ?_, ?_, ?_, ?_, ?_, trivial⟩ ?_
      · refine ⟨fun j => a0.tmps.getD (([20, 21, 22, 23, 24, 25, 26, 27, 28, 29, 30] : List Nat).getD j 0) undef, ?_, Vals.no _ _ _ (far_none _ _ rfl), (Ext.refl _).drew⟩
        rw [HFR.out, ha0]
        rfl
      all_goals clear ha0
      · rintro L A W K hL hC hW ⟨V, rfl, HV, s0⟩ hK
        have H := Lib.hid (show ∀ W', Ext W W' → K (fr (upd V 0 (.pointer (some ⟨gA, 0, none⟩)))) W' from fun W' he => hK _ _ ⟨upd V 0 (.pointer (some ⟨gA, 0, none⟩)), rfl, HV.up 0 _ (fun x hx => Option.some.inj hx), Ext.trans s0 he⟩)
        clear hK hC hW hL HV s0
        rw [HFR.out]
        go_wp2_with fail
        show K _ _
        have := H.out _ (Ext.refl _)
        rw [HFR.out] at this
        exact this
      · rintro L A W K hL hC hW ⟨V, rfl, HV, s0⟩ hK
        have e0 : V 0 = .pointer (some ⟨gA, 0, none⟩) := HV 0 _ rfl (hW 0 rfl)
        have hB := s0
        have H := Lib.hid (show ∀ W', Ext W W' → K (fr (upd V 1 (.slice (some ⟨bb, oo, none⟩) l.length c1))) W' from fun W' he => hK _ _ ⟨upd V 1 (.slice (some ⟨bb, oo, none⟩) l.length c1), rfl, HV.up 1 _ (fun x hx => Option.some.inj hx), Ext.trans s0 he⟩)
        have HU := Lib.hid (show (upd V 1 (.slice (some ⟨bb, oo, none⟩) l.length c1)) 0 = .pointer (some ⟨gA, 0, none⟩) from e0)
        clear hK hC hW hL HV s0
        rw [HFR.out]
        rw [e0]
        clear e0
        have hcl := (Cs.ext HA1.out hB).cell 0 _ rfl
        clear hB
        go_wp2_with fail
        show K _ _
        have := H.out _ (Ext.refl _)
        rw [HFR.out] at this
        obtain u0 := HU.out
        rw [u0] at this
        exact this
      · rintro L A W K hL hC hW ⟨V, rfl, HV, s0⟩ hK
        have H := Lib.hid (show ∀ W', Ext W W' → K (fr (upd V 2 (.int .i64 k))) W' from fun W' he => hK _ _ ⟨upd V 2 (.int .i64 k), rfl, HV.up 2 _ (fun x hx => Option.some.inj hx), Ext.trans s0 he⟩)
        clear hK hC hW hL HV s0
        rw [HFR.out]
        go_wp2_with fail
        show K _ _
        have := H.out _ (Ext.refl _)
        rw [HFR.out] at this
        exact this
      · rintro L A W K hL hC hW ⟨V, rfl, HV, s0⟩ hK
        have e1 : V 1 = .slice (some ⟨bb, oo, none⟩) l.length c1 := HV 1 _ rfl (hW 1 rfl)
        have e2 : V 2 = .int .i64 k := HV 2 _ rfl (hW 2 rfl)
        have H := Lib.hid (show ∀ W', Ext W W' → K (fr (upd V 3 (.pointer (some ⟨bb, oo + k * 11, none⟩)))) W' from fun W' he => hK _ _ ⟨upd V 3 (.pointer (some ⟨bb, oo + k * 11, none⟩)), rfl, HV.up 3 _ (fun x hx => Option.some.inj hx), Ext.trans s0 he⟩)
        have HU := Lib.hid (show (upd V 3 (.pointer (some ⟨bb, oo + k * 11, none⟩))) 1 = .slice (some ⟨bb, oo, none⟩) l.length c1 ∧ (upd V 3 (.pointer (some ⟨bb, oo + k * 11, none⟩))) 2 = .int .i64 k from ⟨e1, e2⟩)
        clear hK hC hW hL HV s0
        rw [HFR.out]
        rw [e1, e2]
        clear e1 e2
        go_wp2_with fail
        show K _ _
        have := H.out _ (Ext.refl _)
        rw [HFR.out] at this
        obtain ⟨u1, u2⟩ := HU.out
        rw [u1, u2] at this
        exact this
      · rintro L A W K hL hC hW ⟨V, rfl, HV, s0⟩ hK
        have e3 : V 3 = .pointer (some ⟨bb, oo + k * 11, none⟩) := HV 3 _ rfl (hW 3 rfl)
        have hB := s0
        have H := Lib.hid (show ∀ W', Ext W W' → K (fr (upd V 4 (.agg (hdc p)))) W' from fun W' he => hK _ _ ⟨upd V 4 (.agg (hdc p)), rfl, HV.up 4 _ (fun x hx => Option.some.inj hx), Ext.trans s0 he⟩)
        have HU := Lib.hid (show (upd V 4 (.agg (hdc p))) 3 = .pointer (some ⟨bb, oo + k * 11, none⟩) from e3)
        clear hK hC hW hL HV s0
        rw [HFR.out]
        rw [e3]
        clear e3
        have HWW := Lib.hid (fun (j : Nat) (x : Value) (hx : (hdc p).toList[j]? = some x) => hB.cell (HR.out j x hx))
        clear hB
        refine wpList_load_hd rfl (.tmp 23) rfl bb (oo + k * 11) p rfl HWW.out ?_
        show K _ _
        have := H.out _ (Ext.refl _)
        rw [HFR.out] at this
        obtain u3 := HU.out
        rw [u3] at this
        exact this
      · rintro L A W K hL hC hW ⟨V, rfl, HV, s0⟩ hK
        have H := Lib.hid (show ∀ W', Ext W W' → K (fr (upd V 5 (.pointer (some ⟨gB, 0, none⟩)))) W' from fun W' he => hK _ _ ⟨upd V 5 (.pointer (some ⟨gB, 0, none⟩)), rfl, HV.up 5 _ (fun x hx => Option.some.inj hx), Ext.trans s0 he⟩)
        clear hK hC hW hL HV s0
        rw [HFR.out]
        go_wp2_with fail
        show K _ _
        have := H.out _ (Ext.refl _)
        rw [HFR.out] at this
        exact this
      · rintro L A W K hL hC hW ⟨V, rfl, HV, s0⟩ hK
        have e5 : V 5 = .pointer (some ⟨gB, 0, none⟩) := HV 5 _ rfl (hW 5 rfl)
        have hB := s0
        have H := Lib.hid (show ∀ W', Ext W W' → K (fr (upd V 6 (.slice (some ⟨b2, o2, none⟩) m.length c2))) W' from fun W' he => hK _ _ ⟨upd V 6 (.slice (some ⟨b2, o2, none⟩) m.length c2), rfl, HV.up 6 _ (fun x hx => Option.some.inj hx), Ext.trans s0 he⟩)
        have HU := Lib.hid (show (upd V 6 (.slice (some ⟨b2, o2, none⟩) m.length c2)) 5 = .pointer (some ⟨gB, 0, none⟩) from e5)
        clear hK hC hW hL HV s0
        rw [HFR.out]
        rw [e5]
        clear e5
        have hcl := (Cs.ext HB1.out hB).cell 0 _ rfl
        clear hB
        go_wp2_with fail
        show K _ _
        have := H.out _ (Ext.refl _)
        rw [HFR.out] at this
        obtain u5 := HU.out
        rw [u5] at this
        exact this
      · rintro L A W K hL hC hW ⟨V, rfl, HV, s0⟩ hK
        have H := Lib.hid (show ∀ W', Ext W W' → K (fr (upd V 7 (.int .i64 k))) W' from fun W' he => hK _ _ ⟨upd V 7 (.int .i64 k), rfl, HV.up 7 _ (fun x hx => Option.some.inj hx), Ext.trans s0 he⟩)
        clear hK hC hW hL HV s0
        rw [HFR.out]
        go_wp2_with fail
        show K _ _
        have := H.out _ (Ext.refl _)
        rw [HFR.out] at this
        exact this
      · rintro L A W K hL hC hW ⟨V, rfl, HV, s0⟩ hK
        have e6 : V 6 = .slice (some ⟨b2, o2, none⟩) m.length c2 := HV 6 _ rfl (hW 6 rfl)
        have e7 : V 7 = .int .i64 k := HV 7 _ rfl (hW 7 rfl)
        have H := Lib.hid (show ∀ W', Ext W W' → K (fr (upd V 8 (.pointer (some ⟨b2, o2 + k * 11, none⟩)))) W' from fun W' he => hK _ _ ⟨upd V 8 (.pointer (some ⟨b2, o2 + k * 11, none⟩)), rfl, HV.up 8 _ (fun x hx => Option.some.inj hx), Ext.trans s0 he⟩)
        have HU := Lib.hid (show (upd V 8 (.pointer (some ⟨b2, o2 + k * 11, none⟩))) 6 = .slice (some ⟨b2, o2, none⟩) m.length c2 ∧ (upd V 8 (.pointer (some ⟨b2, o2 + k * 11, none⟩))) 7 = .int .i64 k from ⟨e6, e7⟩)
        clear hK hC hW hL HV s0
        rw [HFR.out]
        rw [e6, e7]
        clear e6 e7
        go_wp2_with fail
        show K _ _
        have := H.out _ (Ext.refl _)
        rw [HFR.out] at this
        obtain ⟨u6, u7⟩ := HU.out
        rw [u6, u7] at this
        exact this
      · rintro L A W K hL hC hW ⟨V, rfl, HV, s0⟩ hK
        have e8 : V 8 = .pointer (some ⟨b2, o2 + k * 11, none⟩) := HV 8 _ rfl (hW 8 rfl)
        have hB := s0
        have H := Lib.hid (show ∀ W', Ext W W' → K (fr (upd V 9 (.agg (hdc q)))) W' from fun W' he => hK _ _ ⟨upd V 9 (.agg (hdc q)), rfl, HV.up 9 _ (fun x hx => Option.some.inj hx), Ext.trans s0 he⟩)
        have HU := Lib.hid (show (upd V 9 (.agg (hdc q))) 8 = .pointer (some ⟨b2, o2 + k * 11, none⟩) from e8)
        clear hK hC hW hL HV s0
        rw [HFR.out]
        rw [e8]
        clear e8
        have HWW := Lib.hid (fun (j : Nat) (x : Value) (hx : (hdc q).toList[j]? = some x) => hB.cell (HR2.out j x hx))
        clear hB
        refine wpList_load_hd rfl (.tmp 28) rfl b2 (o2 + k * 11) q rfl HWW.out ?_
        show K _ _
        have := H.out _ (Ext.refl _)
        rw [HFR.out] at this
        obtain u8 := HU.out
        rw [u8] at this
        exact this
      · rintro L A W K hL hC hW ⟨V, rfl, HV, s0⟩ hK
        have e4 : V 4 = .agg (hdc p) := HV 4 _ rfl (hW 4 rfl)
        have e9 : V 9 = .agg (hdc q) := HV 9 _ rfl (hW 9 rfl)
        have hB := s0
        have H := Lib.hid (show ∀ W', Ext W W' → K (fr (upd V 10 (.bool (!p.eqB q)))) W' from fun W' he => hK _ _ ⟨upd V 10 (.bool (!p.eqB q)), rfl, HV.up 10 _ (fun x hx => Option.some.inj hx), Ext.trans s0 he⟩)
        have HU := Lib.hid (show (upd V 10 (.bool (!p.eqB q))) 4 = .agg (hdc p) ∧ (upd V 10 (.bool (!p.eqB q))) 9 = .agg (hdc q) from ⟨e4, e9⟩)
        clear hK hC hW hL HV s0
        rw [HFR.out]
        rw [e4, e9]
        clear e4 e9
        clear hB
        refine wpList_neq_hd rfl (.tmp 24) (.tmp 29) rfl p q HPP.out HPQ.out rfl rfl ?_
        show K _ _
        have := H.out _ (Ext.refl _)
        rw [HFR.out] at this
        obtain ⟨u4, u9⟩ := HU.out
        rw [u4, u9] at this
        exact this
      · rintro L A W hL ⟨V, rfl, HV, s0⟩
        have e0 : V 0 = .pointer (some ⟨gA, 0, none⟩) := HV 0 _ rfl (hL 0 (by simp))
        have e1 : V 1 = .slice (some ⟨bb, oo, none⟩) l.length c1 := HV 1 _ rfl (hL 1 (by simp))
        have e2 : V 2 = .int .i64 k := HV 2 _ rfl (hL 2 (by simp))
        have e3 : V 3 = .pointer (some ⟨bb, oo + k * 11, none⟩) := HV 3 _ rfl (hL 3 (by simp))
        have e4 : V 4 = .agg (hdc p) := HV 4 _ rfl (hL 4 (by simp))
        have e5 : V 5 = .pointer (some ⟨gB, 0, none⟩) := HV 5 _ rfl (hL 5 (by simp))
        have e6 : V 6 = .slice (some ⟨b2, o2, none⟩) m.length c2 := HV 6 _ rfl (hL 6 (by simp))
        have e7 : V 7 = .int .i64 k := HV 7 _ rfl (hL 7 (by simp))
        have e8 : V 8 = .pointer (some ⟨b2, o2 + k * 11, none⟩) := HV 8 _ rfl (hL 8 (by simp))
        have e9 : V 9 = .agg (hdc q) := HV 9 _ rfl (hL 9 (by simp))
        have e10 : V 10 = .bool (!p.eqB q) := HV 10 _ rfl (hL 10 (by simp))
        have hA := s0
        rw [HFR.out]
        rw [e0, e1, e2, e3, e4, e5, e6, e7, e8, e9, e10]
        clear hL HV HFR e0 e1 e2 e3 e4 e5 e6 e7 e8 e9 e10 s0
        have HA4 := Lib.hid hA
        clear hA
        cases hq : p.eqB q with
        | true =>
          have HPN := Lib.hid (HNX.out hq)
          clear hq
          go_wp2_with fail
          exact ⟨⟨k + 1, by omega, by go_num, Lib.hid ⟨HPN.out, HJ.out.2.trans HA4.out⟩⟩, by simp [intOf]; omega⟩
        | false =>
          have HF := Lib.hid (HNO.out hq)
          clear hq
          go_wp2_with fail
          go_ret
          exact ⟨by rw [HF.out]; rfl, HE1.out.trans HA4.out⟩
    · obtain rfl : k = l.length := by omega
      have hd : decide (l.length < l.length) = false := decide_eq_false (by omega)
      have hd2 : decide ((l.length : Int) < (l.length : Int)) = false := decide_eq_false (by omega)
      have HF := Lib.hid (sameG_all HL.out (fun i hi => HJ.out.1 i hi))
      go_wp2_with fail
      go_ret
      exact ⟨by rw [HF.out]; rfl, HE1.out⟩
end Go.Proofs.Ytepggbhibpjkpaa
