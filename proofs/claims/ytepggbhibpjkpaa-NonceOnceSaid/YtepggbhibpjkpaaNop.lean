/- The document's answers of layer 8: before, Right, Next, Of. -/
import Derived.Test.YtepggbhibpjkpaaNon
import Derived.Test.YtepggbhibpjkpaaRcd
namespace Go.Proofs.Ytepggbhibpjkpaa
open Go.ChangeShapes Go.WideShapes Go.ChangeAt Go.RowKit Go.Shelf

set_option maxRecDepth 100000 in
set_option maxHeartbeats 4000000 in
theorem refBefore_any (p q : Nn) (w : World) (hp : p.key < M256) (hq : q.key < M256) : Calls Try.prog 47 #[.agg (nnc p), .agg (nnc q)] w fun e w' => e = .returned (.bool (decide (p.cod < q.cod))) ∧ Ext w w' := by
  have HP := Lib.hid hp
  have HQ := Lib.hid hq
  have HC := Lib.hid (show p.cod < q.cod ↔ _ from cdN_lt (a := p.addr) (b := q.addr) hp hq)
  clear hp hq
  obtain ⟨w1, hw1⟩ : ∃ w1, (w.alloc (.cells (nnc p) 38)).alloc (.cells (nnc q) 38) = w1 := ⟨_, rfl⟩
  have HW1 := Lib.hid hw1
  have KP : Hid (Nb6 w1 w.heap.size p) := Lib.hid (by rw [← hw1]; exact Cs.alloc (Cs.new _ _ _ _ rfl) _)
  have KQ : Hid (Nb6 w1 (w.heap.size + 1) q) := Lib.hid (by rw [← hw1]; exact Cs.new _ _ _ _ (by simp))
  have HE : Hid (Ext w w1) := Lib.hid (by rw [← hw1]; exact ((Ext.refl w).alloc _).alloc _)
  clear hw1
  have c0 := KP.out.addr
  have c1 := KQ.out.addr
  have HKP := Lib.hid KP.out.key
  have HKQ := Lib.hid KQ.out.key
  clear KP KQ
  generalize p.cod = cp at *
  generalize q.cod = cq at *
  obtain ⟨csp, hcsp⟩ : ∃ cs, nnc p = cs := ⟨_, rfl⟩
  obtain ⟨csq, hcsq⟩ : ∃ cs, nnc q = cs := ⟨_, rfl⟩
  rw [hcsp, hcsq] at HW1
  rw [hcsp, hcsq]
  clear hcsp hcsq
  go_enter Try.func47, Try.ntmps47
  go_upto_region 1 with fail
  rw [HW1.out]
  clear HW1
  by_cases h1 : p.addr < q.addr
  · have f1 : decide ((p.addr : Int) < (q.addr : Int)) = true := decide_eq_true (by omega)
    have f2 : decide (p.addr < q.addr) = true := decide_eq_true h1
    have HV : Hid (decide (cp < cq) = true) := Lib.hid (decide_eq_true (HC.out.2 (.inl h1)))
    clear h1
    go_wp2_with fail
    go_ret
    exact ⟨by rw [HV.out]; rfl, HE.out⟩
  · have f1 : decide ((p.addr : Int) < (q.addr : Int)) = false := decide_eq_false (by omega)
    have f2 : decide (p.addr < q.addr) = false := decide_eq_false h1
    by_cases h2 : p.addr = q.addr
    · have f3 : ((p.addr : Int) == (q.addr : Int)) = true := by rw [beq_iff_eq]; omega
      have HV := Lib.hid (show cp < cq ↔ p.key < q.key from ⟨fun h => by rcases HC.out.1 h with h | h; exact absurd h h1; exact h.2, fun h => HC.out.2 (.inr ⟨h2, h⟩)⟩)
      clear h1 h2 HC
      go_wp2_with (first
        | ((with_reducible refine wpList_load_wordIn ?_ (.tmp 17) ?_ w.heap.size 1 (p.key) ?_ ?_ ?_); (exact rfl); (exact rfl); (exact rfl); (exact HKP.out))
        | ((with_reducible refine wpList_load_wordIn ?_ (.tmp 19) ?_ (w.heap.size + 1) 1 (q.key) ?_ ?_ ?_); (exact rfl); (exact rfl); (exact rfl); (exact HKQ.out)))
      refine (refCmp_any p.key q.key _ HP.out HQ.out).mono ?_
      rintro e w2 ⟨rfl, he⟩
      have HE2 := Lib.hid (HE.out.trans he)
      clear he
      have HL : Hid (decide (cmpN p.key q.key < 0) = decide (cp < cq)) := Lib.hid (by
        unfold cmpN
        by_cases hx : p.key < q.key
        · rw [if_pos hx, decide_eq_true (HV.out.2 hx)]; rfl
        · rw [if_neg hx, decide_eq_false (fun h => hx (HV.out.1 h))]; split <;> rfl)
      clear HV
      generalize cmpN p.key q.key = z at *
      cases hz : decide (z < 0) with
      | true =>
        have HLV := Lib.hid (HL.out.symm.trans hz)
        go_wp2_with fail
        go_ret
        exact ⟨by rw [HLV.out]; rfl, HE2.out⟩
      | false =>
        have HLV := Lib.hid (HL.out.symm.trans hz)
        go_wp2_with fail
        go_ret
        exact ⟨by rw [HLV.out]; rfl, HE2.out⟩
    · have f3 : ((p.addr : Int) == (q.addr : Int)) = false := by rw [beq_eq_false_iff_ne]; omega
      have HV : Hid (decide (cp < cq) = false) := Lib.hid (decide_eq_false (fun h => by rcases HC.out.1 h with h | h; exact h1 h; exact h2 h.1))
      clear h1 h2
      go_wp2_with fail
      go_ret
      exact ⟨by rw [HV.out]; rfl, HE.out⟩
set_option maxRecDepth 100000 in
set_option maxHeartbeats 4000000 in
theorem refRight_any (v : Value) (l : List Nn) (w : World) (hs : Nns w v l) : Calls Try.prog 15 #[v] w fun e w' => e = .returned (.bool (rightN l)) ∧ Ext w w' := by
  have HS := Lib.hid hs
  obtain ⟨A1, c, rfl, h1, h2⟩ := hs.len
  unfold maxLen at h2
  clear hs
  go_enter Try.func15, Try.ntmps15
  go_wp2_with fail
  go_loopw [7] (fun iv wr => ∃ k : Nat, k ≤ l.length ∧ iv = .int .i64 k ∧ Hid ((∀ i, i < k → rgN l i = true) ∧ Ext w wr)) (fun iv _ => l.length - (intOf iv).toNat)
  case atStart => exact ⟨0, by omega, rfl, Lib.hid ⟨fun i hi => absurd hi (by omega), Ext.refl _⟩⟩
  case round =>
    obtain ⟨k, hk, rfl, HJ0⟩ := hrel
    by_cases hlt : k < l.length
    · have hd : decide (k < l.length) = true := decide_eq_true hlt
      have hd2 : decide ((k : Int) < (l.length : Int)) = true := decide_eq_true (by omega)
      obtain ⟨bb, oo, rfl, hrg, hp⟩ := (HS.out.ext HJ0.out.2).at k hlt
      have HR := Lib.hid hrg
      have HPK := Lib.hid hp.2.1
      have HRG := Lib.hid (show rgN l k = ((l.getD k nz0).mayB && (k == 0 || decide ((l.getD (k - 1) nz0).cod < (l.getD k nz0).cod))) from rfl)
      have HQQ : Hid (∀ j, k = j + 1 → wr.rangeAt bb (oo + j * 6) (nnc (l.getD j nz0)).toList ∧ (l.getD j nz0).key < M256) := Lib.hid (fun j hj => by
        obtain ⟨b', o', e, hr', hp'⟩ := (HS.out.ext HJ0.out.2).at j (by omega)
        cases e
        exact ⟨hr', hp'.2.1⟩)
      clear hrg hp
      have HX := Lib.hid HJ0.out.2
      have HIB := Lib.hid HJ0.out.1
      clear HJ0
      obtain ⟨p, hp⟩ : ∃ p, l.getD k nz0 = p := ⟨_, rfl⟩
      rw [hp] at HR HPK HRG
      clear hp
      go_upto_region 4 with (first
        | ((with_reducible refine wpList_load_nn ?_ (.tmp 10) ?_ bb (oo + k * 6) p ?_ ?_ ?_); (exact rfl); (exact rfl); (exact rfl); (exact HR.out))
        | ((with_reducible refine wpList_store_nn ?_ ?_ (.tmp 4) (.tmp 11) ?_ wr.heap.size nz0 p ?_ ?_ ?_ ?_); (exact rfl); (exact rfl); (exact rfl); (exact rfl); (exact rfl); (exact (Cs.new _ _ _ _ rfl)); intro wb kb gb; have KB := Lib.hid kb; have GB := Lib.hid gb; clear kb gb))
      have HXB := Lib.hid (((Ext.refl wr).alloc _).grown GB.out (Nat.le_refl _))
      have HJ : Hid (NcJ wb wr.heap.size p wb) := Lib.hid ⟨KB.out, Ext.refl _⟩
      have HXW := Lib.hid (HX.out.trans HXB.out)
      clear GB KB
      obtain ⟨g4, hg4⟩ : ∃ g, wr.heap.size = g := ⟨_, rfl⟩
      rw [hg4] at HJ ⊢
      clear hg4
      have HMB : Hid (p.mayB = (p.addr != 0 && (keyB p.key && decide (0 < p.nxt)))) := Lib.hid rfl
      have HNO := Lib.hid (fun h : p.mayB = false => rightN_row k hlt (by rw [HRG.out, h]; rfl))
      by_cases ha : p.addr = 0
      · have hf : ((p.addr : Int) == 0) = true := by rw [beq_iff_eq]; omega
        have HF := Lib.hid (HNO.out (by rw [HMB.out, ha]; rfl))
        clear ha
        refine wp_named fun a0 ha0 => ?_
        obtain ⟨fr, hfr⟩ : ∃ fr : (Nat → Value) → Act, ∀ V, fr V = ((((((((((((((((((((((((((((a0.put (some 12) (V 0)).put (some 13) (V 1)).put (some 14) (V 2)).put (some 15) (V 3)).put (some 16) (V 4)).put (some 17) (V 5)).put (some 18) (V 6)).put (some 19) (V 7)).put (some 20) (V 8)).put (some 21) (V 9)).put (some 22) (V 10)).put (some 23) (V 11)).put (some 24) (V 12)).put (some 25) (V 13)).put (some 26) (V 14)).put (some 27) (V 15)).put (some 28) (V 16)).put (some 29) (V 17)).put (some 30) (V 18)).put (some 31) (V 19)).put (some 32) (V 20)).put (some 33) (V 21)).put (some 34) (V 22)).put (some 35) (V 23)).put (some 36) (V 24)).put (some 37) (V 25)).put (some 38) (V 26)).put (some 39) (V 27)) := ⟨fun V => ((((((((((((((((((((((((((((a0.put (some 12) (V 0)).put (some 13) (V 1)).put (some 14) (V 2)).put (some 15) (V 3)).put (some 16) (V 4)).put (some 17) (V 5)).put (some 18) (V 6)).put (some 19) (V 7)).put (some 20) (V 8)).put (some 21) (V 9)).put (some 22) (V 10)).put (some 23) (V 11)).put (some 24) (V 12)).put (some 25) (V 13)).put (some 26) (V 14)).put (some 27) (V 15)).put (some 28) (V 16)).put (some 29) (V 17)).put (some 30) (V 18)).put (some 31) (V 19)).put (some 32) (V 20)).put (some 33) (V 21)).put (some 34) (V 22)).put (some 35) (V 23)).put (some 36) (V 24)).put (some 37) (V 25)).put (some 38) (V 26)).put (some 39) (V 27)), fun _ => rfl⟩
        rw [ha0] at hfr
        simp only [Act.put, List.setIfInBounds_toArray, List.set_cons_zero, List.set_cons_succ] at hfr
        have HFR := Lib.hid hfr
        clear hfr
        refine wp_region_inv (by kernel_rfl) (by kernel_rfl) (fun L A W => ∃ V : Nat → Value, A = fr V ∧ Vals (fun j => ([some (.pointer (some ⟨g4, 0, none⟩)), some (.int .u64 (p.addr : Nat)), some (.bool true), some (.bool true), some (undef), some (undef), some (undef), some (undef), some (.bool true), some (.bool true), some (undef), some (undef), some (undef), some (.bool true), some (.bool true), some (undef), some (undef), some (undef), some (undef), some (undef), some (undef), some (undef), some (undef), some (undef), some (undef), some (undef), some (undef), some (.bool true)] : List (Option Value)).getD j none) L V ∧ (NcJ wb g4 p W)) ?_ ⟨?_, ?_, ?_, ?_, ?_, ?_, ?_, ?_, ?_, ?_, ?_, ?_, ?_, ?_, ?_, ?_, ?_, ?_, ?_, ?_, ?_, ?_, ?_, ?_, ?_, ?_, ?_, ?_, trivial⟩ ?_
        · refine ⟨fun j => a0.tmps.getD (([12, 13, 14, 15, 16, 17, 18, 19, 20, 21, 22, 23, 24, 25, 26, 27, 28, 29, 30, 31, 32, 33, 34, 35, 36, 37, 38, 39] : List Nat).getD j 0) undef, ?_, Vals.no _ _ _ (far_none _ _ rfl), HJ.out.ext ((Ext.refl _).drew)⟩
          rw [HFR.out, ha0]
          rfl
        all_goals clear ha0
        · rintro L A W K hL hC hW ⟨V, rfl, HV, s0⟩ hK
          have H := Lib.hid (show ∀ W', Ext W W' → K (fr (upd V 0 (.pointer (some ⟨g4, 0, none⟩)))) W' from fun W' he => hK _ _ ⟨upd V 0 (.pointer (some ⟨g4, 0, none⟩)), rfl, HV.up 0 _ (fun x hx => Option.some.inj hx), NcJ.ext s0 he⟩)
          clear hK hC hW hL HV s0
          rw [HFR.out]
          go_wp2_with fail
          show K _ _
          have := H.out _ (Ext.refl _)
          rw [HFR.out] at this
          exact this
        · rintro L A W K hL hC hW ⟨V, rfl, HV, s0⟩ hK
          have e0 : V 0 = .pointer (some ⟨g4, 0, none⟩) := HV 0 _ rfl (hW 0 rfl)
          have hB := s0
          have H := Lib.hid (show ∀ W', Ext W W' → K (fr (upd V 1 (.int .u64 (p.addr : Nat)))) W' from fun W' he => hK _ _ ⟨upd V 1 (.int .u64 (p.addr : Nat)), rfl, HV.up 1 _ (fun x hx => Option.some.inj hx), NcJ.ext s0 he⟩)
          have HU := Lib.hid (show (upd V 1 (.int .u64 (p.addr : Nat))) 0 = .pointer (some ⟨g4, 0, none⟩) from e0)
          clear hK hC hW hL HV s0
          rw [HFR.out]
          rw [e0]
          clear e0
          have qq := hB.1.addr
          clear hB
          go_wp2_with fail
          show K _ _
          have := H.out _ (Ext.refl _)
          rw [HFR.out] at this
          obtain u0 := HU.out
          rw [u0] at this
          exact this
        · rintro L A W K hL hC hW ⟨V, rfl, HV, s0⟩ hK
          have e1 : V 1 = .int .u64 (p.addr : Nat) := HV 1 _ rfl (hW 1 rfl)
          have H := Lib.hid (show ∀ W', Ext W W' → K (fr (upd V 2 (.bool true))) W' from fun W' he => hK _ _ ⟨upd V 2 (.bool true), rfl, HV.up 2 _ (fun x hx => Option.some.inj hx), NcJ.ext s0 he⟩)
          have HU := Lib.hid (show (upd V 2 (.bool true)) 1 = .int .u64 (p.addr : Nat) from e1)
          clear hK hC hW hL HV s0
          rw [HFR.out]
          rw [e1]
          clear e1
          go_wp2_with fail
          show K _ _
          have := H.out _ (Ext.refl _)
          rw [HFR.out] at this
          obtain u1 := HU.out
          rw [u1] at this
          exact this
        · rintro L A W K hL hC hW ⟨V, rfl, HV, s0⟩ hK
          have e2 : V 2 = .bool true := HV 2 _ rfl (hW 2 rfl)
          have H := Lib.hid (show ∀ W', Ext W W' → K (fr (upd V 3 (.bool true))) W' from fun W' he => hK _ _ ⟨upd V 3 (.bool true), rfl, HV.up 3 _ (fun x hx => Option.some.inj hx), NcJ.ext s0 he⟩)
          have HU := Lib.hid (show (upd V 3 (.bool true)) 2 = .bool true from e2)
          clear hK hC hW hL HV s0
          rw [HFR.out]
          rw [e2]
          clear e2
          go_wp2_with fail
          show K _ _
          have := H.out _ (Ext.refl _)
          rw [HFR.out] at this
          obtain u2 := HU.out
          rw [u2] at this
          exact this
        · rintro L A W K hL hC hW ⟨V, rfl, HV, s0⟩ hK
          have e3 : V 3 = .bool true := HV 3 _ rfl (hW 3 rfl)
          have H := Lib.hid (show ∀ W', Ext W W' → K (fr (upd V 4 (undef))) W' from fun W' he => hK _ _ ⟨upd V 4 (undef), rfl, HV.up 4 _ (fun x hx => Option.some.inj hx), NcJ.ext s0 he⟩)
          have HU := Lib.hid (show (upd V 4 (undef)) 3 = .bool true from e3)
          clear hK hC hW hL HV s0
          rw [HFR.out]
          rw [e3]
          clear e3
          go_wp2_with fail
          show K _ _
          have := H.out _ (Ext.refl _)
          rw [HFR.out] at this
          obtain u3 := HU.out
          rw [u3] at this
          exact this
        · rintro L A W K hL hC hW ⟨V, rfl, HV, s0⟩ hK
          have e3 : V 3 = .bool true := HV 3 _ rfl (hW 3 rfl)
          have e4 : V 4 = undef := HV 4 _ rfl (hW 4 rfl)
          have H := Lib.hid (show ∀ W', Ext W W' → K (fr (upd V 5 (undef))) W' from fun W' he => hK _ _ ⟨upd V 5 (undef), rfl, HV.up 5 _ (fun x hx => Option.some.inj hx), NcJ.ext s0 he⟩)
          have HU := Lib.hid (show (upd V 5 (undef)) 3 = .bool true ∧ (upd V 5 (undef)) 4 = undef from ⟨e3, e4⟩)
          clear hK hC hW hL HV s0
          rw [HFR.out]
          rw [e3, e4]
          clear e3 e4
          go_wp2_with fail
          show K _ _
          have := H.out _ (Ext.refl _)
          rw [HFR.out] at this
          obtain ⟨u3, u4⟩ := HU.out
          rw [u3, u4] at this
          exact this
        · rintro L A W K hL hC hW ⟨V, rfl, HV, s0⟩ hK
          have e3 : V 3 = .bool true := HV 3 _ rfl (hW 3 rfl)
          have e5 : V 5 = undef := HV 5 _ rfl (hW 5 rfl)
          have H := Lib.hid (show ∀ W', Ext W W' → K (fr (upd V 6 (undef))) W' from fun W' he => hK _ _ ⟨upd V 6 (undef), rfl, HV.up 6 _ (fun x hx => Option.some.inj hx), NcJ.ext s0 he⟩)
          have HU := Lib.hid (show (upd V 6 (undef)) 3 = .bool true ∧ (upd V 6 (undef)) 5 = undef from ⟨e3, e5⟩)
          clear hK hC hW hL HV s0
          rw [HFR.out]
          rw [e3, e5]
          clear e3 e5
          go_wp2_with fail
          show K _ _
          have := H.out _ (Ext.refl _)
          rw [HFR.out] at this
          obtain ⟨u3, u5⟩ := HU.out
          rw [u3, u5] at this
          exact this
        · rintro L A W K hL hC hW ⟨V, rfl, HV, s0⟩ hK
          have e3 : V 3 = .bool true := HV 3 _ rfl (hW 3 rfl)
          have e6 : V 6 = undef := HV 6 _ rfl (hW 6 rfl)
          have H := Lib.hid (show ∀ W', Ext W W' → K (fr (upd V 7 (undef))) W' from fun W' he => hK _ _ ⟨upd V 7 (undef), rfl, HV.up 7 _ (fun x hx => Option.some.inj hx), NcJ.ext s0 he⟩)
          have HU := Lib.hid (show (upd V 7 (undef)) 3 = .bool true ∧ (upd V 7 (undef)) 6 = undef from ⟨e3, e6⟩)
          clear hK hC hW hL HV s0
          rw [HFR.out]
          rw [e3, e6]
          clear e3 e6
          go_wp2_with fail
          show K _ _
          have := H.out _ (Ext.refl _)
          rw [HFR.out] at this
          obtain ⟨u3, u6⟩ := HU.out
          rw [u3, u6] at this
          exact this
        · rintro L A W K hL hC hW ⟨V, rfl, HV, s0⟩ hK
          have e3 : V 3 = .bool true := HV 3 _ rfl (hW 3 rfl)
          have e7 : V 7 = undef := HV 7 _ rfl (hW 7 rfl)
          have H := Lib.hid (show ∀ W', Ext W W' → K (fr (upd V 8 (.bool true))) W' from fun W' he => hK _ _ ⟨upd V 8 (.bool true), rfl, HV.up 8 _ (fun x hx => Option.some.inj hx), NcJ.ext s0 he⟩)
          have HU := Lib.hid (show (upd V 8 (.bool true)) 3 = .bool true ∧ (upd V 8 (.bool true)) 7 = undef from ⟨e3, e7⟩)
          clear hK hC hW hL HV s0
          rw [HFR.out]
          rw [e3, e7]
          clear e3 e7
          go_wp2_with fail
          show K _ _
          have := H.out _ (Ext.refl _)
          rw [HFR.out] at this
          obtain ⟨u3, u7⟩ := HU.out
          rw [u3, u7] at this
          exact this
        · rintro L A W K hL hC hW ⟨V, rfl, HV, s0⟩ hK
          have e8 : V 8 = .bool true := HV 8 _ rfl (hW 8 rfl)
          have H := Lib.hid (show ∀ W', Ext W W' → K (fr (upd V 9 (.bool true))) W' from fun W' he => hK _ _ ⟨upd V 9 (.bool true), rfl, HV.up 9 _ (fun x hx => Option.some.inj hx), NcJ.ext s0 he⟩)
          have HU := Lib.hid (show (upd V 9 (.bool true)) 8 = .bool true from e8)
          clear hK hC hW hL HV s0
          rw [HFR.out]
          rw [e8]
          clear e8
          go_wp2_with fail
          show K _ _
          have := H.out _ (Ext.refl _)
          rw [HFR.out] at this
          obtain u8 := HU.out
          rw [u8] at this
          exact this
        · rintro L A W K hL hC hW ⟨V, rfl, HV, s0⟩ hK
          have e9 : V 9 = .bool true := HV 9 _ rfl (hW 9 rfl)
          have H := Lib.hid (show ∀ W', Ext W W' → K (fr (upd V 10 (undef))) W' from fun W' he => hK _ _ ⟨upd V 10 (undef), rfl, HV.up 10 _ (fun x hx => Option.some.inj hx), NcJ.ext s0 he⟩)
          have HU := Lib.hid (show (upd V 10 (undef)) 9 = .bool true from e9)
          clear hK hC hW hL HV s0
          rw [HFR.out]
          rw [e9]
          clear e9
          go_wp2_with fail
          show K _ _
          have := H.out _ (Ext.refl _)
          rw [HFR.out] at this
          obtain u9 := HU.out
          rw [u9] at this
          exact this
        · rintro L A W K hL hC hW ⟨V, rfl, HV, s0⟩ hK
          have e9 : V 9 = .bool true := HV 9 _ rfl (hW 9 rfl)
          have e10 : V 10 = undef := HV 10 _ rfl (hW 10 rfl)
          have H := Lib.hid (show ∀ W', Ext W W' → K (fr (upd V 11 (undef))) W' from fun W' he => hK _ _ ⟨upd V 11 (undef), rfl, HV.up 11 _ (fun x hx => Option.some.inj hx), NcJ.ext s0 he⟩)
          have HU := Lib.hid (show (upd V 11 (undef)) 9 = .bool true ∧ (upd V 11 (undef)) 10 = undef from ⟨e9, e10⟩)
          clear hK hC hW hL HV s0
          rw [HFR.out]
          rw [e9, e10]
          clear e9 e10
          go_wp2_with fail
          show K _ _
          have := H.out _ (Ext.refl _)
          rw [HFR.out] at this
          obtain ⟨u9, u10⟩ := HU.out
          rw [u9, u10] at this
          exact this
        · rintro L A W K hL hC hW ⟨V, rfl, HV, s0⟩ hK
          have e9 : V 9 = .bool true := HV 9 _ rfl (hW 9 rfl)
          have e11 : V 11 = undef := HV 11 _ rfl (hW 11 rfl)
          have H := Lib.hid (show ∀ W', Ext W W' → K (fr (upd V 12 (undef))) W' from fun W' he => hK _ _ ⟨upd V 12 (undef), rfl, HV.up 12 _ (fun x hx => Option.some.inj hx), NcJ.ext s0 he⟩)
          have HU := Lib.hid (show (upd V 12 (undef)) 9 = .bool true ∧ (upd V 12 (undef)) 11 = undef from ⟨e9, e11⟩)
          clear hK hC hW hL HV s0
          rw [HFR.out]
          rw [e9, e11]
          clear e9 e11
          go_wp2_with fail
          show K _ _
          have := H.out _ (Ext.refl _)
          rw [HFR.out] at this
          obtain ⟨u9, u11⟩ := HU.out
          rw [u9, u11] at this
          exact this
        · rintro L A W K hL hC hW ⟨V, rfl, HV, s0⟩ hK
          have e9 : V 9 = .bool true := HV 9 _ rfl (hW 9 rfl)
          have e12 : V 12 = undef := HV 12 _ rfl (hW 12 rfl)
          have H := Lib.hid (show ∀ W', Ext W W' → K (fr (upd V 13 (.bool true))) W' from fun W' he => hK _ _ ⟨upd V 13 (.bool true), rfl, HV.up 13 _ (fun x hx => Option.some.inj hx), NcJ.ext s0 he⟩)
          have HU := Lib.hid (show (upd V 13 (.bool true)) 9 = .bool true ∧ (upd V 13 (.bool true)) 12 = undef from ⟨e9, e12⟩)
          clear hK hC hW hL HV s0
          rw [HFR.out]
          rw [e9, e12]
          clear e9 e12
          go_wp2_with fail
          show K _ _
          have := H.out _ (Ext.refl _)
          rw [HFR.out] at this
          obtain ⟨u9, u12⟩ := HU.out
          rw [u9, u12] at this
          exact this
        · rintro L A W K hL hC hW ⟨V, rfl, HV, s0⟩ hK
          have e13 : V 13 = .bool true := HV 13 _ rfl (hW 13 rfl)
          have H := Lib.hid (show ∀ W', Ext W W' → K (fr (upd V 14 (.bool true))) W' from fun W' he => hK _ _ ⟨upd V 14 (.bool true), rfl, HV.up 14 _ (fun x hx => Option.some.inj hx), NcJ.ext s0 he⟩)
          have HU := Lib.hid (show (upd V 14 (.bool true)) 13 = .bool true from e13)
          clear hK hC hW hL HV s0
          rw [HFR.out]
          rw [e13]
          clear e13
          go_wp2_with fail
          show K _ _
          have := H.out _ (Ext.refl _)
          rw [HFR.out] at this
          obtain u13 := HU.out
          rw [u13] at this
          exact this
        · rintro L A W K hL hC hW ⟨V, rfl, HV, s0⟩ hK
          have e14 : V 14 = .bool true := HV 14 _ rfl (hW 14 rfl)
          have H := Lib.hid (show ∀ W', Ext W W' → K (fr (upd V 15 (undef))) W' from fun W' he => hK _ _ ⟨upd V 15 (undef), rfl, HV.up 15 _ (fun x hx => Option.some.inj hx), NcJ.ext s0 he⟩)
          have HU := Lib.hid (show (upd V 15 (undef)) 14 = .bool true from e14)
          clear hK hC hW hL HV s0
          rw [HFR.out]
          rw [e14]
          clear e14
          go_wp2_with fail
          show K _ _
          have := H.out _ (Ext.refl _)
          rw [HFR.out] at this
          obtain u14 := HU.out
          rw [u14] at this
          exact this
        · rintro L A W K hL hC hW ⟨V, rfl, HV, s0⟩ hK
          have e14 : V 14 = .bool true := HV 14 _ rfl (hW 14 rfl)
          have e15 : V 15 = undef := HV 15 _ rfl (hW 15 rfl)
          have H := Lib.hid (show ∀ W', Ext W W' → K (fr (upd V 16 (undef))) W' from fun W' he => hK _ _ ⟨upd V 16 (undef), rfl, HV.up 16 _ (fun x hx => Option.some.inj hx), NcJ.ext s0 he⟩)
          have HU := Lib.hid (show (upd V 16 (undef)) 14 = .bool true ∧ (upd V 16 (undef)) 15 = undef from ⟨e14, e15⟩)
          clear hK hC hW hL HV s0
          rw [HFR.out]
          rw [e14, e15]
          clear e14 e15
          go_wp2_with fail
          show K _ _
          have := H.out _ (Ext.refl _)
          rw [HFR.out] at this
          obtain ⟨u14, u15⟩ := HU.out
          rw [u14, u15] at this
          exact this
        · rintro L A W K hL hC hW ⟨V, rfl, HV, s0⟩ hK
          have e14 : V 14 = .bool true := HV 14 _ rfl (hW 14 rfl)
          have e16 : V 16 = undef := HV 16 _ rfl (hW 16 rfl)
          have H := Lib.hid (show ∀ W', Ext W W' → K (fr (upd V 17 (undef))) W' from fun W' he => hK _ _ ⟨upd V 17 (undef), rfl, HV.up 17 _ (fun x hx => Option.some.inj hx), NcJ.ext s0 he⟩)
          have HU := Lib.hid (show (upd V 17 (undef)) 14 = .bool true ∧ (upd V 17 (undef)) 16 = undef from ⟨e14, e16⟩)
          clear hK hC hW hL HV s0
          rw [HFR.out]
          rw [e14, e16]
          clear e14 e16
          go_wp2_with fail
          show K _ _
          have := H.out _ (Ext.refl _)
          rw [HFR.out] at this
          obtain ⟨u14, u16⟩ := HU.out
          rw [u14, u16] at this
          exact this
        · rintro L A W K hL hC hW ⟨V, rfl, HV, s0⟩ hK
          have e17 : V 17 = undef := HV 17 _ rfl (hW 17 rfl)
          have H := Lib.hid (show ∀ W', Ext W W' → K (fr (upd V 18 (undef))) W' from fun W' he => hK _ _ ⟨upd V 18 (undef), rfl, HV.up 18 _ (fun x hx => Option.some.inj hx), NcJ.ext s0 he⟩)
          have HU := Lib.hid (show (upd V 18 (undef)) 17 = undef from e17)
          clear hK hC hW hL HV s0
          rw [HFR.out]
          rw [e17]
          clear e17
          go_wp2_with fail
          show K _ _
          have := H.out _ (Ext.refl _)
          rw [HFR.out] at this
          obtain u17 := HU.out
          rw [u17] at this
          exact this
        · rintro L A W K hL hC hW ⟨V, rfl, HV, s0⟩ hK
          have e17 : V 17 = undef := HV 17 _ rfl (hW 17 rfl)
          have H := Lib.hid (show ∀ W', Ext W W' → K (fr (upd V 19 (undef))) W' from fun W' he => hK _ _ ⟨upd V 19 (undef), rfl, HV.up 19 _ (fun x hx => Option.some.inj hx), NcJ.ext s0 he⟩)
          have HU := Lib.hid (show (upd V 19 (undef)) 17 = undef from e17)
          clear hK hC hW hL HV s0
          rw [HFR.out]
          rw [e17]
          clear e17
          go_wp2_with fail
          show K _ _
          have := H.out _ (Ext.refl _)
          rw [HFR.out] at this
          obtain u17 := HU.out
          rw [u17] at this
          exact this
        · rintro L A W K hL hC hW ⟨V, rfl, HV, s0⟩ hK
          have e17 : V 17 = undef := HV 17 _ rfl (hW 17 rfl)
          have e19 : V 19 = undef := HV 19 _ rfl (hW 19 rfl)
          have H := Lib.hid (show ∀ W', Ext W W' → K (fr (upd V 20 (undef))) W' from fun W' he => hK _ _ ⟨upd V 20 (undef), rfl, HV.up 20 _ (fun x hx => Option.some.inj hx), NcJ.ext s0 he⟩)
          have HU := Lib.hid (show (upd V 20 (undef)) 17 = undef ∧ (upd V 20 (undef)) 19 = undef from ⟨e17, e19⟩)
          clear hK hC hW hL HV s0
          rw [HFR.out]
          rw [e17, e19]
          clear e17 e19
          go_wp2_with fail
          show K _ _
          have := H.out _ (Ext.refl _)
          rw [HFR.out] at this
          obtain ⟨u17, u19⟩ := HU.out
          rw [u17, u19] at this
          exact this
        · rintro L A W K hL hC hW ⟨V, rfl, HV, s0⟩ hK
          have e17 : V 17 = undef := HV 17 _ rfl (hW 17 rfl)
          have e18 : V 18 = undef := HV 18 _ rfl (hW 18 rfl)
          have e20 : V 20 = undef := HV 20 _ rfl (hW 20 rfl)
          have H := Lib.hid (show ∀ W', Ext W W' → K (fr (upd V 21 (undef))) W' from fun W' he => hK _ _ ⟨upd V 21 (undef), rfl, HV.up 21 _ (fun x hx => Option.some.inj hx), NcJ.ext s0 he⟩)
          have HU := Lib.hid (show (upd V 21 (undef)) 17 = undef ∧ (upd V 21 (undef)) 18 = undef ∧ (upd V 21 (undef)) 20 = undef from ⟨e17, e18, e20⟩)
          clear hK hC hW hL HV s0
          rw [HFR.out]
          rw [e17, e18, e20]
          clear e17 e18 e20
          go_wp2_with fail
          show K _ _
          have := H.out _ (Ext.refl _)
          rw [HFR.out] at this
          obtain ⟨u17, u18, u20⟩ := HU.out
          rw [u17, u18, u20] at this
          exact this
        · rintro L A W K hL hC hW ⟨V, rfl, HV, s0⟩ hK
          have e17 : V 17 = undef := HV 17 _ rfl (hW 17 rfl)
          have e21 : V 21 = undef := HV 21 _ rfl (hW 21 rfl)
          have H := Lib.hid (show ∀ W', Ext W W' → K (fr (upd V 22 (undef))) W' from fun W' he => hK _ _ ⟨upd V 22 (undef), rfl, HV.up 22 _ (fun x hx => Option.some.inj hx), NcJ.ext s0 he⟩)
          have HU := Lib.hid (show (upd V 22 (undef)) 17 = undef ∧ (upd V 22 (undef)) 21 = undef from ⟨e17, e21⟩)
          clear hK hC hW hL HV s0
          rw [HFR.out]
          rw [e17, e21]
          clear e17 e21
          go_wp2_with fail
          show K _ _
          have := H.out _ (Ext.refl _)
          rw [HFR.out] at this
          obtain ⟨u17, u21⟩ := HU.out
          rw [u17, u21] at this
          exact this
        · rintro L A W K hL hC hW ⟨V, rfl, HV, s0⟩ hK
          have e17 : V 17 = undef := HV 17 _ rfl (hW 17 rfl)
          have H := Lib.hid (show ∀ W', Ext W W' → K (fr (upd V 23 (undef))) W' from fun W' he => hK _ _ ⟨upd V 23 (undef), rfl, HV.up 23 _ (fun x hx => Option.some.inj hx), NcJ.ext s0 he⟩)
          have HU := Lib.hid (show (upd V 23 (undef)) 17 = undef from e17)
          clear hK hC hW hL HV s0
          rw [HFR.out]
          rw [e17]
          clear e17
          go_wp2_with fail
          show K _ _
          have := H.out _ (Ext.refl _)
          rw [HFR.out] at this
          obtain u17 := HU.out
          rw [u17] at this
          exact this
        · rintro L A W K hL hC hW ⟨V, rfl, HV, s0⟩ hK
          have e17 : V 17 = undef := HV 17 _ rfl (hW 17 rfl)
          have e22 : V 22 = undef := HV 22 _ rfl (hW 22 rfl)
          have e23 : V 23 = undef := HV 23 _ rfl (hW 23 rfl)
          have H := Lib.hid (show ∀ W', Ext W W' → K (fr (upd V 24 (undef))) W' from fun W' he => hK _ _ ⟨upd V 24 (undef), rfl, HV.up 24 _ (fun x hx => Option.some.inj hx), NcJ.ext s0 he⟩)
          have HU := Lib.hid (show (upd V 24 (undef)) 17 = undef ∧ (upd V 24 (undef)) 22 = undef ∧ (upd V 24 (undef)) 23 = undef from ⟨e17, e22, e23⟩)
          clear hK hC hW hL HV s0
          rw [HFR.out]
          rw [e17, e22, e23]
          clear e17 e22 e23
          go_wp2_with fail
          show K _ _
          have := H.out _ (Ext.refl _)
          rw [HFR.out] at this
          obtain ⟨u17, u22, u23⟩ := HU.out
          rw [u17, u22, u23] at this
          exact this
        · rintro L A W K hL hC hW ⟨V, rfl, HV, s0⟩ hK
          have e17 : V 17 = undef := HV 17 _ rfl (hW 17 rfl)
          have e24 : V 24 = undef := HV 24 _ rfl (hW 24 rfl)
          have H := Lib.hid (show ∀ W', Ext W W' → K (fr (upd V 25 (undef))) W' from fun W' he => hK _ _ ⟨upd V 25 (undef), rfl, HV.up 25 _ (fun x hx => Option.some.inj hx), NcJ.ext s0 he⟩)
          have HU := Lib.hid (show (upd V 25 (undef)) 17 = undef ∧ (upd V 25 (undef)) 24 = undef from ⟨e17, e24⟩)
          clear hK hC hW hL HV s0
          rw [HFR.out]
          rw [e17, e24]
          clear e17 e24
          go_wp2_with fail
          show K _ _
          have := H.out _ (Ext.refl _)
          rw [HFR.out] at this
          obtain ⟨u17, u24⟩ := HU.out
          rw [u17, u24] at this
          exact this
        · rintro L A W K hL hC hW ⟨V, rfl, HV, s0⟩ hK
          have e14 : V 14 = .bool true := HV 14 _ rfl (hW 14 rfl)
          have e17 : V 17 = undef := HV 17 _ rfl (hW 17 rfl)
          have e25 : V 25 = undef := HV 25 _ rfl (hW 25 rfl)
          have H := Lib.hid (show ∀ W', Ext W W' → K (fr (upd V 26 (undef))) W' from fun W' he => hK _ _ ⟨upd V 26 (undef), rfl, HV.up 26 _ (fun x hx => Option.some.inj hx), NcJ.ext s0 he⟩)
          have HU := Lib.hid (show (upd V 26 (undef)) 14 = .bool true ∧ (upd V 26 (undef)) 17 = undef ∧ (upd V 26 (undef)) 25 = undef from ⟨e14, e17, e25⟩)
          clear hK hC hW hL HV s0
          rw [HFR.out]
          rw [e14, e17, e25]
          clear e14 e17 e25
          go_wp2_with fail
          show K _ _
          have := H.out _ (Ext.refl _)
          rw [HFR.out] at this
          obtain ⟨u14, u17, u25⟩ := HU.out
          rw [u14, u17, u25] at this
          exact this
        · rintro L A W K hL hC hW ⟨V, rfl, HV, s0⟩ hK
          have e14 : V 14 = .bool true := HV 14 _ rfl (hW 14 rfl)
          have e26 : V 26 = undef := HV 26 _ rfl (hW 26 rfl)
          have H := Lib.hid (show ∀ W', Ext W W' → K (fr (upd V 27 (.bool true))) W' from fun W' he => hK _ _ ⟨upd V 27 (.bool true), rfl, HV.up 27 _ (fun x hx => Option.some.inj hx), NcJ.ext s0 he⟩)
          have HU := Lib.hid (show (upd V 27 (.bool true)) 14 = .bool true ∧ (upd V 27 (.bool true)) 26 = undef from ⟨e14, e26⟩)
          clear hK hC hW hL HV s0
          rw [HFR.out]
          rw [e14, e26]
          clear e14 e26
          go_wp2_with fail
          show K _ _
          have := H.out _ (Ext.refl _)
          rw [HFR.out] at this
          obtain ⟨u14, u26⟩ := HU.out
          rw [u14, u26] at this
          exact this
        · rintro L A W hL ⟨V, rfl, HV, s0⟩
          have e0 : V 0 = .pointer (some ⟨g4, 0, none⟩) := HV 0 _ rfl (hL 0 (by simp))
          have e1 : V 1 = .int .u64 (p.addr : Nat) := HV 1 _ rfl (hL 1 (by simp))
          have e2 : V 2 = .bool true := HV 2 _ rfl (hL 2 (by simp))
          have e3 : V 3 = .bool true := HV 3 _ rfl (hL 3 (by simp))
          have e4 : V 4 = undef := HV 4 _ rfl (hL 4 (by simp))
          have e5 : V 5 = undef := HV 5 _ rfl (hL 5 (by simp))
          have e6 : V 6 = undef := HV 6 _ rfl (hL 6 (by simp))
          have e7 : V 7 = undef := HV 7 _ rfl (hL 7 (by simp))
          have e8 : V 8 = .bool true := HV 8 _ rfl (hL 8 (by simp))
          have e9 : V 9 = .bool true := HV 9 _ rfl (hL 9 (by simp))
          have e10 : V 10 = undef := HV 10 _ rfl (hL 10 (by simp))
          have e11 : V 11 = undef := HV 11 _ rfl (hL 11 (by simp))
          have e12 : V 12 = undef := HV 12 _ rfl (hL 12 (by simp))
          have e13 : V 13 = .bool true := HV 13 _ rfl (hL 13 (by simp))
          have e14 : V 14 = .bool true := HV 14 _ rfl (hL 14 (by simp))
          have e15 : V 15 = undef := HV 15 _ rfl (hL 15 (by simp))
          have e16 : V 16 = undef := HV 16 _ rfl (hL 16 (by simp))
          have e17 : V 17 = undef := HV 17 _ rfl (hL 17 (by simp))
          have e18 : V 18 = undef := HV 18 _ rfl (hL 18 (by simp))
          have e19 : V 19 = undef := HV 19 _ rfl (hL 19 (by simp))
          have e20 : V 20 = undef := HV 20 _ rfl (hL 20 (by simp))
          have e21 : V 21 = undef := HV 21 _ rfl (hL 21 (by simp))
          have e22 : V 22 = undef := HV 22 _ rfl (hL 22 (by simp))
          have e23 : V 23 = undef := HV 23 _ rfl (hL 23 (by simp))
          have e24 : V 24 = undef := HV 24 _ rfl (hL 24 (by simp))
          have e25 : V 25 = undef := HV 25 _ rfl (hL 25 (by simp))
          have e26 : V 26 = undef := HV 26 _ rfl (hL 26 (by simp))
          have e27 : V 27 = .bool true := HV 27 _ rfl (hL 27 (by simp))
          have hA := s0
          rw [HFR.out]
          rw [e0, e1, e2, e3, e4, e5, e6, e7, e8, e9, e10, e11, e12, e13, e14, e15, e16, e17, e18, e19, e20, e21, e22, e23, e24, e25, e26, e27]
          clear hL HV HFR e0 e1 e2 e3 e4 e5 e6 e7 e8 e9 e10 e11 e12 e13 e14 e15 e16 e17 e18 e19 e20 e21 e22 e23 e24 e25 e26 e27 s0
          go_wp2_with fail
          refine bodyPost_ret (results_tmp rfl _ _ _) rfl ?_
          exact ⟨by rw [HF.out]; rfl, HXW.out.trans hA.2⟩
      · have hf : ((p.addr : Int) == 0) = false := by rw [beq_eq_false_iff_ne]; omega
        have HA := Lib.hid (show (p.addr != 0) = true by simpa using ha)
        clear ha
        cases hkb : keyB p.key with
        | false =>
          have HKB := Lib.hid hkb
          have HF := Lib.hid (HNO.out (by rw [HMB.out, HA.out, hkb]; rfl))
          clear hkb
          refine wp_named fun a0 ha0 => ?_
          obtain ⟨fr, hfr⟩ : ∃ fr : (Nat → Value) → Act, ∀ V, fr V = ((((((((((((((((((((((((((((a0.put (some 12) (V 0)).put (some 13) (V 1)).put (some 14) (V 2)).put (some 15) (V 3)).put (some 16) (V 4)).put (some 17) (V 5)).put (some 18) (V 6)).put (some 19) (V 7)).put (some 20) (V 8)).put (some 21) (V 9)).put (some 22) (V 10)).put (some 23) (V 11)).put (some 24) (V 12)).put (some 25) (V 13)).put (some 26) (V 14)).put (some 27) (V 15)).put (some 28) (V 16)).put (some 29) (V 17)).put (some 30) (V 18)).put (some 31) (V 19)).put (some 32) (V 20)).put (some 33) (V 21)).put (some 34) (V 22)).put (some 35) (V 23)).put (some 36) (V 24)).put (some 37) (V 25)).put (some 38) (V 26)).put (some 39) (V 27)) := ⟨fun V => ((((((((((((((((((((((((((((a0.put (some 12) (V 0)).put (some 13) (V 1)).put (some 14) (V 2)).put (some 15) (V 3)).put (some 16) (V 4)).put (some 17) (V 5)).put (some 18) (V 6)).put (some 19) (V 7)).put (some 20) (V 8)).put (some 21) (V 9)).put (some 22) (V 10)).put (some 23) (V 11)).put (some 24) (V 12)).put (some 25) (V 13)).put (some 26) (V 14)).put (some 27) (V 15)).put (some 28) (V 16)).put (some 29) (V 17)).put (some 30) (V 18)).put (some 31) (V 19)).put (some 32) (V 20)).put (some 33) (V 21)).put (some 34) (V 22)).put (some 35) (V 23)).put (some 36) (V 24)).put (some 37) (V 25)).put (some 38) (V 26)).put (some 39) (V 27)), fun _ => rfl⟩
          rw [ha0] at hfr
          simp only [Act.put, List.setIfInBounds_toArray, List.set_cons_zero, List.set_cons_succ] at hfr
          have HFR := Lib.hid hfr
          clear hfr
          refine wp_region_inv (by kernel_rfl) (by kernel_rfl) (fun L A W => ∃ V : Nat → Value, A = fr V ∧ Vals (fun j => ([some (.pointer (some ⟨g4, 0, none⟩)), some (.int .u64 (p.addr : Nat)), some (.bool false), some (.bool false), some (.pointer (some ⟨g4, 1, none⟩)), some (wv p.key), some (.bool false), some (.bool true), some (.bool true), some (.bool true), some (undef), some (undef), some (undef), some (.bool true), some (.bool true), some (undef), some (undef), some (undef), some (undef), some (undef), some (undef), some (undef), some (undef), some (undef), some (undef), some (undef), some (undef), some (.bool true)] : List (Option Value)).getD j none) L V ∧ (NcJ wb g4 p W)) ?_ ⟨?_, ?_, ?_, ?_, ?_, ?_, ?_, ?_, ?_, ?_, ?_, ?_, ?_, ?_, ?_, ?_, ?_, ?_, ?_, ?_, ?_, ?_, ?_, ?_, ?_, ?_, ?_, ?_, trivial⟩ ?_
          · refine ⟨fun j => a0.tmps.getD (([12, 13, 14, 15, 16, 17, 18, 19, 20, 21, 22, 23, 24, 25, 26, 27, 28, 29, 30, 31, 32, 33, 34, 35, 36, 37, 38, 39] : List Nat).getD j 0) undef, ?_, Vals.no _ _ _ (far_none _ _ rfl), HJ.out.ext ((Ext.refl _).drew)⟩
            rw [HFR.out, ha0]
            rfl
          all_goals clear ha0
          · rintro L A W K hL hC hW ⟨V, rfl, HV, s0⟩ hK
            have H := Lib.hid (show ∀ W', Ext W W' → K (fr (upd V 0 (.pointer (some ⟨g4, 0, none⟩)))) W' from fun W' he => hK _ _ ⟨upd V 0 (.pointer (some ⟨g4, 0, none⟩)), rfl, HV.up 0 _ (fun x hx => Option.some.inj hx), NcJ.ext s0 he⟩)
            clear hK hC hW hL HV s0
            rw [HFR.out]
            go_wp2_with fail
            show K _ _
            have := H.out _ (Ext.refl _)
            rw [HFR.out] at this
            exact this
          · rintro L A W K hL hC hW ⟨V, rfl, HV, s0⟩ hK
            have e0 : V 0 = .pointer (some ⟨g4, 0, none⟩) := HV 0 _ rfl (hW 0 rfl)
            have hB := s0
            have H := Lib.hid (show ∀ W', Ext W W' → K (fr (upd V 1 (.int .u64 (p.addr : Nat)))) W' from fun W' he => hK _ _ ⟨upd V 1 (.int .u64 (p.addr : Nat)), rfl, HV.up 1 _ (fun x hx => Option.some.inj hx), NcJ.ext s0 he⟩)
            have HU := Lib.hid (show (upd V 1 (.int .u64 (p.addr : Nat))) 0 = .pointer (some ⟨g4, 0, none⟩) from e0)
            clear hK hC hW hL HV s0
            rw [HFR.out]
            rw [e0]
            clear e0
            have qq := hB.1.addr
            clear hB
            go_wp2_with fail
            show K _ _
            have := H.out _ (Ext.refl _)
            rw [HFR.out] at this
            obtain u0 := HU.out
            rw [u0] at this
            exact this
          · rintro L A W K hL hC hW ⟨V, rfl, HV, s0⟩ hK
            have e1 : V 1 = .int .u64 (p.addr : Nat) := HV 1 _ rfl (hW 1 rfl)
            have H := Lib.hid (show ∀ W', Ext W W' → K (fr (upd V 2 (.bool false))) W' from fun W' he => hK _ _ ⟨upd V 2 (.bool false), rfl, HV.up 2 _ (fun x hx => Option.some.inj hx), NcJ.ext s0 he⟩)
            have HU := Lib.hid (show (upd V 2 (.bool false)) 1 = .int .u64 (p.addr : Nat) from e1)
            clear hK hC hW hL HV s0
            rw [HFR.out]
            rw [e1]
            clear e1
            go_wp2_with fail
            show K _ _
            have := H.out _ (Ext.refl _)
            rw [HFR.out] at this
            obtain u1 := HU.out
            rw [u1] at this
            exact this
          · rintro L A W K hL hC hW ⟨V, rfl, HV, s0⟩ hK
            have e2 : V 2 = .bool false := HV 2 _ rfl (hW 2 rfl)
            have H := Lib.hid (show ∀ W', Ext W W' → K (fr (upd V 3 (.bool false))) W' from fun W' he => hK _ _ ⟨upd V 3 (.bool false), rfl, HV.up 3 _ (fun x hx => Option.some.inj hx), NcJ.ext s0 he⟩)
            have HU := Lib.hid (show (upd V 3 (.bool false)) 2 = .bool false from e2)
            clear hK hC hW hL HV s0
            rw [HFR.out]
            rw [e2]
            clear e2
            go_wp2_with fail
            show K _ _
            have := H.out _ (Ext.refl _)
            rw [HFR.out] at this
            obtain u2 := HU.out
            rw [u2] at this
            exact this
          · rintro L A W K hL hC hW ⟨V, rfl, HV, s0⟩ hK
            have e3 : V 3 = .bool false := HV 3 _ rfl (hW 3 rfl)
            have H := Lib.hid (show ∀ W', Ext W W' → K (fr (upd V 4 (.pointer (some ⟨g4, 1, none⟩)))) W' from fun W' he => hK _ _ ⟨upd V 4 (.pointer (some ⟨g4, 1, none⟩)), rfl, HV.up 4 _ (fun x hx => Option.some.inj hx), NcJ.ext s0 he⟩)
            have HU := Lib.hid (show (upd V 4 (.pointer (some ⟨g4, 1, none⟩))) 3 = .bool false from e3)
            clear hK hC hW hL HV s0
            rw [HFR.out]
            rw [e3]
            clear e3
            go_wp2_with fail
            show K _ _
            have := H.out _ (Ext.refl _)
            rw [HFR.out] at this
            obtain u3 := HU.out
            rw [u3] at this
            exact this
          · rintro L A W K hL hC hW ⟨V, rfl, HV, s0⟩ hK
            have e3 : V 3 = .bool false := HV 3 _ rfl (hW 3 rfl)
            have e4 : V 4 = .pointer (some ⟨g4, 1, none⟩) := HV 4 _ rfl (hW 4 rfl)
            have hB := s0
            have H := Lib.hid (show ∀ W', Ext W W' → K (fr (upd V 5 (wv p.key))) W' from fun W' he => hK _ _ ⟨upd V 5 (wv p.key), rfl, HV.up 5 _ (fun x hx => Option.some.inj hx), NcJ.ext s0 he⟩)
            have HU := Lib.hid (show (upd V 5 (wv p.key)) 3 = .bool false ∧ (upd V 5 (wv p.key)) 4 = .pointer (some ⟨g4, 1, none⟩) from ⟨e3, e4⟩)
            clear hK hC hW hL HV s0
            rw [HFR.out]
            rw [e3, e4]
            clear e3 e4
            have HWW := Lib.hid hB.1.key
            clear hB
            refine wpList_load_wordIn rfl (.tmp 16) rfl g4 1 p.key rfl HWW.out ?_
            show K _ _
            have := H.out _ (Ext.refl _)
            rw [HFR.out] at this
            obtain ⟨u3, u4⟩ := HU.out
            rw [u3, u4] at this
            exact this
          · rintro L A W K hL hC hW ⟨V, rfl, HV, s0⟩ hK
            have e3 : V 3 = .bool false := HV 3 _ rfl (hW 3 rfl)
            have e5 : V 5 = wv p.key := HV 5 _ rfl (hW 5 rfl)
            have hB := s0
            have H := Lib.hid (show ∀ W', Ext W W' → K (fr (upd V 6 (.bool false))) W' from fun W' he => hK _ _ ⟨upd V 6 (.bool false), rfl, HV.up 6 _ (fun x hx => Option.some.inj hx), NcJ.ext s0 he⟩)
            have HU := Lib.hid (show (upd V 6 (.bool false)) 3 = .bool false ∧ (upd V 6 (.bool false)) 5 = wv p.key from ⟨e3, e5⟩)
            clear hK hC hW hL HV s0
            rw [HFR.out]
            rw [e3, e5]
            clear e3 e5
            clear hB
            go_wp2_with fail
            refine ((refKey_any p.key _).mono (fun _ _ h => show _ = Ending.returned (.bool false) ∧ _ from by rw [← HKB.out]; exact h)).mono ?_
            rintro e wx ⟨rfl, he⟩
            have := H.out _ he
            clear H
            go_wp2_with fail
            show K _ _
            rw [HFR.out] at this
            obtain ⟨u3, u5⟩ := HU.out
            rw [u3, u5] at this
            exact this
          · rintro L A W K hL hC hW ⟨V, rfl, HV, s0⟩ hK
            have e3 : V 3 = .bool false := HV 3 _ rfl (hW 3 rfl)
            have e6 : V 6 = .bool false := HV 6 _ rfl (hW 6 rfl)
            have H := Lib.hid (show ∀ W', Ext W W' → K (fr (upd V 7 (.bool true))) W' from fun W' he => hK _ _ ⟨upd V 7 (.bool true), rfl, HV.up 7 _ (fun x hx => Option.some.inj hx), NcJ.ext s0 he⟩)
            have HU := Lib.hid (show (upd V 7 (.bool true)) 3 = .bool false ∧ (upd V 7 (.bool true)) 6 = .bool false from ⟨e3, e6⟩)
            clear hK hC hW hL HV s0
            rw [HFR.out]
            rw [e3, e6]
            clear e3 e6
            go_wp2_with fail
            show K _ _
            have := H.out _ (Ext.refl _)
            rw [HFR.out] at this
            obtain ⟨u3, u6⟩ := HU.out
            rw [u3, u6] at this
            exact this
          · rintro L A W K hL hC hW ⟨V, rfl, HV, s0⟩ hK
            have e3 : V 3 = .bool false := HV 3 _ rfl (hW 3 rfl)
            have e7 : V 7 = .bool true := HV 7 _ rfl (hW 7 rfl)
            have H := Lib.hid (show ∀ W', Ext W W' → K (fr (upd V 8 (.bool true))) W' from fun W' he => hK _ _ ⟨upd V 8 (.bool true), rfl, HV.up 8 _ (fun x hx => Option.some.inj hx), NcJ.ext s0 he⟩)
            have HU := Lib.hid (show (upd V 8 (.bool true)) 3 = .bool false ∧ (upd V 8 (.bool true)) 7 = .bool true from ⟨e3, e7⟩)
            clear hK hC hW hL HV s0
            rw [HFR.out]
            rw [e3, e7]
            clear e3 e7
            go_wp2_with fail
            show K _ _
            have := H.out _ (Ext.refl _)
            rw [HFR.out] at this
            obtain ⟨u3, u7⟩ := HU.out
            rw [u3, u7] at this
            exact this
          · rintro L A W K hL hC hW ⟨V, rfl, HV, s0⟩ hK
            have e8 : V 8 = .bool true := HV 8 _ rfl (hW 8 rfl)
            have H := Lib.hid (show ∀ W', Ext W W' → K (fr (upd V 9 (.bool true))) W' from fun W' he => hK _ _ ⟨upd V 9 (.bool true), rfl, HV.up 9 _ (fun x hx => Option.some.inj hx), NcJ.ext s0 he⟩)
            have HU := Lib.hid (show (upd V 9 (.bool true)) 8 = .bool true from e8)
            clear hK hC hW hL HV s0
            rw [HFR.out]
            rw [e8]
            clear e8
            go_wp2_with fail
            show K _ _
            have := H.out _ (Ext.refl _)
            rw [HFR.out] at this
            obtain u8 := HU.out
            rw [u8] at this
            exact this
          · rintro L A W K hL hC hW ⟨V, rfl, HV, s0⟩ hK
            have e9 : V 9 = .bool true := HV 9 _ rfl (hW 9 rfl)
            have H := Lib.hid (show ∀ W', Ext W W' → K (fr (upd V 10 (undef))) W' from fun W' he => hK _ _ ⟨upd V 10 (undef), rfl, HV.up 10 _ (fun x hx => Option.some.inj hx), NcJ.ext s0 he⟩)
            have HU := Lib.hid (show (upd V 10 (undef)) 9 = .bool true from e9)
            clear hK hC hW hL HV s0
            rw [HFR.out]
            rw [e9]
            clear e9
            go_wp2_with fail
            show K _ _
            have := H.out _ (Ext.refl _)
            rw [HFR.out] at this
            obtain u9 := HU.out
            rw [u9] at this
            exact this
          · rintro L A W K hL hC hW ⟨V, rfl, HV, s0⟩ hK
            have e9 : V 9 = .bool true := HV 9 _ rfl (hW 9 rfl)
            have e10 : V 10 = undef := HV 10 _ rfl (hW 10 rfl)
            have H := Lib.hid (show ∀ W', Ext W W' → K (fr (upd V 11 (undef))) W' from fun W' he => hK _ _ ⟨upd V 11 (undef), rfl, HV.up 11 _ (fun x hx => Option.some.inj hx), NcJ.ext s0 he⟩)
            have HU := Lib.hid (show (upd V 11 (undef)) 9 = .bool true ∧ (upd V 11 (undef)) 10 = undef from ⟨e9, e10⟩)
            clear hK hC hW hL HV s0
            rw [HFR.out]
            rw [e9, e10]
            clear e9 e10
            go_wp2_with fail
            show K _ _
            have := H.out _ (Ext.refl _)
            rw [HFR.out] at this
            obtain ⟨u9, u10⟩ := HU.out
            rw [u9, u10] at this
            exact this
          · rintro L A W K hL hC hW ⟨V, rfl, HV, s0⟩ hK
            have e9 : V 9 = .bool true := HV 9 _ rfl (hW 9 rfl)
            have e11 : V 11 = undef := HV 11 _ rfl (hW 11 rfl)
            have H := Lib.hid (show ∀ W', Ext W W' → K (fr (upd V 12 (undef))) W' from fun W' he => hK _ _ ⟨upd V 12 (undef), rfl, HV.up 12 _ (fun x hx => Option.some.inj hx), NcJ.ext s0 he⟩)
            have HU := Lib.hid (show (upd V 12 (undef)) 9 = .bool true ∧ (upd V 12 (undef)) 11 = undef from ⟨e9, e11⟩)
            clear hK hC hW hL HV s0
            rw [HFR.out]
            rw [e9, e11]
            clear e9 e11
            go_wp2_with fail
            show K _ _
            have := H.out _ (Ext.refl _)
            rw [HFR.out] at this
            obtain ⟨u9, u11⟩ := HU.out
            rw [u9, u11] at this
            exact this
          · rintro L A W K hL hC hW ⟨V, rfl, HV, s0⟩ hK
            have e9 : V 9 = .bool true := HV 9 _ rfl (hW 9 rfl)
            have e12 : V 12 = undef := HV 12 _ rfl (hW 12 rfl)
            have H := Lib.hid (show ∀ W', Ext W W' → K (fr (upd V 13 (.bool true))) W' from fun W' he => hK _ _ ⟨upd V 13 (.bool true), rfl, HV.up 13 _ (fun x hx => Option.some.inj hx), NcJ.ext s0 he⟩)
            have HU := Lib.hid (show (upd V 13 (.bool true)) 9 = .bool true ∧ (upd V 13 (.bool true)) 12 = undef from ⟨e9, e12⟩)
            clear hK hC hW hL HV s0
            rw [HFR.out]
            rw [e9, e12]
            clear e9 e12
            go_wp2_with fail
            show K _ _
            have := H.out _ (Ext.refl _)
            rw [HFR.out] at this
            obtain ⟨u9, u12⟩ := HU.out
            rw [u9, u12] at this
            exact this
          · rintro L A W K hL hC hW ⟨V, rfl, HV, s0⟩ hK
            have e13 : V 13 = .bool true := HV 13 _ rfl (hW 13 rfl)
            have H := Lib.hid (show ∀ W', Ext W W' → K (fr (upd V 14 (.bool true))) W' from fun W' he => hK _ _ ⟨upd V 14 (.bool true), rfl, HV.up 14 _ (fun x hx => Option.some.inj hx), NcJ.ext s0 he⟩)
            have HU := Lib.hid (show (upd V 14 (.bool true)) 13 = .bool true from e13)
            clear hK hC hW hL HV s0
            rw [HFR.out]
            rw [e13]
            clear e13
            go_wp2_with fail
            show K _ _
            have := H.out _ (Ext.refl _)
            rw [HFR.out] at this
            obtain u13 := HU.out
            rw [u13] at this
            exact this
          · rintro L A W K hL hC hW ⟨V, rfl, HV, s0⟩ hK
            have e14 : V 14 = .bool true := HV 14 _ rfl (hW 14 rfl)
            have H := Lib.hid (show ∀ W', Ext W W' → K (fr (upd V 15 (undef))) W' from fun W' he => hK _ _ ⟨upd V 15 (undef), rfl, HV.up 15 _ (fun x hx => Option.some.inj hx), NcJ.ext s0 he⟩)
            have HU := Lib.hid (show (upd V 15 (undef)) 14 = .bool true from e14)
            clear hK hC hW hL HV s0
            rw [HFR.out]
            rw [e14]
            clear e14
            go_wp2_with fail
            show K _ _
            have := H.out _ (Ext.refl _)
            rw [HFR.out] at this
            obtain u14 := HU.out
            rw [u14] at this
            exact this
          · rintro L A W K hL hC hW ⟨V, rfl, HV, s0⟩ hK
            have e14 : V 14 = .bool true := HV 14 _ rfl (hW 14 rfl)
            have e15 : V 15 = undef := HV 15 _ rfl (hW 15 rfl)
            have H := Lib.hid (show ∀ W', Ext W W' → K (fr (upd V 16 (undef))) W' from fun W' he => hK _ _ ⟨upd V 16 (undef), rfl, HV.up 16 _ (fun x hx => Option.some.inj hx), NcJ.ext s0 he⟩)
            have HU := Lib.hid (show (upd V 16 (undef)) 14 = .bool true ∧ (upd V 16 (undef)) 15 = undef from ⟨e14, e15⟩)
            clear hK hC hW hL HV s0
            rw [HFR.out]
            rw [e14, e15]
            clear e14 e15
            go_wp2_with fail
            show K _ _
            have := H.out _ (Ext.refl _)
            rw [HFR.out] at this
            obtain ⟨u14, u15⟩ := HU.out
            rw [u14, u15] at this
            exact this
          · rintro L A W K hL hC hW ⟨V, rfl, HV, s0⟩ hK
            have e14 : V 14 = .bool true := HV 14 _ rfl (hW 14 rfl)
            have e16 : V 16 = undef := HV 16 _ rfl (hW 16 rfl)
            have H := Lib.hid (show ∀ W', Ext W W' → K (fr (upd V 17 (undef))) W' from fun W' he => hK _ _ ⟨upd V 17 (undef), rfl, HV.up 17 _ (fun x hx => Option.some.inj hx), NcJ.ext s0 he⟩)
            have HU := Lib.hid (show (upd V 17 (undef)) 14 = .bool true ∧ (upd V 17 (undef)) 16 = undef from ⟨e14, e16⟩)
            clear hK hC hW hL HV s0
            rw [HFR.out]
            rw [e14, e16]
            clear e14 e16
            go_wp2_with fail
            show K _ _
            have := H.out _ (Ext.refl _)
            rw [HFR.out] at this
            obtain ⟨u14, u16⟩ := HU.out
            rw [u14, u16] at this
            exact this
          · rintro L A W K hL hC hW ⟨V, rfl, HV, s0⟩ hK
            have e17 : V 17 = undef := HV 17 _ rfl (hW 17 rfl)
            have H := Lib.hid (show ∀ W', Ext W W' → K (fr (upd V 18 (undef))) W' from fun W' he => hK _ _ ⟨upd V 18 (undef), rfl, HV.up 18 _ (fun x hx => Option.some.inj hx), NcJ.ext s0 he⟩)
            have HU := Lib.hid (show (upd V 18 (undef)) 17 = undef from e17)
            clear hK hC hW hL HV s0
            rw [HFR.out]
            rw [e17]
            clear e17
            go_wp2_with fail
            show K _ _
            have := H.out _ (Ext.refl _)
            rw [HFR.out] at this
            obtain u17 := HU.out
            rw [u17] at this
            exact this
          · rintro L A W K hL hC hW ⟨V, rfl, HV, s0⟩ hK
            have e17 : V 17 = undef := HV 17 _ rfl (hW 17 rfl)
            have H := Lib.hid (show ∀ W', Ext W W' → K (fr (upd V 19 (undef))) W' from fun W' he => hK _ _ ⟨upd V 19 (undef), rfl, HV.up 19 _ (fun x hx => Option.some.inj hx), NcJ.ext s0 he⟩)
            have HU := Lib.hid (show (upd V 19 (undef)) 17 = undef from e17)
            clear hK hC hW hL HV s0
            rw [HFR.out]
            rw [e17]
            clear e17
            go_wp2_with fail
            show K _ _
            have := H.out _ (Ext.refl _)
            rw [HFR.out] at this
            obtain u17 := HU.out
            rw [u17] at this
            exact this
          · rintro L A W K hL hC hW ⟨V, rfl, HV, s0⟩ hK
            have e17 : V 17 = undef := HV 17 _ rfl (hW 17 rfl)
            have e19 : V 19 = undef := HV 19 _ rfl (hW 19 rfl)
            have H := Lib.hid (show ∀ W', Ext W W' → K (fr (upd V 20 (undef))) W' from fun W' he => hK _ _ ⟨upd V 20 (undef), rfl, HV.up 20 _ (fun x hx => Option.some.inj hx), NcJ.ext s0 he⟩)
            have HU := Lib.hid (show (upd V 20 (undef)) 17 = undef ∧ (upd V 20 (undef)) 19 = undef from ⟨e17, e19⟩)
            clear hK hC hW hL HV s0
            rw [HFR.out]
            rw [e17, e19]
            clear e17 e19
            go_wp2_with fail
            show K _ _
            have := H.out _ (Ext.refl _)
            rw [HFR.out] at this
            obtain ⟨u17, u19⟩ := HU.out
            rw [u17, u19] at this
            exact this
          · rintro L A W K hL hC hW ⟨V, rfl, HV, s0⟩ hK
            have e17 : V 17 = undef := HV 17 _ rfl (hW 17 rfl)
            have e18 : V 18 = undef := HV 18 _ rfl (hW 18 rfl)
            have e20 : V 20 = undef := HV 20 _ rfl (hW 20 rfl)
            have H := Lib.hid (show ∀ W', Ext W W' → K (fr (upd V 21 (undef))) W' from fun W' he => hK _ _ ⟨upd V 21 (undef), rfl, HV.up 21 _ (fun x hx => Option.some.inj hx), NcJ.ext s0 he⟩)
            have HU := Lib.hid (show (upd V 21 (undef)) 17 = undef ∧ (upd V 21 (undef)) 18 = undef ∧ (upd V 21 (undef)) 20 = undef from ⟨e17, e18, e20⟩)
            clear hK hC hW hL HV s0
            rw [HFR.out]
            rw [e17, e18, e20]
            clear e17 e18 e20
            go_wp2_with fail
            show K _ _
            have := H.out _ (Ext.refl _)
            rw [HFR.out] at this
            obtain ⟨u17, u18, u20⟩ := HU.out
            rw [u17, u18, u20] at this
            exact this
          · rintro L A W K hL hC hW ⟨V, rfl, HV, s0⟩ hK
            have e17 : V 17 = undef := HV 17 _ rfl (hW 17 rfl)
            have e21 : V 21 = undef := HV 21 _ rfl (hW 21 rfl)
            have H := Lib.hid (show ∀ W', Ext W W' → K (fr (upd V 22 (undef))) W' from fun W' he => hK _ _ ⟨upd V 22 (undef), rfl, HV.up 22 _ (fun x hx => Option.some.inj hx), NcJ.ext s0 he⟩)
            have HU := Lib.hid (show (upd V 22 (undef)) 17 = undef ∧ (upd V 22 (undef)) 21 = undef from ⟨e17, e21⟩)
            clear hK hC hW hL HV s0
            rw [HFR.out]
            rw [e17, e21]
            clear e17 e21
            go_wp2_with fail
            show K _ _
            have := H.out _ (Ext.refl _)
            rw [HFR.out] at this
            obtain ⟨u17, u21⟩ := HU.out
            rw [u17, u21] at this
            exact this
          · rintro L A W K hL hC hW ⟨V, rfl, HV, s0⟩ hK
            have e17 : V 17 = undef := HV 17 _ rfl (hW 17 rfl)
            have H := Lib.hid (show ∀ W', Ext W W' → K (fr (upd V 23 (undef))) W' from fun W' he => hK _ _ ⟨upd V 23 (undef), rfl, HV.up 23 _ (fun x hx => Option.some.inj hx), NcJ.ext s0 he⟩)
            have HU := Lib.hid (show (upd V 23 (undef)) 17 = undef from e17)
            clear hK hC hW hL HV s0
            rw [HFR.out]
            rw [e17]
            clear e17
            go_wp2_with fail
            show K _ _
            have := H.out _ (Ext.refl _)
            rw [HFR.out] at this
            obtain u17 := HU.out
            rw [u17] at this
            exact this
          · rintro L A W K hL hC hW ⟨V, rfl, HV, s0⟩ hK
            have e17 : V 17 = undef := HV 17 _ rfl (hW 17 rfl)
            have e22 : V 22 = undef := HV 22 _ rfl (hW 22 rfl)
            have e23 : V 23 = undef := HV 23 _ rfl (hW 23 rfl)
            have H := Lib.hid (show ∀ W', Ext W W' → K (fr (upd V 24 (undef))) W' from fun W' he => hK _ _ ⟨upd V 24 (undef), rfl, HV.up 24 _ (fun x hx => Option.some.inj hx), NcJ.ext s0 he⟩)
            have HU := Lib.hid (show (upd V 24 (undef)) 17 = undef ∧ (upd V 24 (undef)) 22 = undef ∧ (upd V 24 (undef)) 23 = undef from ⟨e17, e22, e23⟩)
            clear hK hC hW hL HV s0
            rw [HFR.out]
            rw [e17, e22, e23]
            clear e17 e22 e23
            go_wp2_with fail
            show K _ _
            have := H.out _ (Ext.refl _)
            rw [HFR.out] at this
            obtain ⟨u17, u22, u23⟩ := HU.out
            rw [u17, u22, u23] at this
            exact this
          · rintro L A W K hL hC hW ⟨V, rfl, HV, s0⟩ hK
            have e17 : V 17 = undef := HV 17 _ rfl (hW 17 rfl)
            have e24 : V 24 = undef := HV 24 _ rfl (hW 24 rfl)
            have H := Lib.hid (show ∀ W', Ext W W' → K (fr (upd V 25 (undef))) W' from fun W' he => hK _ _ ⟨upd V 25 (undef), rfl, HV.up 25 _ (fun x hx => Option.some.inj hx), NcJ.ext s0 he⟩)
            have HU := Lib.hid (show (upd V 25 (undef)) 17 = undef ∧ (upd V 25 (undef)) 24 = undef from ⟨e17, e24⟩)
            clear hK hC hW hL HV s0
            rw [HFR.out]
            rw [e17, e24]
            clear e17 e24
            go_wp2_with fail
            show K _ _
            have := H.out _ (Ext.refl _)
            rw [HFR.out] at this
            obtain ⟨u17, u24⟩ := HU.out
            rw [u17, u24] at this
            exact this
          · rintro L A W K hL hC hW ⟨V, rfl, HV, s0⟩ hK
            have e14 : V 14 = .bool true := HV 14 _ rfl (hW 14 rfl)
            have e17 : V 17 = undef := HV 17 _ rfl (hW 17 rfl)
            have e25 : V 25 = undef := HV 25 _ rfl (hW 25 rfl)
            have H := Lib.hid (show ∀ W', Ext W W' → K (fr (upd V 26 (undef))) W' from fun W' he => hK _ _ ⟨upd V 26 (undef), rfl, HV.up 26 _ (fun x hx => Option.some.inj hx), NcJ.ext s0 he⟩)
            have HU := Lib.hid (show (upd V 26 (undef)) 14 = .bool true ∧ (upd V 26 (undef)) 17 = undef ∧ (upd V 26 (undef)) 25 = undef from ⟨e14, e17, e25⟩)
            clear hK hC hW hL HV s0
            rw [HFR.out]
            rw [e14, e17, e25]
            clear e14 e17 e25
            go_wp2_with fail
            show K _ _
            have := H.out _ (Ext.refl _)
            rw [HFR.out] at this
            obtain ⟨u14, u17, u25⟩ := HU.out
            rw [u14, u17, u25] at this
            exact this
          · rintro L A W K hL hC hW ⟨V, rfl, HV, s0⟩ hK
            have e14 : V 14 = .bool true := HV 14 _ rfl (hW 14 rfl)
            have e26 : V 26 = undef := HV 26 _ rfl (hW 26 rfl)
            have H := Lib.hid (show ∀ W', Ext W W' → K (fr (upd V 27 (.bool true))) W' from fun W' he => hK _ _ ⟨upd V 27 (.bool true), rfl, HV.up 27 _ (fun x hx => Option.some.inj hx), NcJ.ext s0 he⟩)
            have HU := Lib.hid (show (upd V 27 (.bool true)) 14 = .bool true ∧ (upd V 27 (.bool true)) 26 = undef from ⟨e14, e26⟩)
            clear hK hC hW hL HV s0
            rw [HFR.out]
            rw [e14, e26]
            clear e14 e26
            go_wp2_with fail
            show K _ _
            have := H.out _ (Ext.refl _)
            rw [HFR.out] at this
            obtain ⟨u14, u26⟩ := HU.out
            rw [u14, u26] at this
            exact this
          · rintro L A W hL ⟨V, rfl, HV, s0⟩
            have e0 : V 0 = .pointer (some ⟨g4, 0, none⟩) := HV 0 _ rfl (hL 0 (by simp))
            have e1 : V 1 = .int .u64 (p.addr : Nat) := HV 1 _ rfl (hL 1 (by simp))
            have e2 : V 2 = .bool false := HV 2 _ rfl (hL 2 (by simp))
            have e3 : V 3 = .bool false := HV 3 _ rfl (hL 3 (by simp))
            have e4 : V 4 = .pointer (some ⟨g4, 1, none⟩) := HV 4 _ rfl (hL 4 (by simp))
            have e5 : V 5 = wv p.key := HV 5 _ rfl (hL 5 (by simp))
            have e6 : V 6 = .bool false := HV 6 _ rfl (hL 6 (by simp))
            have e7 : V 7 = .bool true := HV 7 _ rfl (hL 7 (by simp))
            have e8 : V 8 = .bool true := HV 8 _ rfl (hL 8 (by simp))
            have e9 : V 9 = .bool true := HV 9 _ rfl (hL 9 (by simp))
            have e10 : V 10 = undef := HV 10 _ rfl (hL 10 (by simp))
            have e11 : V 11 = undef := HV 11 _ rfl (hL 11 (by simp))
            have e12 : V 12 = undef := HV 12 _ rfl (hL 12 (by simp))
            have e13 : V 13 = .bool true := HV 13 _ rfl (hL 13 (by simp))
            have e14 : V 14 = .bool true := HV 14 _ rfl (hL 14 (by simp))
            have e15 : V 15 = undef := HV 15 _ rfl (hL 15 (by simp))
            have e16 : V 16 = undef := HV 16 _ rfl (hL 16 (by simp))
            have e17 : V 17 = undef := HV 17 _ rfl (hL 17 (by simp))
            have e18 : V 18 = undef := HV 18 _ rfl (hL 18 (by simp))
            have e19 : V 19 = undef := HV 19 _ rfl (hL 19 (by simp))
            have e20 : V 20 = undef := HV 20 _ rfl (hL 20 (by simp))
            have e21 : V 21 = undef := HV 21 _ rfl (hL 21 (by simp))
            have e22 : V 22 = undef := HV 22 _ rfl (hL 22 (by simp))
            have e23 : V 23 = undef := HV 23 _ rfl (hL 23 (by simp))
            have e24 : V 24 = undef := HV 24 _ rfl (hL 24 (by simp))
            have e25 : V 25 = undef := HV 25 _ rfl (hL 25 (by simp))
            have e26 : V 26 = undef := HV 26 _ rfl (hL 26 (by simp))
            have e27 : V 27 = .bool true := HV 27 _ rfl (hL 27 (by simp))
            have hA := s0
            rw [HFR.out]
            rw [e0, e1, e2, e3, e4, e5, e6, e7, e8, e9, e10, e11, e12, e13, e14, e15, e16, e17, e18, e19, e20, e21, e22, e23, e24, e25, e26, e27]
            clear hL HV HFR e0 e1 e2 e3 e4 e5 e6 e7 e8 e9 e10 e11 e12 e13 e14 e15 e16 e17 e18 e19 e20 e21 e22 e23 e24 e25 e26 e27 s0
            go_wp2_with fail
            refine bodyPost_ret (results_tmp rfl _ _ _) rfl ?_
            exact ⟨by rw [HF.out]; rfl, HXW.out.trans hA.2⟩
        | true =>
          have HKB := Lib.hid hkb
          clear hkb
          by_cases hn : p.nxt = 0
          · have hf2 : ((p.nxt : Int) == 0) = true := by rw [beq_iff_eq]; omega
            have HF := Lib.hid (HNO.out (by rw [HMB.out, HA.out, HKB.out, hn]; rfl))
            clear hn
            refine wp_named fun a0 ha0 => ?_
            obtain ⟨fr, hfr⟩ : ∃ fr : (Nat → Value) → Act, ∀ V, fr V = ((((((((((((((((((((((((((((a0.put (some 12) (V 0)).put (some 13) (V 1)).put (some 14) (V 2)).put (some 15) (V 3)).put (some 16) (V 4)).put (some 17) (V 5)).put (some 18) (V 6)).put (some 19) (V 7)).put (some 20) (V 8)).put (some 21) (V 9)).put (some 22) (V 10)).put (some 23) (V 11)).put (some 24) (V 12)).put (some 25) (V 13)).put (some 26) (V 14)).put (some 27) (V 15)).put (some 28) (V 16)).put (some 29) (V 17)).put (some 30) (V 18)).put (some 31) (V 19)).put (some 32) (V 20)).put (some 33) (V 21)).put (some 34) (V 22)).put (some 35) (V 23)).put (some 36) (V 24)).put (some 37) (V 25)).put (some 38) (V 26)).put (some 39) (V 27)) := ⟨fun V => ((((((((((((((((((((((((((((a0.put (some 12) (V 0)).put (some 13) (V 1)).put (some 14) (V 2)).put (some 15) (V 3)).put (some 16) (V 4)).put (some 17) (V 5)).put (some 18) (V 6)).put (some 19) (V 7)).put (some 20) (V 8)).put (some 21) (V 9)).put (some 22) (V 10)).put (some 23) (V 11)).put (some 24) (V 12)).put (some 25) (V 13)).put (some 26) (V 14)).put (some 27) (V 15)).put (some 28) (V 16)).put (some 29) (V 17)).put (some 30) (V 18)).put (some 31) (V 19)).put (some 32) (V 20)).put (some 33) (V 21)).put (some 34) (V 22)).put (some 35) (V 23)).put (some 36) (V 24)).put (some 37) (V 25)).put (some 38) (V 26)).put (some 39) (V 27)), fun _ => rfl⟩
            rw [ha0] at hfr
            simp only [Act.put, List.setIfInBounds_toArray, List.set_cons_zero, List.set_cons_succ] at hfr
            have HFR := Lib.hid hfr
            clear hfr
            refine wp_region_inv (by kernel_rfl) (by kernel_rfl) (fun L A W => ∃ V : Nat → Value, A = fr V ∧ Vals (fun j => ([some (.pointer (some ⟨g4, 0, none⟩)), some (.int .u64 (p.addr : Nat)), some (.bool false), some (.bool false), some (.pointer (some ⟨g4, 1, none⟩)), some (wv p.key), some (.bool true), some (.bool false), some (.bool false), some (.bool false), some (.pointer (some ⟨g4, 5, none⟩)), some (.int .u64 (p.nxt : Nat)), some (.bool true), some (.bool true), some (.bool true), some (undef), some (undef), some (undef), some (undef), some (undef), some (undef), some (undef), some (undef), some (undef), some (undef), some (undef), some (undef), some (.bool true)] : List (Option Value)).getD j none) L V ∧ (NcJ wb g4 p W)) ?_ ⟨?_, ?_, ?_, ?_, ?_, ?_, ?_, ?_, ?_, ?_, ?_, ?_, ?_, ?_, ?_, ?_, ?_, ?_, ?_, ?_, ?_, ?_, ?_, ?_, ?_, ?_, ?_, ?_, trivial⟩ ?_
            · refine ⟨fun j => a0.tmps.getD (([12, 13, 14, 15, 16, 17, 18, 19, 20, 21, 22, 23, 24, 25, 26, 27, 28, 29, 30, 31, 32, 33, 34, 35, 36, 37, 38, 39] : List Nat).getD j 0) undef, ?_, Vals.no _ _ _ (far_none _ _ rfl), HJ.out.ext ((Ext.refl _).drew)⟩
              rw [HFR.out, ha0]
              rfl
            all_goals clear ha0
            · rintro L A W K hL hC hW ⟨V, rfl, HV, s0⟩ hK
              have H := Lib.hid (show ∀ W', Ext W W' → K (fr (upd V 0 (.pointer (some ⟨g4, 0, none⟩)))) W' from fun W' he => hK _ _ ⟨upd V 0 (.pointer (some ⟨g4, 0, none⟩)), rfl, HV.up 0 _ (fun x hx => Option.some.inj hx), NcJ.ext s0 he⟩)
              clear hK hC hW hL HV s0
              rw [HFR.out]
              go_wp2_with fail
              show K _ _
              have := H.out _ (Ext.refl _)
              rw [HFR.out] at this
              exact this
            · rintro L A W K hL hC hW ⟨V, rfl, HV, s0⟩ hK
              have e0 : V 0 = .pointer (some ⟨g4, 0, none⟩) := HV 0 _ rfl (hW 0 rfl)
              have hB := s0
              have H := Lib.hid (show ∀ W', Ext W W' → K (fr (upd V 1 (.int .u64 (p.addr : Nat)))) W' from fun W' he => hK _ _ ⟨upd V 1 (.int .u64 (p.addr : Nat)), rfl, HV.up 1 _ (fun x hx => Option.some.inj hx), NcJ.ext s0 he⟩)
              have HU := Lib.hid (show (upd V 1 (.int .u64 (p.addr : Nat))) 0 = .pointer (some ⟨g4, 0, none⟩) from e0)
              clear hK hC hW hL HV s0
              rw [HFR.out]
              rw [e0]
              clear e0
              have qq := hB.1.addr
              clear hB
              go_wp2_with fail
              show K _ _
              have := H.out _ (Ext.refl _)
              rw [HFR.out] at this
              obtain u0 := HU.out
              rw [u0] at this
              exact this
            · rintro L A W K hL hC hW ⟨V, rfl, HV, s0⟩ hK
              have e1 : V 1 = .int .u64 (p.addr : Nat) := HV 1 _ rfl (hW 1 rfl)
              have H := Lib.hid (show ∀ W', Ext W W' → K (fr (upd V 2 (.bool false))) W' from fun W' he => hK _ _ ⟨upd V 2 (.bool false), rfl, HV.up 2 _ (fun x hx => Option.some.inj hx), NcJ.ext s0 he⟩)
              have HU := Lib.hid (show (upd V 2 (.bool false)) 1 = .int .u64 (p.addr : Nat) from e1)
              clear hK hC hW hL HV s0
              rw [HFR.out]
              rw [e1]
              clear e1
              go_wp2_with fail
              show K _ _
              have := H.out _ (Ext.refl _)
              rw [HFR.out] at this
              obtain u1 := HU.out
              rw [u1] at this
              exact this
            · rintro L A W K hL hC hW ⟨V, rfl, HV, s0⟩ hK
              have e2 : V 2 = .bool false := HV 2 _ rfl (hW 2 rfl)
              have H := Lib.hid (show ∀ W', Ext W W' → K (fr (upd V 3 (.bool false))) W' from fun W' he => hK _ _ ⟨upd V 3 (.bool false), rfl, HV.up 3 _ (fun x hx => Option.some.inj hx), NcJ.ext s0 he⟩)
              have HU := Lib.hid (show (upd V 3 (.bool false)) 2 = .bool false from e2)
              clear hK hC hW hL HV s0
              rw [HFR.out]
              rw [e2]
              clear e2
              go_wp2_with fail
              show K _ _
              have := H.out _ (Ext.refl _)
              rw [HFR.out] at this
              obtain u2 := HU.out
              rw [u2] at this
              exact this
            · rintro L A W K hL hC hW ⟨V, rfl, HV, s0⟩ hK
              have e3 : V 3 = .bool false := HV 3 _ rfl (hW 3 rfl)
              have H := Lib.hid (show ∀ W', Ext W W' → K (fr (upd V 4 (.pointer (some ⟨g4, 1, none⟩)))) W' from fun W' he => hK _ _ ⟨upd V 4 (.pointer (some ⟨g4, 1, none⟩)), rfl, HV.up 4 _ (fun x hx => Option.some.inj hx), NcJ.ext s0 he⟩)
              have HU := Lib.hid (show (upd V 4 (.pointer (some ⟨g4, 1, none⟩))) 3 = .bool false from e3)
              clear hK hC hW hL HV s0
              rw [HFR.out]
              rw [e3]
              clear e3
              go_wp2_with fail
              show K _ _
              have := H.out _ (Ext.refl _)
              rw [HFR.out] at this
              obtain u3 := HU.out
              rw [u3] at this
              exact this
            · rintro L A W K hL hC hW ⟨V, rfl, HV, s0⟩ hK
              have e3 : V 3 = .bool false := HV 3 _ rfl (hW 3 rfl)
              have e4 : V 4 = .pointer (some ⟨g4, 1, none⟩) := HV 4 _ rfl (hW 4 rfl)
              have hB := s0
              have H := Lib.hid (show ∀ W', Ext W W' → K (fr (upd V 5 (wv p.key))) W' from fun W' he => hK _ _ ⟨upd V 5 (wv p.key), rfl, HV.up 5 _ (fun x hx => Option.some.inj hx), NcJ.ext s0 he⟩)
              have HU := Lib.hid (show (upd V 5 (wv p.key)) 3 = .bool false ∧ (upd V 5 (wv p.key)) 4 = .pointer (some ⟨g4, 1, none⟩) from ⟨e3, e4⟩)
              clear hK hC hW hL HV s0
              rw [HFR.out]
              rw [e3, e4]
              clear e3 e4
              have HWW := Lib.hid hB.1.key
              clear hB
              refine wpList_load_wordIn rfl (.tmp 16) rfl g4 1 p.key rfl HWW.out ?_
              show K _ _
              have := H.out _ (Ext.refl _)
              rw [HFR.out] at this
              obtain ⟨u3, u4⟩ := HU.out
              rw [u3, u4] at this
              exact this
            · rintro L A W K hL hC hW ⟨V, rfl, HV, s0⟩ hK
              have e3 : V 3 = .bool false := HV 3 _ rfl (hW 3 rfl)
              have e5 : V 5 = wv p.key := HV 5 _ rfl (hW 5 rfl)
              have hB := s0
              have H := Lib.hid (show ∀ W', Ext W W' → K (fr (upd V 6 (.bool true))) W' from fun W' he => hK _ _ ⟨upd V 6 (.bool true), rfl, HV.up 6 _ (fun x hx => Option.some.inj hx), NcJ.ext s0 he⟩)
              have HU := Lib.hid (show (upd V 6 (.bool true)) 3 = .bool false ∧ (upd V 6 (.bool true)) 5 = wv p.key from ⟨e3, e5⟩)
              clear hK hC hW hL HV s0
              rw [HFR.out]
              rw [e3, e5]
              clear e3 e5
              clear hB
              go_wp2_with fail
              refine ((refKey_any p.key _).mono (fun _ _ h => show _ = Ending.returned (.bool true) ∧ _ from by rw [← HKB.out]; exact h)).mono ?_
              rintro e wx ⟨rfl, he⟩
              have := H.out _ he
              clear H
              go_wp2_with fail
              show K _ _
              rw [HFR.out] at this
              obtain ⟨u3, u5⟩ := HU.out
              rw [u3, u5] at this
              exact this
            · rintro L A W K hL hC hW ⟨V, rfl, HV, s0⟩ hK
              have e3 : V 3 = .bool false := HV 3 _ rfl (hW 3 rfl)
              have e6 : V 6 = .bool true := HV 6 _ rfl (hW 6 rfl)
              have H := Lib.hid (show ∀ W', Ext W W' → K (fr (upd V 7 (.bool false))) W' from fun W' he => hK _ _ ⟨upd V 7 (.bool false), rfl, HV.up 7 _ (fun x hx => Option.some.inj hx), NcJ.ext s0 he⟩)
              have HU := Lib.hid (show (upd V 7 (.bool false)) 3 = .bool false ∧ (upd V 7 (.bool false)) 6 = .bool true from ⟨e3, e6⟩)
              clear hK hC hW hL HV s0
              rw [HFR.out]
              rw [e3, e6]
              clear e3 e6
              go_wp2_with fail
              show K _ _
              have := H.out _ (Ext.refl _)
              rw [HFR.out] at this
              obtain ⟨u3, u6⟩ := HU.out
              rw [u3, u6] at this
              exact this
            · rintro L A W K hL hC hW ⟨V, rfl, HV, s0⟩ hK
              have e3 : V 3 = .bool false := HV 3 _ rfl (hW 3 rfl)
              have e7 : V 7 = .bool false := HV 7 _ rfl (hW 7 rfl)
              have H := Lib.hid (show ∀ W', Ext W W' → K (fr (upd V 8 (.bool false))) W' from fun W' he => hK _ _ ⟨upd V 8 (.bool false), rfl, HV.up 8 _ (fun x hx => Option.some.inj hx), NcJ.ext s0 he⟩)
              have HU := Lib.hid (show (upd V 8 (.bool false)) 3 = .bool false ∧ (upd V 8 (.bool false)) 7 = .bool false from ⟨e3, e7⟩)
              clear hK hC hW hL HV s0
              rw [HFR.out]
              rw [e3, e7]
              clear e3 e7
              go_wp2_with fail
              show K _ _
              have := H.out _ (Ext.refl _)
              rw [HFR.out] at this
              obtain ⟨u3, u7⟩ := HU.out
              rw [u3, u7] at this
              exact this
            · rintro L A W K hL hC hW ⟨V, rfl, HV, s0⟩ hK
              have e8 : V 8 = .bool false := HV 8 _ rfl (hW 8 rfl)
              have H := Lib.hid (show ∀ W', Ext W W' → K (fr (upd V 9 (.bool false))) W' from fun W' he => hK _ _ ⟨upd V 9 (.bool false), rfl, HV.up 9 _ (fun x hx => Option.some.inj hx), NcJ.ext s0 he⟩)
              have HU := Lib.hid (show (upd V 9 (.bool false)) 8 = .bool false from e8)
              clear hK hC hW hL HV s0
              rw [HFR.out]
              rw [e8]
              clear e8
              go_wp2_with fail
              show K _ _
              have := H.out _ (Ext.refl _)
              rw [HFR.out] at this
              obtain u8 := HU.out
              rw [u8] at this
              exact this
            · rintro L A W K hL hC hW ⟨V, rfl, HV, s0⟩ hK
              have e9 : V 9 = .bool false := HV 9 _ rfl (hW 9 rfl)
              have H := Lib.hid (show ∀ W', Ext W W' → K (fr (upd V 10 (.pointer (some ⟨g4, 5, none⟩)))) W' from fun W' he => hK _ _ ⟨upd V 10 (.pointer (some ⟨g4, 5, none⟩)), rfl, HV.up 10 _ (fun x hx => Option.some.inj hx), NcJ.ext s0 he⟩)
              have HU := Lib.hid (show (upd V 10 (.pointer (some ⟨g4, 5, none⟩))) 9 = .bool false from e9)
              clear hK hC hW hL HV s0
              rw [HFR.out]
              rw [e9]
              clear e9
              go_wp2_with fail
              show K _ _
              have := H.out _ (Ext.refl _)
              rw [HFR.out] at this
              obtain u9 := HU.out
              rw [u9] at this
              exact this
            · rintro L A W K hL hC hW ⟨V, rfl, HV, s0⟩ hK
              have e9 : V 9 = .bool false := HV 9 _ rfl (hW 9 rfl)
              have e10 : V 10 = .pointer (some ⟨g4, 5, none⟩) := HV 10 _ rfl (hW 10 rfl)
              have hB := s0
              have H := Lib.hid (show ∀ W', Ext W W' → K (fr (upd V 11 (.int .u64 (p.nxt : Nat)))) W' from fun W' he => hK _ _ ⟨upd V 11 (.int .u64 (p.nxt : Nat)), rfl, HV.up 11 _ (fun x hx => Option.some.inj hx), NcJ.ext s0 he⟩)
              have HU := Lib.hid (show (upd V 11 (.int .u64 (p.nxt : Nat))) 9 = .bool false ∧ (upd V 11 (.int .u64 (p.nxt : Nat))) 10 = .pointer (some ⟨g4, 5, none⟩) from ⟨e9, e10⟩)
              clear hK hC hW hL HV s0
              rw [HFR.out]
              rw [e9, e10]
              clear e9 e10
              have qq := hB.1.nxt
              clear hB
              go_wp2_with fail
              show K _ _
              have := H.out _ (Ext.refl _)
              rw [HFR.out] at this
              obtain ⟨u9, u10⟩ := HU.out
              rw [u9, u10] at this
              exact this
            · rintro L A W K hL hC hW ⟨V, rfl, HV, s0⟩ hK
              have e9 : V 9 = .bool false := HV 9 _ rfl (hW 9 rfl)
              have e11 : V 11 = .int .u64 (p.nxt : Nat) := HV 11 _ rfl (hW 11 rfl)
              have H := Lib.hid (show ∀ W', Ext W W' → K (fr (upd V 12 (.bool true))) W' from fun W' he => hK _ _ ⟨upd V 12 (.bool true), rfl, HV.up 12 _ (fun x hx => Option.some.inj hx), NcJ.ext s0 he⟩)
              have HU := Lib.hid (show (upd V 12 (.bool true)) 9 = .bool false ∧ (upd V 12 (.bool true)) 11 = .int .u64 (p.nxt : Nat) from ⟨e9, e11⟩)
              clear hK hC hW hL HV s0
              rw [HFR.out]
              rw [e9, e11]
              clear e9 e11
              go_wp2_with fail
              show K _ _
              have := H.out _ (Ext.refl _)
              rw [HFR.out] at this
              obtain ⟨u9, u11⟩ := HU.out
              rw [u9, u11] at this
              exact this
            · rintro L A W K hL hC hW ⟨V, rfl, HV, s0⟩ hK
              have e9 : V 9 = .bool false := HV 9 _ rfl (hW 9 rfl)
              have e12 : V 12 = .bool true := HV 12 _ rfl (hW 12 rfl)
              have H := Lib.hid (show ∀ W', Ext W W' → K (fr (upd V 13 (.bool true))) W' from fun W' he => hK _ _ ⟨upd V 13 (.bool true), rfl, HV.up 13 _ (fun x hx => Option.some.inj hx), NcJ.ext s0 he⟩)
              have HU := Lib.hid (show (upd V 13 (.bool true)) 9 = .bool false ∧ (upd V 13 (.bool true)) 12 = .bool true from ⟨e9, e12⟩)
              clear hK hC hW hL HV s0
              rw [HFR.out]
              rw [e9, e12]
              clear e9 e12
              go_wp2_with fail
              show K _ _
              have := H.out _ (Ext.refl _)
              rw [HFR.out] at this
              obtain ⟨u9, u12⟩ := HU.out
              rw [u9, u12] at this
              exact this
            · rintro L A W K hL hC hW ⟨V, rfl, HV, s0⟩ hK
              have e13 : V 13 = .bool true := HV 13 _ rfl (hW 13 rfl)
              have H := Lib.hid (show ∀ W', Ext W W' → K (fr (upd V 14 (.bool true))) W' from fun W' he => hK _ _ ⟨upd V 14 (.bool true), rfl, HV.up 14 _ (fun x hx => Option.some.inj hx), NcJ.ext s0 he⟩)
              have HU := Lib.hid (show (upd V 14 (.bool true)) 13 = .bool true from e13)
              clear hK hC hW hL HV s0
              rw [HFR.out]
              rw [e13]
              clear e13
              go_wp2_with fail
              show K _ _
              have := H.out _ (Ext.refl _)
              rw [HFR.out] at this
              obtain u13 := HU.out
              rw [u13] at this
              exact this
            · rintro L A W K hL hC hW ⟨V, rfl, HV, s0⟩ hK
              have e14 : V 14 = .bool true := HV 14 _ rfl (hW 14 rfl)
              have H := Lib.hid (show ∀ W', Ext W W' → K (fr (upd V 15 (undef))) W' from fun W' he => hK _ _ ⟨upd V 15 (undef), rfl, HV.up 15 _ (fun x hx => Option.some.inj hx), NcJ.ext s0 he⟩)
              have HU := Lib.hid (show (upd V 15 (undef)) 14 = .bool true from e14)
              clear hK hC hW hL HV s0
              rw [HFR.out]
              rw [e14]
              clear e14
              go_wp2_with fail
              show K _ _
              have := H.out _ (Ext.refl _)
              rw [HFR.out] at this
              obtain u14 := HU.out
              rw [u14] at this
              exact this
            · rintro L A W K hL hC hW ⟨V, rfl, HV, s0⟩ hK
              have e14 : V 14 = .bool true := HV 14 _ rfl (hW 14 rfl)
              have e15 : V 15 = undef := HV 15 _ rfl (hW 15 rfl)
              have H := Lib.hid (show ∀ W', Ext W W' → K (fr (upd V 16 (undef))) W' from fun W' he => hK _ _ ⟨upd V 16 (undef), rfl, HV.up 16 _ (fun x hx => Option.some.inj hx), NcJ.ext s0 he⟩)
              have HU := Lib.hid (show (upd V 16 (undef)) 14 = .bool true ∧ (upd V 16 (undef)) 15 = undef from ⟨e14, e15⟩)
              clear hK hC hW hL HV s0
              rw [HFR.out]
              rw [e14, e15]
              clear e14 e15
              go_wp2_with fail
              show K _ _
              have := H.out _ (Ext.refl _)
              rw [HFR.out] at this
              obtain ⟨u14, u15⟩ := HU.out
              rw [u14, u15] at this
              exact this
            · rintro L A W K hL hC hW ⟨V, rfl, HV, s0⟩ hK
              have e14 : V 14 = .bool true := HV 14 _ rfl (hW 14 rfl)
              have e16 : V 16 = undef := HV 16 _ rfl (hW 16 rfl)
              have H := Lib.hid (show ∀ W', Ext W W' → K (fr (upd V 17 (undef))) W' from fun W' he => hK _ _ ⟨upd V 17 (undef), rfl, HV.up 17 _ (fun x hx => Option.some.inj hx), NcJ.ext s0 he⟩)
              have HU := Lib.hid (show (upd V 17 (undef)) 14 = .bool true ∧ (upd V 17 (undef)) 16 = undef from ⟨e14, e16⟩)
              clear hK hC hW hL HV s0
              rw [HFR.out]
              rw [e14, e16]
              clear e14 e16
              go_wp2_with fail
              show K _ _
              have := H.out _ (Ext.refl _)
              rw [HFR.out] at this
              obtain ⟨u14, u16⟩ := HU.out
              rw [u14, u16] at this
              exact this
            · rintro L A W K hL hC hW ⟨V, rfl, HV, s0⟩ hK
              have e17 : V 17 = undef := HV 17 _ rfl (hW 17 rfl)
              have H := Lib.hid (show ∀ W', Ext W W' → K (fr (upd V 18 (undef))) W' from fun W' he => hK _ _ ⟨upd V 18 (undef), rfl, HV.up 18 _ (fun x hx => Option.some.inj hx), NcJ.ext s0 he⟩)
              have HU := Lib.hid (show (upd V 18 (undef)) 17 = undef from e17)
              clear hK hC hW hL HV s0
              rw [HFR.out]
              rw [e17]
              clear e17
              go_wp2_with fail
              show K _ _
              have := H.out _ (Ext.refl _)
              rw [HFR.out] at this
              obtain u17 := HU.out
              rw [u17] at this
              exact this
            · rintro L A W K hL hC hW ⟨V, rfl, HV, s0⟩ hK
              have e17 : V 17 = undef := HV 17 _ rfl (hW 17 rfl)
              have H := Lib.hid (show ∀ W', Ext W W' → K (fr (upd V 19 (undef))) W' from fun W' he => hK _ _ ⟨upd V 19 (undef), rfl, HV.up 19 _ (fun x hx => Option.some.inj hx), NcJ.ext s0 he⟩)
              have HU := Lib.hid (show (upd V 19 (undef)) 17 = undef from e17)
              clear hK hC hW hL HV s0
              rw [HFR.out]
              rw [e17]
              clear e17
              go_wp2_with fail
              show K _ _
              have := H.out _ (Ext.refl _)
              rw [HFR.out] at this
              obtain u17 := HU.out
              rw [u17] at this
              exact this
            · rintro L A W K hL hC hW ⟨V, rfl, HV, s0⟩ hK
              have e17 : V 17 = undef := HV 17 _ rfl (hW 17 rfl)
              have e19 : V 19 = undef := HV 19 _ rfl (hW 19 rfl)
              have H := Lib.hid (show ∀ W', Ext W W' → K (fr (upd V 20 (undef))) W' from fun W' he => hK _ _ ⟨upd V 20 (undef), rfl, HV.up 20 _ (fun x hx => Option.some.inj hx), NcJ.ext s0 he⟩)
              have HU := Lib.hid (show (upd V 20 (undef)) 17 = undef ∧ (upd V 20 (undef)) 19 = undef from ⟨e17, e19⟩)
              clear hK hC hW hL HV s0
              rw [HFR.out]
              rw [e17, e19]
              clear e17 e19
              go_wp2_with fail
              show K _ _
              have := H.out _ (Ext.refl _)
              rw [HFR.out] at this
              obtain ⟨u17, u19⟩ := HU.out
              rw [u17, u19] at this
              exact this
            · rintro L A W K hL hC hW ⟨V, rfl, HV, s0⟩ hK
              have e17 : V 17 = undef := HV 17 _ rfl (hW 17 rfl)
              have e18 : V 18 = undef := HV 18 _ rfl (hW 18 rfl)
              have e20 : V 20 = undef := HV 20 _ rfl (hW 20 rfl)
              have H := Lib.hid (show ∀ W', Ext W W' → K (fr (upd V 21 (undef))) W' from fun W' he => hK _ _ ⟨upd V 21 (undef), rfl, HV.up 21 _ (fun x hx => Option.some.inj hx), NcJ.ext s0 he⟩)
              have HU := Lib.hid (show (upd V 21 (undef)) 17 = undef ∧ (upd V 21 (undef)) 18 = undef ∧ (upd V 21 (undef)) 20 = undef from ⟨e17, e18, e20⟩)
              clear hK hC hW hL HV s0
              rw [HFR.out]
              rw [e17, e18, e20]
              clear e17 e18 e20
              go_wp2_with fail
              show K _ _
              have := H.out _ (Ext.refl _)
              rw [HFR.out] at this
              obtain ⟨u17, u18, u20⟩ := HU.out
              rw [u17, u18, u20] at this
              exact this
            · rintro L A W K hL hC hW ⟨V, rfl, HV, s0⟩ hK
              have e17 : V 17 = undef := HV 17 _ rfl (hW 17 rfl)
              have e21 : V 21 = undef := HV 21 _ rfl (hW 21 rfl)
              have H := Lib.hid (show ∀ W', Ext W W' → K (fr (upd V 22 (undef))) W' from fun W' he => hK _ _ ⟨upd V 22 (undef), rfl, HV.up 22 _ (fun x hx => Option.some.inj hx), NcJ.ext s0 he⟩)
              have HU := Lib.hid (show (upd V 22 (undef)) 17 = undef ∧ (upd V 22 (undef)) 21 = undef from ⟨e17, e21⟩)
              clear hK hC hW hL HV s0
              rw [HFR.out]
              rw [e17, e21]
              clear e17 e21
              go_wp2_with fail
              show K _ _
              have := H.out _ (Ext.refl _)
              rw [HFR.out] at this
              obtain ⟨u17, u21⟩ := HU.out
              rw [u17, u21] at this
              exact this
            · rintro L A W K hL hC hW ⟨V, rfl, HV, s0⟩ hK
              have e17 : V 17 = undef := HV 17 _ rfl (hW 17 rfl)
              have H := Lib.hid (show ∀ W', Ext W W' → K (fr (upd V 23 (undef))) W' from fun W' he => hK _ _ ⟨upd V 23 (undef), rfl, HV.up 23 _ (fun x hx => Option.some.inj hx), NcJ.ext s0 he⟩)
              have HU := Lib.hid (show (upd V 23 (undef)) 17 = undef from e17)
              clear hK hC hW hL HV s0
              rw [HFR.out]
              rw [e17]
              clear e17
              go_wp2_with fail
              show K _ _
              have := H.out _ (Ext.refl _)
              rw [HFR.out] at this
              obtain u17 := HU.out
              rw [u17] at this
              exact this
            · rintro L A W K hL hC hW ⟨V, rfl, HV, s0⟩ hK
              have e17 : V 17 = undef := HV 17 _ rfl (hW 17 rfl)
              have e22 : V 22 = undef := HV 22 _ rfl (hW 22 rfl)
              have e23 : V 23 = undef := HV 23 _ rfl (hW 23 rfl)
              have H := Lib.hid (show ∀ W', Ext W W' → K (fr (upd V 24 (undef))) W' from fun W' he => hK _ _ ⟨upd V 24 (undef), rfl, HV.up 24 _ (fun x hx => Option.some.inj hx), NcJ.ext s0 he⟩)
              have HU := Lib.hid (show (upd V 24 (undef)) 17 = undef ∧ (upd V 24 (undef)) 22 = undef ∧ (upd V 24 (undef)) 23 = undef from ⟨e17, e22, e23⟩)
              clear hK hC hW hL HV s0
              rw [HFR.out]
              rw [e17, e22, e23]
              clear e17 e22 e23
              go_wp2_with fail
              show K _ _
              have := H.out _ (Ext.refl _)
              rw [HFR.out] at this
              obtain ⟨u17, u22, u23⟩ := HU.out
              rw [u17, u22, u23] at this
              exact this
            · rintro L A W K hL hC hW ⟨V, rfl, HV, s0⟩ hK
              have e17 : V 17 = undef := HV 17 _ rfl (hW 17 rfl)
              have e24 : V 24 = undef := HV 24 _ rfl (hW 24 rfl)
              have H := Lib.hid (show ∀ W', Ext W W' → K (fr (upd V 25 (undef))) W' from fun W' he => hK _ _ ⟨upd V 25 (undef), rfl, HV.up 25 _ (fun x hx => Option.some.inj hx), NcJ.ext s0 he⟩)
              have HU := Lib.hid (show (upd V 25 (undef)) 17 = undef ∧ (upd V 25 (undef)) 24 = undef from ⟨e17, e24⟩)
              clear hK hC hW hL HV s0
              rw [HFR.out]
              rw [e17, e24]
              clear e17 e24
              go_wp2_with fail
              show K _ _
              have := H.out _ (Ext.refl _)
              rw [HFR.out] at this
              obtain ⟨u17, u24⟩ := HU.out
              rw [u17, u24] at this
              exact this
            · rintro L A W K hL hC hW ⟨V, rfl, HV, s0⟩ hK
              have e14 : V 14 = .bool true := HV 14 _ rfl (hW 14 rfl)
              have e17 : V 17 = undef := HV 17 _ rfl (hW 17 rfl)
              have e25 : V 25 = undef := HV 25 _ rfl (hW 25 rfl)
              have H := Lib.hid (show ∀ W', Ext W W' → K (fr (upd V 26 (undef))) W' from fun W' he => hK _ _ ⟨upd V 26 (undef), rfl, HV.up 26 _ (fun x hx => Option.some.inj hx), NcJ.ext s0 he⟩)
              have HU := Lib.hid (show (upd V 26 (undef)) 14 = .bool true ∧ (upd V 26 (undef)) 17 = undef ∧ (upd V 26 (undef)) 25 = undef from ⟨e14, e17, e25⟩)
              clear hK hC hW hL HV s0
              rw [HFR.out]
              rw [e14, e17, e25]
              clear e14 e17 e25
              go_wp2_with fail
              show K _ _
              have := H.out _ (Ext.refl _)
              rw [HFR.out] at this
              obtain ⟨u14, u17, u25⟩ := HU.out
              rw [u14, u17, u25] at this
              exact this
            · rintro L A W K hL hC hW ⟨V, rfl, HV, s0⟩ hK
              have e14 : V 14 = .bool true := HV 14 _ rfl (hW 14 rfl)
              have e26 : V 26 = undef := HV 26 _ rfl (hW 26 rfl)
              have H := Lib.hid (show ∀ W', Ext W W' → K (fr (upd V 27 (.bool true))) W' from fun W' he => hK _ _ ⟨upd V 27 (.bool true), rfl, HV.up 27 _ (fun x hx => Option.some.inj hx), NcJ.ext s0 he⟩)
              have HU := Lib.hid (show (upd V 27 (.bool true)) 14 = .bool true ∧ (upd V 27 (.bool true)) 26 = undef from ⟨e14, e26⟩)
              clear hK hC hW hL HV s0
              rw [HFR.out]
              rw [e14, e26]
              clear e14 e26
              go_wp2_with fail
              show K _ _
              have := H.out _ (Ext.refl _)
              rw [HFR.out] at this
              obtain ⟨u14, u26⟩ := HU.out
              rw [u14, u26] at this
              exact this
            · rintro L A W hL ⟨V, rfl, HV, s0⟩
              have e0 : V 0 = .pointer (some ⟨g4, 0, none⟩) := HV 0 _ rfl (hL 0 (by simp))
              have e1 : V 1 = .int .u64 (p.addr : Nat) := HV 1 _ rfl (hL 1 (by simp))
              have e2 : V 2 = .bool false := HV 2 _ rfl (hL 2 (by simp))
              have e3 : V 3 = .bool false := HV 3 _ rfl (hL 3 (by simp))
              have e4 : V 4 = .pointer (some ⟨g4, 1, none⟩) := HV 4 _ rfl (hL 4 (by simp))
              have e5 : V 5 = wv p.key := HV 5 _ rfl (hL 5 (by simp))
              have e6 : V 6 = .bool true := HV 6 _ rfl (hL 6 (by simp))
              have e7 : V 7 = .bool false := HV 7 _ rfl (hL 7 (by simp))
              have e8 : V 8 = .bool false := HV 8 _ rfl (hL 8 (by simp))
              have e9 : V 9 = .bool false := HV 9 _ rfl (hL 9 (by simp))
              have e10 : V 10 = .pointer (some ⟨g4, 5, none⟩) := HV 10 _ rfl (hL 10 (by simp))
              have e11 : V 11 = .int .u64 (p.nxt : Nat) := HV 11 _ rfl (hL 11 (by simp))
              have e12 : V 12 = .bool true := HV 12 _ rfl (hL 12 (by simp))
              have e13 : V 13 = .bool true := HV 13 _ rfl (hL 13 (by simp))
              have e14 : V 14 = .bool true := HV 14 _ rfl (hL 14 (by simp))
              have e15 : V 15 = undef := HV 15 _ rfl (hL 15 (by simp))
              have e16 : V 16 = undef := HV 16 _ rfl (hL 16 (by simp))
              have e17 : V 17 = undef := HV 17 _ rfl (hL 17 (by simp))
              have e18 : V 18 = undef := HV 18 _ rfl (hL 18 (by simp))
              have e19 : V 19 = undef := HV 19 _ rfl (hL 19 (by simp))
              have e20 : V 20 = undef := HV 20 _ rfl (hL 20 (by simp))
              have e21 : V 21 = undef := HV 21 _ rfl (hL 21 (by simp))
              have e22 : V 22 = undef := HV 22 _ rfl (hL 22 (by simp))
              have e23 : V 23 = undef := HV 23 _ rfl (hL 23 (by simp))
              have e24 : V 24 = undef := HV 24 _ rfl (hL 24 (by simp))
              have e25 : V 25 = undef := HV 25 _ rfl (hL 25 (by simp))
              have e26 : V 26 = undef := HV 26 _ rfl (hL 26 (by simp))
              have e27 : V 27 = .bool true := HV 27 _ rfl (hL 27 (by simp))
              have hA := s0
              rw [HFR.out]
              rw [e0, e1, e2, e3, e4, e5, e6, e7, e8, e9, e10, e11, e12, e13, e14, e15, e16, e17, e18, e19, e20, e21, e22, e23, e24, e25, e26, e27]
              clear hL HV HFR e0 e1 e2 e3 e4 e5 e6 e7 e8 e9 e10 e11 e12 e13 e14 e15 e16 e17 e18 e19 e20 e21 e22 e23 e24 e25 e26 e27 s0
              go_wp2_with fail
              refine bodyPost_ret (results_tmp rfl _ _ _) rfl ?_
              exact ⟨by rw [HF.out]; rfl, HXW.out.trans hA.2⟩
          · have hf2 : ((p.nxt : Int) == 0) = false := by rw [beq_eq_false_iff_ne]; omega
            have HMT := Lib.hid (show p.mayB = true by rw [HMB.out, HA.out, HKB.out, decide_eq_true (show 0 < p.nxt by omega)]; rfl)
            clear hn HNO HMB
            rcases Nat.eq_zero_or_pos k with rfl | hk0
            · have HT := Lib.hid (show rgN l 0 = true by rw [HRG.out, HMT.out]; rfl)
              refine wp_named fun a0 ha0 => ?_
              obtain ⟨fr, hfr⟩ : ∃ fr : (Nat → Value) → Act, ∀ V, fr V = ((((((((((((((((((((((((((((a0.put (some 12) (V 0)).put (some 13) (V 1)).put (some 14) (V 2)).put (some 15) (V 3)).put (some 16) (V 4)).put (some 17) (V 5)).put (some 18) (V 6)).put (some 19) (V 7)).put (some 20) (V 8)).put (some 21) (V 9)).put (some 22) (V 10)).put (some 23) (V 11)).put (some 24) (V 12)).put (some 25) (V 13)).put (some 26) (V 14)).put (some 27) (V 15)).put (some 28) (V 16)).put (some 29) (V 17)).put (some 30) (V 18)).put (some 31) (V 19)).put (some 32) (V 20)).put (some 33) (V 21)).put (some 34) (V 22)).put (some 35) (V 23)).put (some 36) (V 24)).put (some 37) (V 25)).put (some 38) (V 26)).put (some 39) (V 27)) := ⟨fun V => ((((((((((((((((((((((((((((a0.put (some 12) (V 0)).put (some 13) (V 1)).put (some 14) (V 2)).put (some 15) (V 3)).put (some 16) (V 4)).put (some 17) (V 5)).put (some 18) (V 6)).put (some 19) (V 7)).put (some 20) (V 8)).put (some 21) (V 9)).put (some 22) (V 10)).put (some 23) (V 11)).put (some 24) (V 12)).put (some 25) (V 13)).put (some 26) (V 14)).put (some 27) (V 15)).put (some 28) (V 16)).put (some 29) (V 17)).put (some 30) (V 18)).put (some 31) (V 19)).put (some 32) (V 20)).put (some 33) (V 21)).put (some 34) (V 22)).put (some 35) (V 23)).put (some 36) (V 24)).put (some 37) (V 25)).put (some 38) (V 26)).put (some 39) (V 27)), fun _ => rfl⟩
              rw [ha0] at hfr
              simp only [Act.put, List.setIfInBounds_toArray, List.set_cons_zero, List.set_cons_succ] at hfr
              have HFR := Lib.hid hfr
              clear hfr
              refine wp_region_inv (by kernel_rfl) (by kernel_rfl) (fun L A W => ∃ V : Nat → Value, A = fr V ∧ Vals (fun j => ([some (.pointer (some ⟨g4, 0, none⟩)), some (.int .u64 (p.addr : Nat)), some (.bool false), some (.bool false), some (.pointer (some ⟨g4, 1, none⟩)), some (wv p.key), some (.bool true), some (.bool false), some (.bool false), some (.bool false), some (.pointer (some ⟨g4, 5, none⟩)), some (.int .u64 (p.nxt : Nat)), some (.bool false), some (.bool false), some (.bool false), some (.int .i64 (0 : Nat)), some (.bool false), some (.bool false), some (undef), some (undef), some (undef), some (undef), some (undef), some (undef), some (undef), some (undef), some (.bool false), some (.bool false)] : List (Option Value)).getD j none) L V ∧ (NcJ wb g4 p W)) ?_ ⟨?_, ?_, ?_, ?_, ?_, ?_, ?_, ?_, ?_, ?_, ?_, ?_, ?_, ?_, ?_, ?_, ?_, ?_, ?_, ?_, ?_, ?_, ?_, ?_, ?_, ?_, ?_, ?_, trivial⟩ ?_
              · refine ⟨fun j => a0.tmps.getD (([12, 13, 14, 15, 16, 17, 18, 19, 20, 21, 22, 23, 24, 25, 26, 27, 28, 29, 30, 31, 32, 33, 34, 35, 36, 37, 38, 39] : List Nat).getD j 0) undef, ?_, Vals.no _ _ _ (far_none _ _ rfl), HJ.out.ext ((Ext.refl _).drew)⟩
                rw [HFR.out, ha0]
                rfl
              all_goals clear ha0
              · rintro L A W K hL hC hW ⟨V, rfl, HV, s0⟩ hK
                have H := Lib.hid (show ∀ W', Ext W W' → K (fr (upd V 0 (.pointer (some ⟨g4, 0, none⟩)))) W' from fun W' he => hK _ _ ⟨upd V 0 (.pointer (some ⟨g4, 0, none⟩)), rfl, HV.up 0 _ (fun x hx => Option.some.inj hx), NcJ.ext s0 he⟩)
                clear hK hC hW hL HV s0
                rw [HFR.out]
                go_wp2_with fail
                show K _ _
                have := H.out _ (Ext.refl _)
                rw [HFR.out] at this
                exact this
              · rintro L A W K hL hC hW ⟨V, rfl, HV, s0⟩ hK
                have e0 : V 0 = .pointer (some ⟨g4, 0, none⟩) := HV 0 _ rfl (hW 0 rfl)
                have hB := s0
                have H := Lib.hid (show ∀ W', Ext W W' → K (fr (upd V 1 (.int .u64 (p.addr : Nat)))) W' from fun W' he => hK _ _ ⟨upd V 1 (.int .u64 (p.addr : Nat)), rfl, HV.up 1 _ (fun x hx => Option.some.inj hx), NcJ.ext s0 he⟩)
                have HU := Lib.hid (show (upd V 1 (.int .u64 (p.addr : Nat))) 0 = .pointer (some ⟨g4, 0, none⟩) from e0)
                clear hK hC hW hL HV s0
                rw [HFR.out]
                rw [e0]
                clear e0
                have qq := hB.1.addr
                clear hB
                go_wp2_with fail
                show K _ _
                have := H.out _ (Ext.refl _)
                rw [HFR.out] at this
                obtain u0 := HU.out
                rw [u0] at this
                exact this
              · rintro L A W K hL hC hW ⟨V, rfl, HV, s0⟩ hK
                have e1 : V 1 = .int .u64 (p.addr : Nat) := HV 1 _ rfl (hW 1 rfl)
                have H := Lib.hid (show ∀ W', Ext W W' → K (fr (upd V 2 (.bool false))) W' from fun W' he => hK _ _ ⟨upd V 2 (.bool false), rfl, HV.up 2 _ (fun x hx => Option.some.inj hx), NcJ.ext s0 he⟩)
                have HU := Lib.hid (show (upd V 2 (.bool false)) 1 = .int .u64 (p.addr : Nat) from e1)
                clear hK hC hW hL HV s0
                rw [HFR.out]
                rw [e1]
                clear e1
                go_wp2_with fail
                show K _ _
                have := H.out _ (Ext.refl _)
                rw [HFR.out] at this
                obtain u1 := HU.out
                rw [u1] at this
                exact this
              · rintro L A W K hL hC hW ⟨V, rfl, HV, s0⟩ hK
                have e2 : V 2 = .bool false := HV 2 _ rfl (hW 2 rfl)
                have H := Lib.hid (show ∀ W', Ext W W' → K (fr (upd V 3 (.bool false))) W' from fun W' he => hK _ _ ⟨upd V 3 (.bool false), rfl, HV.up 3 _ (fun x hx => Option.some.inj hx), NcJ.ext s0 he⟩)
                have HU := Lib.hid (show (upd V 3 (.bool false)) 2 = .bool false from e2)
                clear hK hC hW hL HV s0
                rw [HFR.out]
                rw [e2]
                clear e2
                go_wp2_with fail
                show K _ _
                have := H.out _ (Ext.refl _)
                rw [HFR.out] at this
                obtain u2 := HU.out
                rw [u2] at this
                exact this
              · rintro L A W K hL hC hW ⟨V, rfl, HV, s0⟩ hK
                have e3 : V 3 = .bool false := HV 3 _ rfl (hW 3 rfl)
                have H := Lib.hid (show ∀ W', Ext W W' → K (fr (upd V 4 (.pointer (some ⟨g4, 1, none⟩)))) W' from fun W' he => hK _ _ ⟨upd V 4 (.pointer (some ⟨g4, 1, none⟩)), rfl, HV.up 4 _ (fun x hx => Option.some.inj hx), NcJ.ext s0 he⟩)
                have HU := Lib.hid (show (upd V 4 (.pointer (some ⟨g4, 1, none⟩))) 3 = .bool false from e3)
                clear hK hC hW hL HV s0
                rw [HFR.out]
                rw [e3]
                clear e3
                go_wp2_with fail
                show K _ _
                have := H.out _ (Ext.refl _)
                rw [HFR.out] at this
                obtain u3 := HU.out
                rw [u3] at this
                exact this
              · rintro L A W K hL hC hW ⟨V, rfl, HV, s0⟩ hK
                have e3 : V 3 = .bool false := HV 3 _ rfl (hW 3 rfl)
                have e4 : V 4 = .pointer (some ⟨g4, 1, none⟩) := HV 4 _ rfl (hW 4 rfl)
                have hB := s0
                have H := Lib.hid (show ∀ W', Ext W W' → K (fr (upd V 5 (wv p.key))) W' from fun W' he => hK _ _ ⟨upd V 5 (wv p.key), rfl, HV.up 5 _ (fun x hx => Option.some.inj hx), NcJ.ext s0 he⟩)
                have HU := Lib.hid (show (upd V 5 (wv p.key)) 3 = .bool false ∧ (upd V 5 (wv p.key)) 4 = .pointer (some ⟨g4, 1, none⟩) from ⟨e3, e4⟩)
                clear hK hC hW hL HV s0
                rw [HFR.out]
                rw [e3, e4]
                clear e3 e4
                have HWW := Lib.hid hB.1.key
                clear hB
                refine wpList_load_wordIn rfl (.tmp 16) rfl g4 1 p.key rfl HWW.out ?_
                show K _ _
                have := H.out _ (Ext.refl _)
                rw [HFR.out] at this
                obtain ⟨u3, u4⟩ := HU.out
                rw [u3, u4] at this
                exact this
              · rintro L A W K hL hC hW ⟨V, rfl, HV, s0⟩ hK
                have e3 : V 3 = .bool false := HV 3 _ rfl (hW 3 rfl)
                have e5 : V 5 = wv p.key := HV 5 _ rfl (hW 5 rfl)
                have hB := s0
                have H := Lib.hid (show ∀ W', Ext W W' → K (fr (upd V 6 (.bool true))) W' from fun W' he => hK _ _ ⟨upd V 6 (.bool true), rfl, HV.up 6 _ (fun x hx => Option.some.inj hx), NcJ.ext s0 he⟩)
                have HU := Lib.hid (show (upd V 6 (.bool true)) 3 = .bool false ∧ (upd V 6 (.bool true)) 5 = wv p.key from ⟨e3, e5⟩)
                clear hK hC hW hL HV s0
                rw [HFR.out]
                rw [e3, e5]
                clear e3 e5
                clear hB
                go_wp2_with fail
                refine ((refKey_any p.key _).mono (fun _ _ h => show _ = Ending.returned (.bool true) ∧ _ from by rw [← HKB.out]; exact h)).mono ?_
                rintro e wx ⟨rfl, he⟩
                have := H.out _ he
                clear H
                go_wp2_with fail
                show K _ _
                rw [HFR.out] at this
                obtain ⟨u3, u5⟩ := HU.out
                rw [u3, u5] at this
                exact this
              · rintro L A W K hL hC hW ⟨V, rfl, HV, s0⟩ hK
                have e3 : V 3 = .bool false := HV 3 _ rfl (hW 3 rfl)
                have e6 : V 6 = .bool true := HV 6 _ rfl (hW 6 rfl)
                have H := Lib.hid (show ∀ W', Ext W W' → K (fr (upd V 7 (.bool false))) W' from fun W' he => hK _ _ ⟨upd V 7 (.bool false), rfl, HV.up 7 _ (fun x hx => Option.some.inj hx), NcJ.ext s0 he⟩)
                have HU := Lib.hid (show (upd V 7 (.bool false)) 3 = .bool false ∧ (upd V 7 (.bool false)) 6 = .bool true from ⟨e3, e6⟩)
                clear hK hC hW hL HV s0
                rw [HFR.out]
                rw [e3, e6]
                clear e3 e6
                go_wp2_with fail
                show K _ _
                have := H.out _ (Ext.refl _)
                rw [HFR.out] at this
                obtain ⟨u3, u6⟩ := HU.out
                rw [u3, u6] at this
                exact this
              · rintro L A W K hL hC hW ⟨V, rfl, HV, s0⟩ hK
                have e3 : V 3 = .bool false := HV 3 _ rfl (hW 3 rfl)
                have e7 : V 7 = .bool false := HV 7 _ rfl (hW 7 rfl)
                have H := Lib.hid (show ∀ W', Ext W W' → K (fr (upd V 8 (.bool false))) W' from fun W' he => hK _ _ ⟨upd V 8 (.bool false), rfl, HV.up 8 _ (fun x hx => Option.some.inj hx), NcJ.ext s0 he⟩)
                have HU := Lib.hid (show (upd V 8 (.bool false)) 3 = .bool false ∧ (upd V 8 (.bool false)) 7 = .bool false from ⟨e3, e7⟩)
                clear hK hC hW hL HV s0
                rw [HFR.out]
                rw [e3, e7]
                clear e3 e7
                go_wp2_with fail
                show K _ _
                have := H.out _ (Ext.refl _)
                rw [HFR.out] at this
                obtain ⟨u3, u7⟩ := HU.out
                rw [u3, u7] at this
                exact this
              · rintro L A W K hL hC hW ⟨V, rfl, HV, s0⟩ hK
                have e8 : V 8 = .bool false := HV 8 _ rfl (hW 8 rfl)
                have H := Lib.hid (show ∀ W', Ext W W' → K (fr (upd V 9 (.bool false))) W' from fun W' he => hK _ _ ⟨upd V 9 (.bool false), rfl, HV.up 9 _ (fun x hx => Option.some.inj hx), NcJ.ext s0 he⟩)
                have HU := Lib.hid (show (upd V 9 (.bool false)) 8 = .bool false from e8)
                clear hK hC hW hL HV s0
                rw [HFR.out]
                rw [e8]
                clear e8
                go_wp2_with fail
                show K _ _
                have := H.out _ (Ext.refl _)
                rw [HFR.out] at this
                obtain u8 := HU.out
                rw [u8] at this
                exact this
              · rintro L A W K hL hC hW ⟨V, rfl, HV, s0⟩ hK
                have e9 : V 9 = .bool false := HV 9 _ rfl (hW 9 rfl)
                have H := Lib.hid (show ∀ W', Ext W W' → K (fr (upd V 10 (.pointer (some ⟨g4, 5, none⟩)))) W' from fun W' he => hK _ _ ⟨upd V 10 (.pointer (some ⟨g4, 5, none⟩)), rfl, HV.up 10 _ (fun x hx => Option.some.inj hx), NcJ.ext s0 he⟩)
                have HU := Lib.hid (show (upd V 10 (.pointer (some ⟨g4, 5, none⟩))) 9 = .bool false from e9)
                clear hK hC hW hL HV s0
                rw [HFR.out]
                rw [e9]
                clear e9
                go_wp2_with fail
                show K _ _
                have := H.out _ (Ext.refl _)
                rw [HFR.out] at this
                obtain u9 := HU.out
                rw [u9] at this
                exact this
              · rintro L A W K hL hC hW ⟨V, rfl, HV, s0⟩ hK
                have e9 : V 9 = .bool false := HV 9 _ rfl (hW 9 rfl)
                have e10 : V 10 = .pointer (some ⟨g4, 5, none⟩) := HV 10 _ rfl (hW 10 rfl)
                have hB := s0
                have H := Lib.hid (show ∀ W', Ext W W' → K (fr (upd V 11 (.int .u64 (p.nxt : Nat)))) W' from fun W' he => hK _ _ ⟨upd V 11 (.int .u64 (p.nxt : Nat)), rfl, HV.up 11 _ (fun x hx => Option.some.inj hx), NcJ.ext s0 he⟩)
                have HU := Lib.hid (show (upd V 11 (.int .u64 (p.nxt : Nat))) 9 = .bool false ∧ (upd V 11 (.int .u64 (p.nxt : Nat))) 10 = .pointer (some ⟨g4, 5, none⟩) from ⟨e9, e10⟩)
                clear hK hC hW hL HV s0
                rw [HFR.out]
                rw [e9, e10]
                clear e9 e10
                have qq := hB.1.nxt
                clear hB
                go_wp2_with fail
                show K _ _
                have := H.out _ (Ext.refl _)
                rw [HFR.out] at this
                obtain ⟨u9, u10⟩ := HU.out
                rw [u9, u10] at this
                exact this
              · rintro L A W K hL hC hW ⟨V, rfl, HV, s0⟩ hK
                have e9 : V 9 = .bool false := HV 9 _ rfl (hW 9 rfl)
                have e11 : V 11 = .int .u64 (p.nxt : Nat) := HV 11 _ rfl (hW 11 rfl)
                have H := Lib.hid (show ∀ W', Ext W W' → K (fr (upd V 12 (.bool false))) W' from fun W' he => hK _ _ ⟨upd V 12 (.bool false), rfl, HV.up 12 _ (fun x hx => Option.some.inj hx), NcJ.ext s0 he⟩)
                have HU := Lib.hid (show (upd V 12 (.bool false)) 9 = .bool false ∧ (upd V 12 (.bool false)) 11 = .int .u64 (p.nxt : Nat) from ⟨e9, e11⟩)
                clear hK hC hW hL HV s0
                rw [HFR.out]
                rw [e9, e11]
                clear e9 e11
                go_wp2_with fail
                show K _ _
                have := H.out _ (Ext.refl _)
                rw [HFR.out] at this
                obtain ⟨u9, u11⟩ := HU.out
                rw [u9, u11] at this
                exact this
              · rintro L A W K hL hC hW ⟨V, rfl, HV, s0⟩ hK
                have e9 : V 9 = .bool false := HV 9 _ rfl (hW 9 rfl)
                have e12 : V 12 = .bool false := HV 12 _ rfl (hW 12 rfl)
                have H := Lib.hid (show ∀ W', Ext W W' → K (fr (upd V 13 (.bool false))) W' from fun W' he => hK _ _ ⟨upd V 13 (.bool false), rfl, HV.up 13 _ (fun x hx => Option.some.inj hx), NcJ.ext s0 he⟩)
                have HU := Lib.hid (show (upd V 13 (.bool false)) 9 = .bool false ∧ (upd V 13 (.bool false)) 12 = .bool false from ⟨e9, e12⟩)
                clear hK hC hW hL HV s0
                rw [HFR.out]
                rw [e9, e12]
                clear e9 e12
                go_wp2_with fail
                show K _ _
                have := H.out _ (Ext.refl _)
                rw [HFR.out] at this
                obtain ⟨u9, u12⟩ := HU.out
                rw [u9, u12] at this
                exact this
              · rintro L A W K hL hC hW ⟨V, rfl, HV, s0⟩ hK
                have e13 : V 13 = .bool false := HV 13 _ rfl (hW 13 rfl)
                have H := Lib.hid (show ∀ W', Ext W W' → K (fr (upd V 14 (.bool false))) W' from fun W' he => hK _ _ ⟨upd V 14 (.bool false), rfl, HV.up 14 _ (fun x hx => Option.some.inj hx), NcJ.ext s0 he⟩)
                have HU := Lib.hid (show (upd V 14 (.bool false)) 13 = .bool false from e13)
                clear hK hC hW hL HV s0
                rw [HFR.out]
                rw [e13]
                clear e13
                go_wp2_with fail
                show K _ _
                have := H.out _ (Ext.refl _)
                rw [HFR.out] at this
                obtain u13 := HU.out
                rw [u13] at this
                exact this
              · rintro L A W K hL hC hW ⟨V, rfl, HV, s0⟩ hK
                have e14 : V 14 = .bool false := HV 14 _ rfl (hW 14 rfl)
                have H := Lib.hid (show ∀ W', Ext W W' → K (fr (upd V 15 (.int .i64 (0 : Nat)))) W' from fun W' he => hK _ _ ⟨upd V 15 (.int .i64 (0 : Nat)), rfl, HV.up 15 _ (fun x hx => Option.some.inj hx), NcJ.ext s0 he⟩)
                have HU := Lib.hid (show (upd V 15 (.int .i64 (0 : Nat))) 14 = .bool false from e14)
                clear hK hC hW hL HV s0
                rw [HFR.out]
                rw [e14]
                clear e14
                go_wp2_with fail
                show K _ _
                have := H.out _ (Ext.refl _)
                rw [HFR.out] at this
                obtain u14 := HU.out
                rw [u14] at this
                exact this
              · rintro L A W K hL hC hW ⟨V, rfl, HV, s0⟩ hK
                have e14 : V 14 = .bool false := HV 14 _ rfl (hW 14 rfl)
                have e15 : V 15 = .int .i64 (0 : Nat) := HV 15 _ rfl (hW 15 rfl)
                have H := Lib.hid (show ∀ W', Ext W W' → K (fr (upd V 16 (.bool false))) W' from fun W' he => hK _ _ ⟨upd V 16 (.bool false), rfl, HV.up 16 _ (fun x hx => Option.some.inj hx), NcJ.ext s0 he⟩)
                have HU := Lib.hid (show (upd V 16 (.bool false)) 14 = .bool false ∧ (upd V 16 (.bool false)) 15 = .int .i64 (0 : Nat) from ⟨e14, e15⟩)
                clear hK hC hW hL HV s0
                rw [HFR.out]
                rw [e14, e15]
                clear e14 e15
                go_wp2_with fail
                show K _ _
                have := H.out _ (Ext.refl _)
                rw [HFR.out] at this
                obtain ⟨u14, u15⟩ := HU.out
                rw [u14, u15] at this
                exact this
              · rintro L A W K hL hC hW ⟨V, rfl, HV, s0⟩ hK
                have e14 : V 14 = .bool false := HV 14 _ rfl (hW 14 rfl)
                have e16 : V 16 = .bool false := HV 16 _ rfl (hW 16 rfl)
                have H := Lib.hid (show ∀ W', Ext W W' → K (fr (upd V 17 (.bool false))) W' from fun W' he => hK _ _ ⟨upd V 17 (.bool false), rfl, HV.up 17 _ (fun x hx => Option.some.inj hx), NcJ.ext s0 he⟩)
                have HU := Lib.hid (show (upd V 17 (.bool false)) 14 = .bool false ∧ (upd V 17 (.bool false)) 16 = .bool false from ⟨e14, e16⟩)
                clear hK hC hW hL HV s0
                rw [HFR.out]
                rw [e14, e16]
                clear e14 e16
                go_wp2_with fail
                show K _ _
                have := H.out _ (Ext.refl _)
                rw [HFR.out] at this
                obtain ⟨u14, u16⟩ := HU.out
                rw [u14, u16] at this
                exact this
              · rintro L A W K hL hC hW ⟨V, rfl, HV, s0⟩ hK
                have e17 : V 17 = .bool false := HV 17 _ rfl (hW 17 rfl)
                have H := Lib.hid (show ∀ W', Ext W W' → K (fr (upd V 18 (undef))) W' from fun W' he => hK _ _ ⟨upd V 18 (undef), rfl, HV.up 18 _ (fun x hx => Option.some.inj hx), NcJ.ext s0 he⟩)
                have HU := Lib.hid (show (upd V 18 (undef)) 17 = .bool false from e17)
                clear hK hC hW hL HV s0
                rw [HFR.out]
                rw [e17]
                clear e17
                go_wp2_with fail
                show K _ _
                have := H.out _ (Ext.refl _)
                rw [HFR.out] at this
                obtain u17 := HU.out
                rw [u17] at this
                exact this
              · rintro L A W K hL hC hW ⟨V, rfl, HV, s0⟩ hK
                have e17 : V 17 = .bool false := HV 17 _ rfl (hW 17 rfl)
                have H := Lib.hid (show ∀ W', Ext W W' → K (fr (upd V 19 (undef))) W' from fun W' he => hK _ _ ⟨upd V 19 (undef), rfl, HV.up 19 _ (fun x hx => Option.some.inj hx), NcJ.ext s0 he⟩)
                have HU := Lib.hid (show (upd V 19 (undef)) 17 = .bool false from e17)
                clear hK hC hW hL HV s0
                rw [HFR.out]
                rw [e17]
                clear e17
                go_wp2_with fail
                show K _ _
                have := H.out _ (Ext.refl _)
                rw [HFR.out] at this
                obtain u17 := HU.out
                rw [u17] at this
                exact this
              · rintro L A W K hL hC hW ⟨V, rfl, HV, s0⟩ hK
                have e17 : V 17 = .bool false := HV 17 _ rfl (hW 17 rfl)
                have e19 : V 19 = undef := HV 19 _ rfl (hW 19 rfl)
                have H := Lib.hid (show ∀ W', Ext W W' → K (fr (upd V 20 (undef))) W' from fun W' he => hK _ _ ⟨upd V 20 (undef), rfl, HV.up 20 _ (fun x hx => Option.some.inj hx), NcJ.ext s0 he⟩)
                have HU := Lib.hid (show (upd V 20 (undef)) 17 = .bool false ∧ (upd V 20 (undef)) 19 = undef from ⟨e17, e19⟩)
                clear hK hC hW hL HV s0
                rw [HFR.out]
                rw [e17, e19]
                clear e17 e19
                go_wp2_with fail
                show K _ _
                have := H.out _ (Ext.refl _)
                rw [HFR.out] at this
                obtain ⟨u17, u19⟩ := HU.out
                rw [u17, u19] at this
                exact this
              · rintro L A W K hL hC hW ⟨V, rfl, HV, s0⟩ hK
                have e17 : V 17 = .bool false := HV 17 _ rfl (hW 17 rfl)
                have e18 : V 18 = undef := HV 18 _ rfl (hW 18 rfl)
                have e20 : V 20 = undef := HV 20 _ rfl (hW 20 rfl)
                have H := Lib.hid (show ∀ W', Ext W W' → K (fr (upd V 21 (undef))) W' from fun W' he => hK _ _ ⟨upd V 21 (undef), rfl, HV.up 21 _ (fun x hx => Option.some.inj hx), NcJ.ext s0 he⟩)
                have HU := Lib.hid (show (upd V 21 (undef)) 17 = .bool false ∧ (upd V 21 (undef)) 18 = undef ∧ (upd V 21 (undef)) 20 = undef from ⟨e17, e18, e20⟩)
                clear hK hC hW hL HV s0
                rw [HFR.out]
                rw [e17, e18, e20]
                clear e17 e18 e20
                go_wp2_with fail
                show K _ _
                have := H.out _ (Ext.refl _)
                rw [HFR.out] at this
                obtain ⟨u17, u18, u20⟩ := HU.out
                rw [u17, u18, u20] at this
                exact this
              · rintro L A W K hL hC hW ⟨V, rfl, HV, s0⟩ hK
                have e17 : V 17 = .bool false := HV 17 _ rfl (hW 17 rfl)
                have e21 : V 21 = undef := HV 21 _ rfl (hW 21 rfl)
                have H := Lib.hid (show ∀ W', Ext W W' → K (fr (upd V 22 (undef))) W' from fun W' he => hK _ _ ⟨upd V 22 (undef), rfl, HV.up 22 _ (fun x hx => Option.some.inj hx), NcJ.ext s0 he⟩)
                have HU := Lib.hid (show (upd V 22 (undef)) 17 = .bool false ∧ (upd V 22 (undef)) 21 = undef from ⟨e17, e21⟩)
                clear hK hC hW hL HV s0
                rw [HFR.out]
                rw [e17, e21]
                clear e17 e21
                go_wp2_with fail
                show K _ _
                have := H.out _ (Ext.refl _)
                rw [HFR.out] at this
                obtain ⟨u17, u21⟩ := HU.out
                rw [u17, u21] at this
                exact this
              · rintro L A W K hL hC hW ⟨V, rfl, HV, s0⟩ hK
                have e17 : V 17 = .bool false := HV 17 _ rfl (hW 17 rfl)
                have H := Lib.hid (show ∀ W', Ext W W' → K (fr (upd V 23 (undef))) W' from fun W' he => hK _ _ ⟨upd V 23 (undef), rfl, HV.up 23 _ (fun x hx => Option.some.inj hx), NcJ.ext s0 he⟩)
                have HU := Lib.hid (show (upd V 23 (undef)) 17 = .bool false from e17)
                clear hK hC hW hL HV s0
                rw [HFR.out]
                rw [e17]
                clear e17
                go_wp2_with fail
                show K _ _
                have := H.out _ (Ext.refl _)
                rw [HFR.out] at this
                obtain u17 := HU.out
                rw [u17] at this
                exact this
              · rintro L A W K hL hC hW ⟨V, rfl, HV, s0⟩ hK
                have e17 : V 17 = .bool false := HV 17 _ rfl (hW 17 rfl)
                have e22 : V 22 = undef := HV 22 _ rfl (hW 22 rfl)
                have e23 : V 23 = undef := HV 23 _ rfl (hW 23 rfl)
                have H := Lib.hid (show ∀ W', Ext W W' → K (fr (upd V 24 (undef))) W' from fun W' he => hK _ _ ⟨upd V 24 (undef), rfl, HV.up 24 _ (fun x hx => Option.some.inj hx), NcJ.ext s0 he⟩)
                have HU := Lib.hid (show (upd V 24 (undef)) 17 = .bool false ∧ (upd V 24 (undef)) 22 = undef ∧ (upd V 24 (undef)) 23 = undef from ⟨e17, e22, e23⟩)
                clear hK hC hW hL HV s0
                rw [HFR.out]
                rw [e17, e22, e23]
                clear e17 e22 e23
                go_wp2_with fail
                show K _ _
                have := H.out _ (Ext.refl _)
                rw [HFR.out] at this
                obtain ⟨u17, u22, u23⟩ := HU.out
                rw [u17, u22, u23] at this
                exact this
              · rintro L A W K hL hC hW ⟨V, rfl, HV, s0⟩ hK
                have e17 : V 17 = .bool false := HV 17 _ rfl (hW 17 rfl)
                have e24 : V 24 = undef := HV 24 _ rfl (hW 24 rfl)
                have H := Lib.hid (show ∀ W', Ext W W' → K (fr (upd V 25 (undef))) W' from fun W' he => hK _ _ ⟨upd V 25 (undef), rfl, HV.up 25 _ (fun x hx => Option.some.inj hx), NcJ.ext s0 he⟩)
                have HU := Lib.hid (show (upd V 25 (undef)) 17 = .bool false ∧ (upd V 25 (undef)) 24 = undef from ⟨e17, e24⟩)
                clear hK hC hW hL HV s0
                rw [HFR.out]
                rw [e17, e24]
                clear e17 e24
                go_wp2_with fail
                show K _ _
                have := H.out _ (Ext.refl _)
                rw [HFR.out] at this
                obtain ⟨u17, u24⟩ := HU.out
                rw [u17, u24] at this
                exact this
              · rintro L A W K hL hC hW ⟨V, rfl, HV, s0⟩ hK
                have e14 : V 14 = .bool false := HV 14 _ rfl (hW 14 rfl)
                have e17 : V 17 = .bool false := HV 17 _ rfl (hW 17 rfl)
                have e25 : V 25 = undef := HV 25 _ rfl (hW 25 rfl)
                have H := Lib.hid (show ∀ W', Ext W W' → K (fr (upd V 26 (.bool false))) W' from fun W' he => hK _ _ ⟨upd V 26 (.bool false), rfl, HV.up 26 _ (fun x hx => Option.some.inj hx), NcJ.ext s0 he⟩)
                have HU := Lib.hid (show (upd V 26 (.bool false)) 14 = .bool false ∧ (upd V 26 (.bool false)) 17 = .bool false ∧ (upd V 26 (.bool false)) 25 = undef from ⟨e14, e17, e25⟩)
                clear hK hC hW hL HV s0
                rw [HFR.out]
                rw [e14, e17, e25]
                clear e14 e17 e25
                go_wp2_with fail
                show K _ _
                have := H.out _ (Ext.refl _)
                rw [HFR.out] at this
                obtain ⟨u14, u17, u25⟩ := HU.out
                rw [u14, u17, u25] at this
                exact this
              · rintro L A W K hL hC hW ⟨V, rfl, HV, s0⟩ hK
                have e14 : V 14 = .bool false := HV 14 _ rfl (hW 14 rfl)
                have e26 : V 26 = .bool false := HV 26 _ rfl (hW 26 rfl)
                have H := Lib.hid (show ∀ W', Ext W W' → K (fr (upd V 27 (.bool false))) W' from fun W' he => hK _ _ ⟨upd V 27 (.bool false), rfl, HV.up 27 _ (fun x hx => Option.some.inj hx), NcJ.ext s0 he⟩)
                have HU := Lib.hid (show (upd V 27 (.bool false)) 14 = .bool false ∧ (upd V 27 (.bool false)) 26 = .bool false from ⟨e14, e26⟩)
                clear hK hC hW hL HV s0
                rw [HFR.out]
                rw [e14, e26]
                clear e14 e26
                go_wp2_with fail
                show K _ _
                have := H.out _ (Ext.refl _)
                rw [HFR.out] at this
                obtain ⟨u14, u26⟩ := HU.out
                rw [u14, u26] at this
                exact this
              · rintro L A W hL ⟨V, rfl, HV, s0⟩
                have e0 : V 0 = .pointer (some ⟨g4, 0, none⟩) := HV 0 _ rfl (hL 0 (by simp))
                have e1 : V 1 = .int .u64 (p.addr : Nat) := HV 1 _ rfl (hL 1 (by simp))
                have e2 : V 2 = .bool false := HV 2 _ rfl (hL 2 (by simp))
                have e3 : V 3 = .bool false := HV 3 _ rfl (hL 3 (by simp))
                have e4 : V 4 = .pointer (some ⟨g4, 1, none⟩) := HV 4 _ rfl (hL 4 (by simp))
                have e5 : V 5 = wv p.key := HV 5 _ rfl (hL 5 (by simp))
                have e6 : V 6 = .bool true := HV 6 _ rfl (hL 6 (by simp))
                have e7 : V 7 = .bool false := HV 7 _ rfl (hL 7 (by simp))
                have e8 : V 8 = .bool false := HV 8 _ rfl (hL 8 (by simp))
                have e9 : V 9 = .bool false := HV 9 _ rfl (hL 9 (by simp))
                have e10 : V 10 = .pointer (some ⟨g4, 5, none⟩) := HV 10 _ rfl (hL 10 (by simp))
                have e11 : V 11 = .int .u64 (p.nxt : Nat) := HV 11 _ rfl (hL 11 (by simp))
                have e12 : V 12 = .bool false := HV 12 _ rfl (hL 12 (by simp))
                have e13 : V 13 = .bool false := HV 13 _ rfl (hL 13 (by simp))
                have e14 : V 14 = .bool false := HV 14 _ rfl (hL 14 (by simp))
                have e15 : V 15 = .int .i64 (0 : Nat) := HV 15 _ rfl (hL 15 (by simp))
                have e16 : V 16 = .bool false := HV 16 _ rfl (hL 16 (by simp))
                have e17 : V 17 = .bool false := HV 17 _ rfl (hL 17 (by simp))
                have e18 : V 18 = undef := HV 18 _ rfl (hL 18 (by simp))
                have e19 : V 19 = undef := HV 19 _ rfl (hL 19 (by simp))
                have e20 : V 20 = undef := HV 20 _ rfl (hL 20 (by simp))
                have e21 : V 21 = undef := HV 21 _ rfl (hL 21 (by simp))
                have e22 : V 22 = undef := HV 22 _ rfl (hL 22 (by simp))
                have e23 : V 23 = undef := HV 23 _ rfl (hL 23 (by simp))
                have e24 : V 24 = undef := HV 24 _ rfl (hL 24 (by simp))
                have e25 : V 25 = undef := HV 25 _ rfl (hL 25 (by simp))
                have e26 : V 26 = .bool false := HV 26 _ rfl (hL 26 (by simp))
                have e27 : V 27 = .bool false := HV 27 _ rfl (hL 27 (by simp))
                have hA := s0
                rw [HFR.out]
                rw [e0, e1, e2, e3, e4, e5, e6, e7, e8, e9, e10, e11, e12, e13, e14, e15, e16, e17, e18, e19, e20, e21, e22, e23, e24, e25, e26, e27]
                clear hL HV HFR e0 e1 e2 e3 e4 e5 e6 e7 e8 e9 e10 e11 e12 e13 e14 e15 e16 e17 e18 e19 e20 e21 e22 e23 e24 e25 e26 e27 s0
                have HXN := Lib.hid (HXW.out.trans hA.2)
                clear hA
                go_wp2_with fail
                exact ⟨⟨1, by omega, rfl, Lib.hid ⟨fun i hi => by rw [show i = 0 by omega]; exact HT.out, HXN.out⟩⟩, by simp [intOf]; omega⟩
            · obtain ⟨k, rfl⟩ : ∃ j, k = j + 1 := ⟨k - 1, by omega⟩
              have hrq := HQQ.out k rfl
              rw [show k + 1 - 1 = k by omega] at HRG
              obtain ⟨q, hq⟩ : ∃ q, l.getD k nz0 = q := ⟨_, rfl⟩
              rw [hq] at hrq HRG
              clear hq HQQ
              have HQ : Hid (wb.rangeAt bb (oo + k * 6) (nnc q).toList) := Lib.hid (fun j x hx => HXB.out.cell (hrq.1 j x hx))
              have HQK := Lib.hid hrq.2
              clear hrq
              have hd3 : decide (0 < k + 1) = true := decide_eq_true (by omega)
              have hd4 : decide ((0 : Int) < ((k + 1 : Nat) : Int)) = true := decide_eq_true (by omega)
              refine wp_named fun a0 ha0 => ?_
              obtain ⟨fr, hfr⟩ : ∃ fr : (Nat → Value) → Act, ∀ V, fr V = ((((((((((((((((((((((((((((a0.put (some 12) (V 0)).put (some 13) (V 1)).put (some 14) (V 2)).put (some 15) (V 3)).put (some 16) (V 4)).put (some 17) (V 5)).put (some 18) (V 6)).put (some 19) (V 7)).put (some 20) (V 8)).put (some 21) (V 9)).put (some 22) (V 10)).put (some 23) (V 11)).put (some 24) (V 12)).put (some 25) (V 13)).put (some 26) (V 14)).put (some 27) (V 15)).put (some 28) (V 16)).put (some 29) (V 17)).put (some 30) (V 18)).put (some 31) (V 19)).put (some 32) (V 20)).put (some 33) (V 21)).put (some 34) (V 22)).put (some 35) (V 23)).put (some 36) (V 24)).put (some 37) (V 25)).put (some 38) (V 26)).put (some 39) (V 27)) := ⟨fun V => ((((((((((((((((((((((((((((a0.put (some 12) (V 0)).put (some 13) (V 1)).put (some 14) (V 2)).put (some 15) (V 3)).put (some 16) (V 4)).put (some 17) (V 5)).put (some 18) (V 6)).put (some 19) (V 7)).put (some 20) (V 8)).put (some 21) (V 9)).put (some 22) (V 10)).put (some 23) (V 11)).put (some 24) (V 12)).put (some 25) (V 13)).put (some 26) (V 14)).put (some 27) (V 15)).put (some 28) (V 16)).put (some 29) (V 17)).put (some 30) (V 18)).put (some 31) (V 19)).put (some 32) (V 20)).put (some 33) (V 21)).put (some 34) (V 22)).put (some 35) (V 23)).put (some 36) (V 24)).put (some 37) (V 25)).put (some 38) (V 26)).put (some 39) (V 27)), fun _ => rfl⟩
              rw [ha0] at hfr
              simp only [Act.put, List.setIfInBounds_toArray, List.set_cons_zero, List.set_cons_succ] at hfr
              have HFR := Lib.hid hfr
              clear hfr
              refine wp_region_inv (by kernel_rfl) (by kernel_rfl) (fun L A W => ∃ V : Nat → Value, A = fr V ∧ Vals (fun j => ([some (.pointer (some ⟨g4, 0, none⟩)), some (.int .u64 (p.addr : Nat)), some (.bool false), some (.bool false), some (.pointer (some ⟨g4, 1, none⟩)), some (wv p.key), some (.bool true), some (.bool false), some (.bool false), some (.bool false), some (.pointer (some ⟨g4, 5, none⟩)), some (.int .u64 (p.nxt : Nat)), some (.bool false), some (.bool false), some (.bool false), some (.int .i64 ((k + 1 : Nat) : Int)), some (.bool true), some (.bool true), some (.slice (some ⟨bb, oo, none⟩) l.length c), some (.int .i64 ((k + 1 : Nat) : Int)), some (.int .i64 (k : Nat)), some (.pointer (some ⟨bb, oo + k * 6, none⟩)), some (.agg (nnc q)), some (.agg (nnc p)), some (.bool (decide (q.cod < p.cod))), some (.bool (!decide (q.cod < p.cod))), some (.bool (!decide (q.cod < p.cod))), some (.bool (!decide (q.cod < p.cod)))] : List (Option Value)).getD j none) L V ∧ (NcJ wb g4 p W)) ?_ ⟨?_, ?_, ?_, ?_, ?_, ?_, ?_, ?_, ?_, ?_, ?_, ?_, ?_, ?_, ?_, ?_, ?_, ?_, ?_, ?_, ?_, ?_, ?_, ?_, ?_, ?_, ?_, ?_, trivial⟩ ?_
              · refine ⟨fun j => a0.tmps.getD (([12, 13, 14, 15, 16, 17, 18, 19, 20, 21, 22, 23, 24, 25, 26, 27, 28, 29, 30, 31, 32, 33, 34, 35, 36, 37, 38, 39] : List Nat).getD j 0) undef, ?_, Vals.no _ _ _ (far_none _ _ rfl), HJ.out.ext ((Ext.refl _).drew)⟩
                rw [HFR.out, ha0]
                rfl
              all_goals clear ha0
              · rintro L A W K hL hC hW ⟨V, rfl, HV, s0⟩ hK
                have H := Lib.hid (show ∀ W', Ext W W' → K (fr (upd V 0 (.pointer (some ⟨g4, 0, none⟩)))) W' from fun W' he => hK _ _ ⟨upd V 0 (.pointer (some ⟨g4, 0, none⟩)), rfl, HV.up 0 _ (fun x hx => Option.some.inj hx), NcJ.ext s0 he⟩)
                clear hK hC hW hL HV s0
                rw [HFR.out]
                go_wp2_with fail
                show K _ _
                have := H.out _ (Ext.refl _)
                rw [HFR.out] at this
                exact this
              · rintro L A W K hL hC hW ⟨V, rfl, HV, s0⟩ hK
                have e0 : V 0 = .pointer (some ⟨g4, 0, none⟩) := HV 0 _ rfl (hW 0 rfl)
                have hB := s0
                have H := Lib.hid (show ∀ W', Ext W W' → K (fr (upd V 1 (.int .u64 (p.addr : Nat)))) W' from fun W' he => hK _ _ ⟨upd V 1 (.int .u64 (p.addr : Nat)), rfl, HV.up 1 _ (fun x hx => Option.some.inj hx), NcJ.ext s0 he⟩)
                have HU := Lib.hid (show (upd V 1 (.int .u64 (p.addr : Nat))) 0 = .pointer (some ⟨g4, 0, none⟩) from e0)
                clear hK hC hW hL HV s0
                rw [HFR.out]
                rw [e0]
                clear e0
                have qq := hB.1.addr
                clear hB
                go_wp2_with fail
                show K _ _
                have := H.out _ (Ext.refl _)
                rw [HFR.out] at this
                obtain u0 := HU.out
                rw [u0] at this
                exact this
              · rintro L A W K hL hC hW ⟨V, rfl, HV, s0⟩ hK
                have e1 : V 1 = .int .u64 (p.addr : Nat) := HV 1 _ rfl (hW 1 rfl)
                have H := Lib.hid (show ∀ W', Ext W W' → K (fr (upd V 2 (.bool false))) W' from fun W' he => hK _ _ ⟨upd V 2 (.bool false), rfl, HV.up 2 _ (fun x hx => Option.some.inj hx), NcJ.ext s0 he⟩)
                have HU := Lib.hid (show (upd V 2 (.bool false)) 1 = .int .u64 (p.addr : Nat) from e1)
                clear hK hC hW hL HV s0
                rw [HFR.out]
                rw [e1]
                clear e1
                go_wp2_with fail
                show K _ _
                have := H.out _ (Ext.refl _)
                rw [HFR.out] at this
                obtain u1 := HU.out
                rw [u1] at this
                exact this
              · rintro L A W K hL hC hW ⟨V, rfl, HV, s0⟩ hK
                have e2 : V 2 = .bool false := HV 2 _ rfl (hW 2 rfl)
                have H := Lib.hid (show ∀ W', Ext W W' → K (fr (upd V 3 (.bool false))) W' from fun W' he => hK _ _ ⟨upd V 3 (.bool false), rfl, HV.up 3 _ (fun x hx => Option.some.inj hx), NcJ.ext s0 he⟩)
                have HU := Lib.hid (show (upd V 3 (.bool false)) 2 = .bool false from e2)
                clear hK hC hW hL HV s0
                rw [HFR.out]
                rw [e2]
                clear e2
                go_wp2_with fail
                show K _ _
                have := H.out _ (Ext.refl _)
                rw [HFR.out] at this
                obtain u2 := HU.out
                rw [u2] at this
                exact this
              · rintro L A W K hL hC hW ⟨V, rfl, HV, s0⟩ hK
                have e3 : V 3 = .bool false := HV 3 _ rfl (hW 3 rfl)
                have H := Lib.hid (show ∀ W', Ext W W' → K (fr (upd V 4 (.pointer (some ⟨g4, 1, none⟩)))) W' from fun W' he => hK _ _ ⟨upd V 4 (.pointer (some ⟨g4, 1, none⟩)), rfl, HV.up 4 _ (fun x hx => Option.some.inj hx), NcJ.ext s0 he⟩)
                have HU := Lib.hid (show (upd V 4 (.pointer (some ⟨g4, 1, none⟩))) 3 = .bool false from e3)
                clear hK hC hW hL HV s0
                rw [HFR.out]
                rw [e3]
                clear e3
                go_wp2_with fail
                show K _ _
                have := H.out _ (Ext.refl _)
                rw [HFR.out] at this
                obtain u3 := HU.out
                rw [u3] at this
                exact this
              · rintro L A W K hL hC hW ⟨V, rfl, HV, s0⟩ hK
                have e3 : V 3 = .bool false := HV 3 _ rfl (hW 3 rfl)
                have e4 : V 4 = .pointer (some ⟨g4, 1, none⟩) := HV 4 _ rfl (hW 4 rfl)
                have hB := s0
                have H := Lib.hid (show ∀ W', Ext W W' → K (fr (upd V 5 (wv p.key))) W' from fun W' he => hK _ _ ⟨upd V 5 (wv p.key), rfl, HV.up 5 _ (fun x hx => Option.some.inj hx), NcJ.ext s0 he⟩)
                have HU := Lib.hid (show (upd V 5 (wv p.key)) 3 = .bool false ∧ (upd V 5 (wv p.key)) 4 = .pointer (some ⟨g4, 1, none⟩) from ⟨e3, e4⟩)
                clear hK hC hW hL HV s0
                rw [HFR.out]
                rw [e3, e4]
                clear e3 e4
                have HWW := Lib.hid hB.1.key
                clear hB
                refine wpList_load_wordIn rfl (.tmp 16) rfl g4 1 p.key rfl HWW.out ?_
                show K _ _
                have := H.out _ (Ext.refl _)
                rw [HFR.out] at this
                obtain ⟨u3, u4⟩ := HU.out
                rw [u3, u4] at this
                exact this
              · rintro L A W K hL hC hW ⟨V, rfl, HV, s0⟩ hK
                have e3 : V 3 = .bool false := HV 3 _ rfl (hW 3 rfl)
                have e5 : V 5 = wv p.key := HV 5 _ rfl (hW 5 rfl)
                have hB := s0
                have H := Lib.hid (show ∀ W', Ext W W' → K (fr (upd V 6 (.bool true))) W' from fun W' he => hK _ _ ⟨upd V 6 (.bool true), rfl, HV.up 6 _ (fun x hx => Option.some.inj hx), NcJ.ext s0 he⟩)
                have HU := Lib.hid (show (upd V 6 (.bool true)) 3 = .bool false ∧ (upd V 6 (.bool true)) 5 = wv p.key from ⟨e3, e5⟩)
                clear hK hC hW hL HV s0
                rw [HFR.out]
                rw [e3, e5]
                clear e3 e5
                clear hB
                go_wp2_with fail
                refine ((refKey_any p.key _).mono (fun _ _ h => show _ = Ending.returned (.bool true) ∧ _ from by rw [← HKB.out]; exact h)).mono ?_
                rintro e wx ⟨rfl, he⟩
                have := H.out _ he
                clear H
                go_wp2_with fail
                show K _ _
                rw [HFR.out] at this
                obtain ⟨u3, u5⟩ := HU.out
                rw [u3, u5] at this
                exact this
              · rintro L A W K hL hC hW ⟨V, rfl, HV, s0⟩ hK
                have e3 : V 3 = .bool false := HV 3 _ rfl (hW 3 rfl)
                have e6 : V 6 = .bool true := HV 6 _ rfl (hW 6 rfl)
                have H := Lib.hid (show ∀ W', Ext W W' → K (fr (upd V 7 (.bool false))) W' from fun W' he => hK _ _ ⟨upd V 7 (.bool false), rfl, HV.up 7 _ (fun x hx => Option.some.inj hx), NcJ.ext s0 he⟩)
                have HU := Lib.hid (show (upd V 7 (.bool false)) 3 = .bool false ∧ (upd V 7 (.bool false)) 6 = .bool true from ⟨e3, e6⟩)
                clear hK hC hW hL HV s0
                rw [HFR.out]
                rw [e3, e6]
                clear e3 e6
                go_wp2_with fail
                show K _ _
                have := H.out _ (Ext.refl _)
                rw [HFR.out] at this
                obtain ⟨u3, u6⟩ := HU.out
                rw [u3, u6] at this
                exact this
              · rintro L A W K hL hC hW ⟨V, rfl, HV, s0⟩ hK
                have e3 : V 3 = .bool false := HV 3 _ rfl (hW 3 rfl)
                have e7 : V 7 = .bool false := HV 7 _ rfl (hW 7 rfl)
                have H := Lib.hid (show ∀ W', Ext W W' → K (fr (upd V 8 (.bool false))) W' from fun W' he => hK _ _ ⟨upd V 8 (.bool false), rfl, HV.up 8 _ (fun x hx => Option.some.inj hx), NcJ.ext s0 he⟩)
                have HU := Lib.hid (show (upd V 8 (.bool false)) 3 = .bool false ∧ (upd V 8 (.bool false)) 7 = .bool false from ⟨e3, e7⟩)
                clear hK hC hW hL HV s0
                rw [HFR.out]
                rw [e3, e7]
                clear e3 e7
                go_wp2_with fail
                show K _ _
                have := H.out _ (Ext.refl _)
                rw [HFR.out] at this
                obtain ⟨u3, u7⟩ := HU.out
                rw [u3, u7] at this
                exact this
              · rintro L A W K hL hC hW ⟨V, rfl, HV, s0⟩ hK
                have e8 : V 8 = .bool false := HV 8 _ rfl (hW 8 rfl)
                have H := Lib.hid (show ∀ W', Ext W W' → K (fr (upd V 9 (.bool false))) W' from fun W' he => hK _ _ ⟨upd V 9 (.bool false), rfl, HV.up 9 _ (fun x hx => Option.some.inj hx), NcJ.ext s0 he⟩)
                have HU := Lib.hid (show (upd V 9 (.bool false)) 8 = .bool false from e8)
                clear hK hC hW hL HV s0
                rw [HFR.out]
                rw [e8]
                clear e8
                go_wp2_with fail
                show K _ _
                have := H.out _ (Ext.refl _)
                rw [HFR.out] at this
                obtain u8 := HU.out
                rw [u8] at this
                exact this
              · rintro L A W K hL hC hW ⟨V, rfl, HV, s0⟩ hK
                have e9 : V 9 = .bool false := HV 9 _ rfl (hW 9 rfl)
                have H := Lib.hid (show ∀ W', Ext W W' → K (fr (upd V 10 (.pointer (some ⟨g4, 5, none⟩)))) W' from fun W' he => hK _ _ ⟨upd V 10 (.pointer (some ⟨g4, 5, none⟩)), rfl, HV.up 10 _ (fun x hx => Option.some.inj hx), NcJ.ext s0 he⟩)
                have HU := Lib.hid (show (upd V 10 (.pointer (some ⟨g4, 5, none⟩))) 9 = .bool false from e9)
                clear hK hC hW hL HV s0
                rw [HFR.out]
                rw [e9]
                clear e9
                go_wp2_with fail
                show K _ _
                have := H.out _ (Ext.refl _)
                rw [HFR.out] at this
                obtain u9 := HU.out
                rw [u9] at this
                exact this
              · rintro L A W K hL hC hW ⟨V, rfl, HV, s0⟩ hK
                have e9 : V 9 = .bool false := HV 9 _ rfl (hW 9 rfl)
                have e10 : V 10 = .pointer (some ⟨g4, 5, none⟩) := HV 10 _ rfl (hW 10 rfl)
                have hB := s0
                have H := Lib.hid (show ∀ W', Ext W W' → K (fr (upd V 11 (.int .u64 (p.nxt : Nat)))) W' from fun W' he => hK _ _ ⟨upd V 11 (.int .u64 (p.nxt : Nat)), rfl, HV.up 11 _ (fun x hx => Option.some.inj hx), NcJ.ext s0 he⟩)
                have HU := Lib.hid (show (upd V 11 (.int .u64 (p.nxt : Nat))) 9 = .bool false ∧ (upd V 11 (.int .u64 (p.nxt : Nat))) 10 = .pointer (some ⟨g4, 5, none⟩) from ⟨e9, e10⟩)
                clear hK hC hW hL HV s0
                rw [HFR.out]
                rw [e9, e10]
                clear e9 e10
                have qq := hB.1.nxt
                clear hB
                go_wp2_with fail
                show K _ _
                have := H.out _ (Ext.refl _)
                rw [HFR.out] at this
                obtain ⟨u9, u10⟩ := HU.out
                rw [u9, u10] at this
                exact this
              · rintro L A W K hL hC hW ⟨V, rfl, HV, s0⟩ hK
                have e9 : V 9 = .bool false := HV 9 _ rfl (hW 9 rfl)
                have e11 : V 11 = .int .u64 (p.nxt : Nat) := HV 11 _ rfl (hW 11 rfl)
                have H := Lib.hid (show ∀ W', Ext W W' → K (fr (upd V 12 (.bool false))) W' from fun W' he => hK _ _ ⟨upd V 12 (.bool false), rfl, HV.up 12 _ (fun x hx => Option.some.inj hx), NcJ.ext s0 he⟩)
                have HU := Lib.hid (show (upd V 12 (.bool false)) 9 = .bool false ∧ (upd V 12 (.bool false)) 11 = .int .u64 (p.nxt : Nat) from ⟨e9, e11⟩)
                clear hK hC hW hL HV s0
                rw [HFR.out]
                rw [e9, e11]
                clear e9 e11
                go_wp2_with fail
                show K _ _
                have := H.out _ (Ext.refl _)
                rw [HFR.out] at this
                obtain ⟨u9, u11⟩ := HU.out
                rw [u9, u11] at this
                exact this
              · rintro L A W K hL hC hW ⟨V, rfl, HV, s0⟩ hK
                have e9 : V 9 = .bool false := HV 9 _ rfl (hW 9 rfl)
                have e12 : V 12 = .bool false := HV 12 _ rfl (hW 12 rfl)
                have H := Lib.hid (show ∀ W', Ext W W' → K (fr (upd V 13 (.bool false))) W' from fun W' he => hK _ _ ⟨upd V 13 (.bool false), rfl, HV.up 13 _ (fun x hx => Option.some.inj hx), NcJ.ext s0 he⟩)
                have HU := Lib.hid (show (upd V 13 (.bool false)) 9 = .bool false ∧ (upd V 13 (.bool false)) 12 = .bool false from ⟨e9, e12⟩)
                clear hK hC hW hL HV s0
                rw [HFR.out]
                rw [e9, e12]
                clear e9 e12
                go_wp2_with fail
                show K _ _
                have := H.out _ (Ext.refl _)
                rw [HFR.out] at this
                obtain ⟨u9, u12⟩ := HU.out
                rw [u9, u12] at this
                exact this
              · rintro L A W K hL hC hW ⟨V, rfl, HV, s0⟩ hK
                have e13 : V 13 = .bool false := HV 13 _ rfl (hW 13 rfl)
                have H := Lib.hid (show ∀ W', Ext W W' → K (fr (upd V 14 (.bool false))) W' from fun W' he => hK _ _ ⟨upd V 14 (.bool false), rfl, HV.up 14 _ (fun x hx => Option.some.inj hx), NcJ.ext s0 he⟩)
                have HU := Lib.hid (show (upd V 14 (.bool false)) 13 = .bool false from e13)
                clear hK hC hW hL HV s0
                rw [HFR.out]
                rw [e13]
                clear e13
                go_wp2_with fail
                show K _ _
                have := H.out _ (Ext.refl _)
                rw [HFR.out] at this
                obtain u13 := HU.out
                rw [u13] at this
                exact this
              · rintro L A W K hL hC hW ⟨V, rfl, HV, s0⟩ hK
                have e14 : V 14 = .bool false := HV 14 _ rfl (hW 14 rfl)
                have H := Lib.hid (show ∀ W', Ext W W' → K (fr (upd V 15 (.int .i64 ((k + 1 : Nat) : Int)))) W' from fun W' he => hK _ _ ⟨upd V 15 (.int .i64 ((k + 1 : Nat) : Int)), rfl, HV.up 15 _ (fun x hx => Option.some.inj hx), NcJ.ext s0 he⟩)
                have HU := Lib.hid (show (upd V 15 (.int .i64 ((k + 1 : Nat) : Int))) 14 = .bool false from e14)
                clear hK hC hW hL HV s0
                rw [HFR.out]
                rw [e14]
                clear e14
                go_wp2_with fail
                show K _ _
                have := H.out _ (Ext.refl _)
                rw [HFR.out] at this
                obtain u14 := HU.out
                rw [u14] at this
                exact this
              · rintro L A W K hL hC hW ⟨V, rfl, HV, s0⟩ hK
                have e14 : V 14 = .bool false := HV 14 _ rfl (hW 14 rfl)
                have e15 : V 15 = .int .i64 ((k + 1 : Nat) : Int) := HV 15 _ rfl (hW 15 rfl)
                have H := Lib.hid (show ∀ W', Ext W W' → K (fr (upd V 16 (.bool true))) W' from fun W' he => hK _ _ ⟨upd V 16 (.bool true), rfl, HV.up 16 _ (fun x hx => Option.some.inj hx), NcJ.ext s0 he⟩)
                have HU := Lib.hid (show (upd V 16 (.bool true)) 14 = .bool false ∧ (upd V 16 (.bool true)) 15 = .int .i64 ((k + 1 : Nat) : Int) from ⟨e14, e15⟩)
                clear hK hC hW hL HV s0
                rw [HFR.out]
                rw [e14, e15]
                clear e14 e15
                go_wp2_with fail
                show K _ _
                have := H.out _ (Ext.refl _)
                rw [HFR.out] at this
                obtain ⟨u14, u15⟩ := HU.out
                rw [u14, u15] at this
                exact this
              · rintro L A W K hL hC hW ⟨V, rfl, HV, s0⟩ hK
                have e14 : V 14 = .bool false := HV 14 _ rfl (hW 14 rfl)
                have e16 : V 16 = .bool true := HV 16 _ rfl (hW 16 rfl)
                have H := Lib.hid (show ∀ W', Ext W W' → K (fr (upd V 17 (.bool true))) W' from fun W' he => hK _ _ ⟨upd V 17 (.bool true), rfl, HV.up 17 _ (fun x hx => Option.some.inj hx), NcJ.ext s0 he⟩)
                have HU := Lib.hid (show (upd V 17 (.bool true)) 14 = .bool false ∧ (upd V 17 (.bool true)) 16 = .bool true from ⟨e14, e16⟩)
                clear hK hC hW hL HV s0
                rw [HFR.out]
                rw [e14, e16]
                clear e14 e16
                go_wp2_with fail
                show K _ _
                have := H.out _ (Ext.refl _)
                rw [HFR.out] at this
                obtain ⟨u14, u16⟩ := HU.out
                rw [u14, u16] at this
                exact this
              · rintro L A W K hL hC hW ⟨V, rfl, HV, s0⟩ hK
                have e17 : V 17 = .bool true := HV 17 _ rfl (hW 17 rfl)
                have H := Lib.hid (show ∀ W', Ext W W' → K (fr (upd V 18 (.slice (some ⟨bb, oo, none⟩) l.length c))) W' from fun W' he => hK _ _ ⟨upd V 18 (.slice (some ⟨bb, oo, none⟩) l.length c), rfl, HV.up 18 _ (fun x hx => Option.some.inj hx), NcJ.ext s0 he⟩)
                have HU := Lib.hid (show (upd V 18 (.slice (some ⟨bb, oo, none⟩) l.length c)) 17 = .bool true from e17)
                clear hK hC hW hL HV s0
                rw [HFR.out]
                rw [e17]
                clear e17
                go_wp2_with fail
                show K _ _
                have := H.out _ (Ext.refl _)
                rw [HFR.out] at this
                obtain u17 := HU.out
                rw [u17] at this
                exact this
              · rintro L A W K hL hC hW ⟨V, rfl, HV, s0⟩ hK
                have e17 : V 17 = .bool true := HV 17 _ rfl (hW 17 rfl)
                have H := Lib.hid (show ∀ W', Ext W W' → K (fr (upd V 19 (.int .i64 ((k + 1 : Nat) : Int)))) W' from fun W' he => hK _ _ ⟨upd V 19 (.int .i64 ((k + 1 : Nat) : Int)), rfl, HV.up 19 _ (fun x hx => Option.some.inj hx), NcJ.ext s0 he⟩)
                have HU := Lib.hid (show (upd V 19 (.int .i64 ((k + 1 : Nat) : Int))) 17 = .bool true from e17)
                clear hK hC hW hL HV s0
                rw [HFR.out]
                rw [e17]
                clear e17
                go_wp2_with fail
                show K _ _
                have := H.out _ (Ext.refl _)
                rw [HFR.out] at this
                obtain u17 := HU.out
                rw [u17] at this
                exact this
              · rintro L A W K hL hC hW ⟨V, rfl, HV, s0⟩ hK
                have e17 : V 17 = .bool true := HV 17 _ rfl (hW 17 rfl)
                have e19 : V 19 = .int .i64 ((k + 1 : Nat) : Int) := HV 19 _ rfl (hW 19 rfl)
                have H := Lib.hid (show ∀ W', Ext W W' → K (fr (upd V 20 (.int .i64 (k : Nat)))) W' from fun W' he => hK _ _ ⟨upd V 20 (.int .i64 (k : Nat)), rfl, HV.up 20 _ (fun x hx => Option.some.inj hx), NcJ.ext s0 he⟩)
                have HU := Lib.hid (show (upd V 20 (.int .i64 (k : Nat))) 17 = .bool true ∧ (upd V 20 (.int .i64 (k : Nat))) 19 = .int .i64 ((k + 1 : Nat) : Int) from ⟨e17, e19⟩)
                clear hK hC hW hL HV s0
                rw [HFR.out]
                rw [e17, e19]
                clear e17 e19
                go_wp2_with fail
                show K _ _
                have := H.out _ (Ext.refl _)
                rw [HFR.out] at this
                obtain ⟨u17, u19⟩ := HU.out
                rw [u17, u19] at this
                exact this
              · rintro L A W K hL hC hW ⟨V, rfl, HV, s0⟩ hK
                have e17 : V 17 = .bool true := HV 17 _ rfl (hW 17 rfl)
                have e18 : V 18 = .slice (some ⟨bb, oo, none⟩) l.length c := HV 18 _ rfl (hW 18 rfl)
                have e20 : V 20 = .int .i64 (k : Nat) := HV 20 _ rfl (hW 20 rfl)
                have H := Lib.hid (show ∀ W', Ext W W' → K (fr (upd V 21 (.pointer (some ⟨bb, oo + k * 6, none⟩)))) W' from fun W' he => hK _ _ ⟨upd V 21 (.pointer (some ⟨bb, oo + k * 6, none⟩)), rfl, HV.up 21 _ (fun x hx => Option.some.inj hx), NcJ.ext s0 he⟩)
                have HU := Lib.hid (show (upd V 21 (.pointer (some ⟨bb, oo + k * 6, none⟩))) 17 = .bool true ∧ (upd V 21 (.pointer (some ⟨bb, oo + k * 6, none⟩))) 18 = .slice (some ⟨bb, oo, none⟩) l.length c ∧ (upd V 21 (.pointer (some ⟨bb, oo + k * 6, none⟩))) 20 = .int .i64 (k : Nat) from ⟨e17, e18, e20⟩)
                clear hK hC hW hL HV s0
                rw [HFR.out]
                rw [e17, e18, e20]
                clear e17 e18 e20
                go_wp2_with fail
                show K _ _
                have := H.out _ (Ext.refl _)
                rw [HFR.out] at this
                obtain ⟨u17, u18, u20⟩ := HU.out
                rw [u17, u18, u20] at this
                exact this
              · rintro L A W K hL hC hW ⟨V, rfl, HV, s0⟩ hK
                have e17 : V 17 = .bool true := HV 17 _ rfl (hW 17 rfl)
                have e21 : V 21 = .pointer (some ⟨bb, oo + k * 6, none⟩) := HV 21 _ rfl (hW 21 rfl)
                have hB := s0
                have H := Lib.hid (show ∀ W', Ext W W' → K (fr (upd V 22 (.agg (nnc q)))) W' from fun W' he => hK _ _ ⟨upd V 22 (.agg (nnc q)), rfl, HV.up 22 _ (fun x hx => Option.some.inj hx), NcJ.ext s0 he⟩)
                have HU := Lib.hid (show (upd V 22 (.agg (nnc q))) 17 = .bool true ∧ (upd V 22 (.agg (nnc q))) 21 = .pointer (some ⟨bb, oo + k * 6, none⟩) from ⟨e17, e21⟩)
                clear hK hC hW hL HV s0
                rw [HFR.out]
                rw [e17, e21]
                clear e17 e21
                have HWW := Lib.hid (fun (y : Nat) (x : Value) (hx : (nnc q).toList[y]? = some x) => hB.2.cell (HQ.out y x hx))
                clear hB
                refine wpList_load_nn rfl (.tmp 33) rfl bb (oo + k * 6) q rfl HWW.out ?_
                show K _ _
                have := H.out _ (Ext.refl _)
                rw [HFR.out] at this
                obtain ⟨u17, u21⟩ := HU.out
                rw [u17, u21] at this
                exact this
              · rintro L A W K hL hC hW ⟨V, rfl, HV, s0⟩ hK
                have e17 : V 17 = .bool true := HV 17 _ rfl (hW 17 rfl)
                have hB := s0
                have H := Lib.hid (show ∀ W', Ext W W' → K (fr (upd V 23 (.agg (nnc p)))) W' from fun W' he => hK _ _ ⟨upd V 23 (.agg (nnc p)), rfl, HV.up 23 _ (fun x hx => Option.some.inj hx), NcJ.ext s0 he⟩)
                have HU := Lib.hid (show (upd V 23 (.agg (nnc p))) 17 = .bool true from e17)
                clear hK hC hW hL HV s0
                rw [HFR.out]
                rw [e17]
                clear e17
                have HWW := Lib.hid (Cs.rg hB.1)
                clear hB
                refine wpList_load_nn rfl (.tmp 4) rfl g4 0 p rfl HWW.out ?_
                show K _ _
                have := H.out _ (Ext.refl _)
                rw [HFR.out] at this
                obtain u17 := HU.out
                rw [u17] at this
                exact this
              · rintro L A W K hL hC hW ⟨V, rfl, HV, s0⟩ hK
                have e17 : V 17 = .bool true := HV 17 _ rfl (hW 17 rfl)
                have e22 : V 22 = .agg (nnc q) := HV 22 _ rfl (hW 22 rfl)
                have e23 : V 23 = .agg (nnc p) := HV 23 _ rfl (hW 23 rfl)
                have hB := s0
                have H := Lib.hid (show ∀ W', Ext W W' → K (fr (upd V 24 (.bool (decide (q.cod < p.cod))))) W' from fun W' he => hK _ _ ⟨upd V 24 (.bool (decide (q.cod < p.cod))), rfl, HV.up 24 _ (fun x hx => Option.some.inj hx), NcJ.ext s0 he⟩)
                have HU := Lib.hid (show (upd V 24 (.bool (decide (q.cod < p.cod)))) 17 = .bool true ∧ (upd V 24 (.bool (decide (q.cod < p.cod)))) 22 = .agg (nnc q) ∧ (upd V 24 (.bool (decide (q.cod < p.cod)))) 23 = .agg (nnc p) from ⟨e17, e22, e23⟩)
                clear hK hC hW hL HV s0
                rw [HFR.out]
                rw [e17, e22, e23]
                clear e17 e22 e23
                clear hB
                go_wp2_with fail
                refine (refBefore_any q p _ HQK.out HPK.out).mono ?_
                rintro e wx ⟨rfl, he⟩
                have := H.out _ he
                clear H
                go_wp2_with fail
                show K _ _
                rw [HFR.out] at this
                obtain ⟨u17, u22, u23⟩ := HU.out
                rw [u17, u22, u23] at this
                exact this
              · rintro L A W K hL hC hW ⟨V, rfl, HV, s0⟩ hK
                have e17 : V 17 = .bool true := HV 17 _ rfl (hW 17 rfl)
                have e24 : V 24 = .bool (decide (q.cod < p.cod)) := HV 24 _ rfl (hW 24 rfl)
                have H := Lib.hid (show ∀ W', Ext W W' → K (fr (upd V 25 (.bool (!decide (q.cod < p.cod))))) W' from fun W' he => hK _ _ ⟨upd V 25 (.bool (!decide (q.cod < p.cod))), rfl, HV.up 25 _ (fun x hx => Option.some.inj hx), NcJ.ext s0 he⟩)
                have HU := Lib.hid (show (upd V 25 (.bool (!decide (q.cod < p.cod)))) 17 = .bool true ∧ (upd V 25 (.bool (!decide (q.cod < p.cod)))) 24 = .bool (decide (q.cod < p.cod)) from ⟨e17, e24⟩)
                clear hK hC hW hL HV s0
                rw [HFR.out]
                rw [e17, e24]
                clear e17 e24
                go_wp2_with fail
                show K _ _
                have := H.out _ (Ext.refl _)
                rw [HFR.out] at this
                obtain ⟨u17, u24⟩ := HU.out
                rw [u17, u24] at this
                exact this
              · rintro L A W K hL hC hW ⟨V, rfl, HV, s0⟩ hK
                have e14 : V 14 = .bool false := HV 14 _ rfl (hW 14 rfl)
                have e17 : V 17 = .bool true := HV 17 _ rfl (hW 17 rfl)
                have e25 : V 25 = .bool (!decide (q.cod < p.cod)) := HV 25 _ rfl (hW 25 rfl)
                have H := Lib.hid (show ∀ W', Ext W W' → K (fr (upd V 26 (.bool (!decide (q.cod < p.cod))))) W' from fun W' he => hK _ _ ⟨upd V 26 (.bool (!decide (q.cod < p.cod))), rfl, HV.up 26 _ (fun x hx => Option.some.inj hx), NcJ.ext s0 he⟩)
                have HU := Lib.hid (show (upd V 26 (.bool (!decide (q.cod < p.cod)))) 14 = .bool false ∧ (upd V 26 (.bool (!decide (q.cod < p.cod)))) 17 = .bool true ∧ (upd V 26 (.bool (!decide (q.cod < p.cod)))) 25 = .bool (!decide (q.cod < p.cod)) from ⟨e14, e17, e25⟩)
                clear hK hC hW hL HV s0
                rw [HFR.out]
                rw [e14, e17, e25]
                clear e14 e17 e25
                go_wp2_with fail
                show K _ _
                have := H.out _ (Ext.refl _)
                rw [HFR.out] at this
                obtain ⟨u14, u17, u25⟩ := HU.out
                rw [u14, u17, u25] at this
                exact this
              · rintro L A W K hL hC hW ⟨V, rfl, HV, s0⟩ hK
                have e14 : V 14 = .bool false := HV 14 _ rfl (hW 14 rfl)
                have e26 : V 26 = .bool (!decide (q.cod < p.cod)) := HV 26 _ rfl (hW 26 rfl)
                have H := Lib.hid (show ∀ W', Ext W W' → K (fr (upd V 27 (.bool (!decide (q.cod < p.cod))))) W' from fun W' he => hK _ _ ⟨upd V 27 (.bool (!decide (q.cod < p.cod))), rfl, HV.up 27 _ (fun x hx => Option.some.inj hx), NcJ.ext s0 he⟩)
                have HU := Lib.hid (show (upd V 27 (.bool (!decide (q.cod < p.cod)))) 14 = .bool false ∧ (upd V 27 (.bool (!decide (q.cod < p.cod)))) 26 = .bool (!decide (q.cod < p.cod)) from ⟨e14, e26⟩)
                clear hK hC hW hL HV s0
                rw [HFR.out]
                rw [e14, e26]
                clear e14 e26
                go_wp2_with fail
                show K _ _
                have := H.out _ (Ext.refl _)
                rw [HFR.out] at this
                obtain ⟨u14, u26⟩ := HU.out
                rw [u14, u26] at this
                exact this
              · rintro L A W hL ⟨V, rfl, HV, s0⟩
                have e0 : V 0 = .pointer (some ⟨g4, 0, none⟩) := HV 0 _ rfl (hL 0 (by simp))
                have e1 : V 1 = .int .u64 (p.addr : Nat) := HV 1 _ rfl (hL 1 (by simp))
                have e2 : V 2 = .bool false := HV 2 _ rfl (hL 2 (by simp))
                have e3 : V 3 = .bool false := HV 3 _ rfl (hL 3 (by simp))
                have e4 : V 4 = .pointer (some ⟨g4, 1, none⟩) := HV 4 _ rfl (hL 4 (by simp))
                have e5 : V 5 = wv p.key := HV 5 _ rfl (hL 5 (by simp))
                have e6 : V 6 = .bool true := HV 6 _ rfl (hL 6 (by simp))
                have e7 : V 7 = .bool false := HV 7 _ rfl (hL 7 (by simp))
                have e8 : V 8 = .bool false := HV 8 _ rfl (hL 8 (by simp))
                have e9 : V 9 = .bool false := HV 9 _ rfl (hL 9 (by simp))
                have e10 : V 10 = .pointer (some ⟨g4, 5, none⟩) := HV 10 _ rfl (hL 10 (by simp))
                have e11 : V 11 = .int .u64 (p.nxt : Nat) := HV 11 _ rfl (hL 11 (by simp))
                have e12 : V 12 = .bool false := HV 12 _ rfl (hL 12 (by simp))
                have e13 : V 13 = .bool false := HV 13 _ rfl (hL 13 (by simp))
                have e14 : V 14 = .bool false := HV 14 _ rfl (hL 14 (by simp))
                have e15 : V 15 = .int .i64 ((k + 1 : Nat) : Int) := HV 15 _ rfl (hL 15 (by simp))
                have e16 : V 16 = .bool true := HV 16 _ rfl (hL 16 (by simp))
                have e17 : V 17 = .bool true := HV 17 _ rfl (hL 17 (by simp))
                have e18 : V 18 = .slice (some ⟨bb, oo, none⟩) l.length c := HV 18 _ rfl (hL 18 (by simp))
                have e19 : V 19 = .int .i64 ((k + 1 : Nat) : Int) := HV 19 _ rfl (hL 19 (by simp))
                have e20 : V 20 = .int .i64 (k : Nat) := HV 20 _ rfl (hL 20 (by simp))
                have e21 : V 21 = .pointer (some ⟨bb, oo + k * 6, none⟩) := HV 21 _ rfl (hL 21 (by simp))
                have e22 : V 22 = .agg (nnc q) := HV 22 _ rfl (hL 22 (by simp))
                have e23 : V 23 = .agg (nnc p) := HV 23 _ rfl (hL 23 (by simp))
                have e24 : V 24 = .bool (decide (q.cod < p.cod)) := HV 24 _ rfl (hL 24 (by simp))
                have e25 : V 25 = .bool (!decide (q.cod < p.cod)) := HV 25 _ rfl (hL 25 (by simp))
                have e26 : V 26 = .bool (!decide (q.cod < p.cod)) := HV 26 _ rfl (hL 26 (by simp))
                have e27 : V 27 = .bool (!decide (q.cod < p.cod)) := HV 27 _ rfl (hL 27 (by simp))
                have hA := s0
                rw [HFR.out]
                rw [e0, e1, e2, e3, e4, e5, e6, e7, e8, e9, e10, e11, e12, e13, e14, e15, e16, e17, e18, e19, e20, e21, e22, e23, e24, e25, e26, e27]
                clear hL HV HFR e0 e1 e2 e3 e4 e5 e6 e7 e8 e9 e10 e11 e12 e13 e14 e15 e16 e17 e18 e19 e20 e21 e22 e23 e24 e25 e26 e27 s0
                have HXN := Lib.hid (HXW.out.trans hA.2)
                clear hA
                cases hx : decide (q.cod < p.cod) with
                | false =>
                  have HF := Lib.hid (rightN_row (k + 1) hlt (by rw [HRG.out, HMT.out, hx]; simp))
                  clear hx
                  go_wp2_with fail
                  refine bodyPost_ret (results_tmp rfl _ _ _) rfl ?_
                  exact ⟨by rw [HF.out]; rfl, HXN.out⟩
                | true =>
                  have HT := Lib.hid (show rgN l (k + 1) = true by rw [HRG.out, HMT.out, hx]; simp)
                  clear hx
                  go_wp2_with fail
                  exact ⟨⟨k + 1 + 1, by omega, by go_num, Lib.hid ⟨fun i hi => by
                    rcases Nat.lt_or_ge i (k + 1) with h | h
                    · exact HIB.out i h
                    · obtain rfl : i = k + 1 := by omega
                      exact HT.out, HXN.out⟩⟩, by simp [intOf]; omega⟩
    · obtain rfl : k = l.length := by omega
      have hd : decide (l.length < l.length) = false := decide_eq_false (by omega)
      have hd2 : decide ((l.length : Int) < (l.length : Int)) = false := decide_eq_false (by omega)
      have HX := Lib.hid HJ0.out.2
      by_cases h48 : l.length ≤ 48
      · have e1 : decide (l.length ≤ 48) = true := decide_eq_true h48
        have e2 : decide ((l.length : Int) ≤ 48) = true := decide_eq_true (by omega)
        have HF := Lib.hid (rightN_all h48 HJ0.out.1)
        clear h48
        go_wp2_with fail
        refine bodyPost_ret (results_tmp rfl _ _ _) rfl ?_
        exact ⟨by rw [HF.out]; rfl, HX.out⟩
      · have e1 : decide (l.length ≤ 48) = false := decide_eq_false h48
        have e2 : decide ((l.length : Int) ≤ 48) = false := decide_eq_false (by omega)
        have HF := Lib.hid (rightN_long h48)
        clear h48
        go_wp2_with fail
        refine bodyPost_ret (results_tmp rfl _ _ _) rfl ?_
        exact ⟨by rw [HF.out]; rfl, HX.out⟩
set_option maxRecDepth 100000 in
set_option maxHeartbeats 4000000 in
theorem refNextN_any (v : Value) (l : List Nn) (a k : Nat) (w : World) (hs : Nns w v l) (hr : RiseN l) (hk : k < M256) : Calls Try.prog 26 #[v, .int .u64 (a : Nat), wv k] w fun e w' => e = .returned (.int .u64 ((rowN l a k).nxt : Nat)) ∧ Ext w w' := by
  have HS := Lib.hid hs
  have HRI := Lib.hid hr
  have HK := Lib.hid hk
  have HOK := Lib.hid hs.oks
  obtain ⟨A1, c, rfl, h1, h2⟩ := hs.len
  unfold maxLen at h2
  clear hs hr hk
  obtain ⟨w0, hw0⟩ : ∃ w0, w.alloc (.cells (wc k) 29) = w0 := ⟨_, rfl⟩
  have HW0 := Lib.hid hw0
  have HB : Hid (Wd w0 w.heap.size 29 k) := Lib.hid (by rw [← hw0]; exact Cs.new _ _ _ _ rfl)
  have HE : Hid (Ext w w0) := Lib.hid (by rw [← hw0]; exact (Ext.refl w).alloc _)
  clear hw0
  rw [show wv k = .agg (wc k) from rfl]
  obtain ⟨kc, hkc⟩ : ∃ kc, wc k = kc := ⟨_, rfl⟩
  rw [hkc] at HW0
  rw [hkc]
  clear hkc
  go_enter Try.func26, Try.ntmps26
  go_upto_region 1 with fail
  rw [HW0.out]
  clear HW0
  obtain ⟨g5, hg5⟩ : ∃ g, w.heap.size = g := ⟨_, rfl⟩
  rw [hg5] at HB ⊢
  clear hg5
  go_wp2_with fail
  go_loopw [11] (fun iv wr => ∃ i : Nat, i ≤ l.length ∧ iv = .int .i64 i ∧ Hid ((∀ j, j < i → (l.getD j nz0).cod ≠ cdN a k) ∧ Ext w0 wr)) (fun iv _ => l.length - (intOf iv).toNat)
  case atStart => exact ⟨0, by omega, rfl, Lib.hid ⟨fun i hi => absurd hi (by omega), Ext.refl _⟩⟩
  case round =>
    obtain ⟨i, hi, rfl, HJ0⟩ := hrel
    have HX := Lib.hid (HE.out.trans HJ0.out.2)
    by_cases hlt : i < l.length
    · have hd : decide (i < l.length) = true := decide_eq_true hlt
      have hd2 : decide ((i : Int) < (l.length : Int)) = true := decide_eq_true (by omega)
      obtain ⟨bb, oo, rfl, hrg, hp⟩ := (HS.out.ext HX.out).at i hlt
      have HR := Lib.hid hrg
      have HPK := Lib.hid hp.2.1
      have HMEM := Lib.hid (getN_mem hlt)
      have HZS := Lib.hid HJ0.out.2.size
      have HNX := Lib.hid (show (l.getD i nz0).cod ≠ cdN a k → ∀ j, j < i + 1 → (l.getD j nz0).cod ≠ cdN a k from fun h j hj => by
        rcases Nat.lt_or_ge j i with h1 | h1
        · exact HJ0.out.1 j h1
        · obtain rfl : j = i := by omega
          exact h)
      have HBW := Lib.hid (Wd.ext HB.out HJ0.out.2)
      clear hrg hp
      generalize l.getD i nz0 = p at *
      go_upto_region 4 with (first
        | ((with_reducible refine wpList_load_nn ?_ (.tmp 13) ?_ bb (oo + i * 6) p ?_ ?_ ?_); (exact rfl); (exact rfl); (exact rfl); (exact HR.out))
        | ((with_reducible refine wpList_store_nn ?_ ?_ (.tmp 8) (.tmp 14) ?_ wr.heap.size nz0 p ?_ ?_ ?_ ?_); (exact rfl); (exact rfl); (exact rfl); (exact rfl); (exact rfl); (exact (Cs.new _ _ _ _ rfl)); intro wb kb gb; have KB := Lib.hid kb; have c0 := kb.addr; have c5 := kb.nxt; have GB := Lib.hid gb; clear kb gb))
      have HXB := Lib.hid ((HJ0.out.2.alloc (.cells (nnc nz0) 38)).grown GB.out HZS.out)
      have HXW := Lib.hid (HE.out.trans HXB.out)
      have HB5 := Lib.hid (Cs.rg (Wd.kept (Wd.ext HBW.out ((Ext.refl _).alloc (.cells (nnc nz0) 38))) GB.out (some_ne (Nat.ne_of_lt (Wd.lt HBW.out)))))
      have HKK := Lib.hid KB.out.key
      clear hd hd2 HR HBW KB GB
      by_cases hpa : p.addr = a
      · have hf : ((p.addr : Int) == (a : Int)) = true := by rw [beq_iff_eq]; omega
        by_cases hpk : p.key = k
        · have hf2 : (p.key == k) = true := by rw [beq_iff_eq]; exact hpk
          have HV := Lib.hid (show rowN l a k = p by rw [← hpa, ← hpk]; exact rowN_mem HRI.out HMEM.out)
          clear hpa hpk
          go_wp2_with (first
            | ((with_reducible refine wpList_load_wordIn ?_ (.tmp 20) ?_ wr.heap.size 1 (p.key) ?_ ?_ ?_); (exact rfl); (exact rfl); (exact rfl); (exact HKK.out))
            | ((with_reducible refine wpList_load_wordIn ?_ (.tmp 5) ?_ g5 0 (k) ?_ ?_ ?_); (exact rfl); (exact rfl); (exact rfl); (exact HB5.out))
            | ((with_reducible refine wpList_eql_word ?_ (.tmp 21) (.tmp 22) ?_ p.key k HPK.out HK.out ?_ ?_ ?_); (exact rfl); (exact rfl); (exact rfl); (exact rfl); rw [hf2]))
          refine bodyPost_ret (results_tmp rfl _ _ _) rfl ?_
          exact ⟨by rw [HV.out]; rfl, HXW.out⟩
        · have hf2 : (p.key == k) = false := by rw [beq_eq_false_iff_ne]; exact hpk
          have HN := Lib.hid (HNX.out (fun e => hpk (cdN_inj HPK.out HK.out e).2))
          clear hpa hpk
          go_wp2_with (first
            | ((with_reducible refine wpList_load_wordIn ?_ (.tmp 20) ?_ wr.heap.size 1 (p.key) ?_ ?_ ?_); (exact rfl); (exact rfl); (exact rfl); (exact HKK.out))
            | ((with_reducible refine wpList_load_wordIn ?_ (.tmp 5) ?_ g5 0 (k) ?_ ?_ ?_); (exact rfl); (exact rfl); (exact rfl); (exact HB5.out))
            | ((with_reducible refine wpList_eql_word ?_ (.tmp 21) (.tmp 22) ?_ p.key k HPK.out HK.out ?_ ?_ ?_); (exact rfl); (exact rfl); (exact rfl); (exact rfl); rw [hf2]))
          exact ⟨⟨i + 1, by omega, by go_num, Lib.hid ⟨HN.out, HXB.out⟩⟩, by simp [intOf]; omega⟩
      · have hf : ((p.addr : Int) == (a : Int)) = false := by rw [beq_eq_false_iff_ne]; omega
        have HN := Lib.hid (HNX.out (fun e => hpa (cdN_inj HPK.out HK.out e).1))
        clear hpa
        go_wp2_with fail
        exact ⟨⟨i + 1, by omega, by go_num, Lib.hid ⟨HN.out, HXB.out⟩⟩, by simp [intOf]; omega⟩
    · obtain rfl : i = l.length := by omega
      have hd : decide (l.length < l.length) = false := decide_eq_false (by omega)
      have hd2 : decide ((l.length : Int) < (l.length : Int)) = false := decide_eq_false (by omega)
      have HV := Lib.hid (show (rowN l a k).nxt = 0 by
        rw [rowN_none HRI.out (fun p hp => by
          obtain ⟨j, hj, rfl⟩ := memN_get hp
          exact HJ0.out.1 j hj)])
      go_wp2_with fail
      refine bodyPost_ret (results_tmp rfl _ _ _) rfl ?_
      exact ⟨by rw [HV.out]; rfl, HX.out⟩
end Go.Proofs.Ytepggbhibpjkpaa
