/- Package pack: the document's Same. -/
import Derived.Test.YtdlllihfibjabaaPkt
namespace Go.Proofs.Ytdlllihfibjabaa
open Go.RowKit Go.Shelf

set_option maxRecDepth 100000 in
theorem rng0 {W : World} {b o : Nat} {p : Pt} {u : Value} (h : W.rangeAt b o (ptc p u).toList) : W.cell? ⟨b, o, none⟩ = some (.bool p.1) := h 0 _ rfl
set_option maxRecDepth 100000 in
theorem rng5 {W : World} {b o : Nat} {p : Pt} {u : Value} (h : W.rangeAt b o (ptc p u).toList) : W.cell? ⟨b, o + 5, none⟩ = some u := h 5 _ rfl
set_option maxRecDepth 100000 in
theorem rngW {W : World} {b o : Nat} {p : Pt} {u : Value} (h : W.rangeAt b o (ptc p u).toList) : W.rangeAt b (o + 1) (wc p.2.1).toList := fun j v hv => by
  have hj : j < 4 := by have := (List.getElem?_eq_some_iff.1 hv).1; simpa [wc] using this
  rw [Nat.add_assoc]
  match j, hj with
  | 0, _ => exact h 1 v hv
  | 1, _ => exact h 2 v hv
  | 2, _ => exact h 3 v hv
  | 3, _ => exact h 4 v hv
/-- Two parts in the midst of rows. -/
def ScJ (w : World) (b1 o1 : Nat) (p : Pt) (u1 : Value) (b2 o2 : Nat) (q : Pt) (u2 : Value) (W : World) : Prop :=
  W.rangeAt b1 o1 (ptc p u1).toList ∧ W.rangeAt b2 o2 (ptc q u2).toList ∧ Bs W u1 p.2.2 ∧ Bs W u2 q.2.2 ∧ Ext w W
set_option maxRecDepth 100000 in
theorem ScJ.ext {w : World} {b1 o1 : Nat} {p : Pt} {u1 : Value} {b2 o2 : Nat} {q : Pt} {u2 : Value} {W W' : World} (h : ScJ w b1 o1 p u1 b2 o2 q u2 W) (he : Ext W W') : ScJ w b1 o1 p u1 b2 o2 q u2 W' :=
  ⟨fun j x hx => he.cell (h.1 j x hx), fun j x hx => he.cell (h.2.1 j x hx), h.2.2.1.ext he, h.2.2.2.1.ext he, h.2.2.2.2.trans he⟩
set_option maxRecDepth 100000 in
theorem samP_no1 (p q : Pt) (h : (p.1 != q.1) = true) : (p == q) = false := by
  rw [beq_eq_false_iff_ne]
  rintro rfl
  simp at h
set_option maxRecDepth 100000 in
theorem samP_no2 (p q : Pt) (h : (p.2.1 != q.2.1) = true) : (p == q) = false := by
  rw [beq_eq_false_iff_ne]
  rintro rfl
  simp at h
set_option maxRecDepth 100000 in
theorem samP_at (p q : Pt) (h1 : (p.1 != q.1) = false) (h2 : (p.2.1 != q.2.1) = false) : (p == q) = (p.2.2 == q.2.2) := by
  rw [← samP_eq]
  unfold samP
  have e1 : (p.1 == q.1) = true := by simpa using h1
  have e2 : (p.2.1 == q.2.1) = true := by simpa using h2
  rw [e1, e2]
  rfl

set_option maxRecDepth 100000 in
set_option maxHeartbeats 2000000 in
theorem refSameL_any (v1 v2 : Value) (a b : List Pt) (w : World) (h1 : Pts w v1 a) (h2 : Pts w v2 b) : Calls Try.prog 21 #[v1, v2] w fun e w' => e = .returned (.bool (a == b)) ∧ Ext w w' := by
  have H1 := Lib.hid h1
  have H2 := Lib.hid h2
  obtain ⟨A1, c, rfl, p1, p2⟩ := h1.len
  obtain ⟨A2, c', rfl, q1, q2⟩ := h2.len
  unfold maxLen at p2 q2
  clear h1 h2
  by_cases hl : a.length = b.length
  · have hd : ((a.length : Int) != (b.length : Int)) = false := by simp [hl]
    have HNE := Lib.hid (fun k h => list_ne_at a b k (false, 0, []) h)
    have HEQ := Lib.hid (fun h => list_eq_all a b (false, 0, []) hl h)
    have HL := Lib.hid hl
    clear hl
    go_enter Try.func21, Try.ntmps21
    go_wp2_with fail
    go_loopw [13] (fun u wr => ∃ k : Nat, k ≤ a.length ∧ u = .int .i64 k ∧ Hid (∀ i, i < k → a.getD i (false, 0, []) = b.getD i (false, 0, [])) ∧ Hid (Ext w wr)) (fun u _ => a.length - (intOf u).toNat)
    case atStart => exact ⟨0, by omega, rfl, Lib.hid fun i hi => absurd hi (by omega), Lib.hid (Ext.refl w)⟩
    case round =>
      obtain ⟨k, hk, rfl, HS, HE⟩ := hrel
      by_cases hlt : k < a.length
      · have hdk : decide (k < a.length) = true := decide_eq_true hlt
        have hkb : k < b.length := by have := HL.out; omega
        obtain ⟨b1, o1, u1, rfl, hr1, hu1, hw1⟩ := (H1.out.ext HE.out).at k hlt
        obtain ⟨b2, o2, u2, rfl, hr2, hu2, hw2⟩ := (H2.out.ext HE.out).at k hkb
        have HW1 := Lib.hid hw1
        have HW2 := Lib.hid hw2
        have HNX := Lib.hid (fun (h : (a.getD k (false, 0, []) == b.getD k (false, 0, [])) = true) i (hi : i < k + 1) => (show a.getD i (false, 0, []) = b.getD i (false, 0, []) from by
          by_cases e : i = k
          · rw [e]; simpa using h
          · exact HS.out i (by omega)))
        have HNK := Lib.hid (HNE.out k)
        have HJ0 : Hid (ScJ w b1 (o1 + k * 6) (a.getD k (false, 0, [])) u1 b2 (o2 + k * 6) (b.getD k (false, 0, [])) u2 wr) := Lib.hid ⟨hr1, hr2, hu1, hu2, HE.out⟩
        clear hr1 hu1 hw1 hr2 hu2 hw2
        generalize a.getD k (false, 0, []) = p at *
        generalize b.getD k (false, 0, []) = q at *
        cases hq1 : (p.1 != q.1) with
        | true =>
          have HF := Lib.hid (HNK.out (samP_no1 p q hq1))
          have hq1b : (p.1 == q.1) = false := by simpa using hq1
          go_upto_region 6 with (fail)
          refine wp_named fun a0 ha0 => ?_
          obtain ⟨fr, hfr⟩ : ∃ fr : (Nat → Value) → Act, ∀ V, fr V = ((((((((((((((((((((((((((((((((((((((a0.put (some 16) (V 0)).put (some 17) (V 1)).put (some 18) (V 2)).put (some 19) (V 3)).put (some 20) (V 4)).put (some 21) (V 5)).put (some 22) (V 6)).put (some 23) (V 7)).put (some 24) (V 8)).put (some 25) (V 9)).put (some 26) (V 10)).put (some 27) (V 11)).put (some 28) (V 12)).put (some 29) (V 13)).put (some 30) (V 14)).put (some 31) (V 15)).put (some 32) (V 16)).put (some 33) (V 17)).put (some 34) (V 18)).put (some 35) (V 19)).put (some 36) (V 20)).put (some 37) (V 21)).put (some 38) (V 22)).put (some 39) (V 23)).put (some 40) (V 24)).put (some 41) (V 25)).put (some 42) (V 26)).put (some 43) (V 27)).put (some 44) (V 28)).put (some 45) (V 29)).put (some 46) (V 30)).put (some 47) (V 31)).put (some 48) (V 32)).put (some 49) (V 33)).put (some 50) (V 34)).put (some 51) (V 35)).put (some 52) (V 36)).put (some 53) (V 37)) := ⟨fun V => ((((((((((((((((((((((((((((((((((((((a0.put (some 16) (V 0)).put (some 17) (V 1)).put (some 18) (V 2)).put (some 19) (V 3)).put (some 20) (V 4)).put (some 21) (V 5)).put (some 22) (V 6)).put (some 23) (V 7)).put (some 24) (V 8)).put (some 25) (V 9)).put (some 26) (V 10)).put (some 27) (V 11)).put (some 28) (V 12)).put (some 29) (V 13)).put (some 30) (V 14)).put (some 31) (V 15)).put (some 32) (V 16)).put (some 33) (V 17)).put (some 34) (V 18)).put (some 35) (V 19)).put (some 36) (V 20)).put (some 37) (V 21)).put (some 38) (V 22)).put (some 39) (V 23)).put (some 40) (V 24)).put (some 41) (V 25)).put (some 42) (V 26)).put (some 43) (V 27)).put (some 44) (V 28)).put (some 45) (V 29)).put (some 46) (V 30)).put (some 47) (V 31)).put (some 48) (V 32)).put (some 49) (V 33)).put (some 50) (V 34)).put (some 51) (V 35)).put (some 52) (V 36)).put (some 53) (V 37)), fun _ => rfl⟩
          rw [ha0] at hfr
          simp only [Act.put, List.setIfInBounds_toArray, List.set_cons_zero, List.set_cons_succ] at hfr
          have HFR := Lib.hid hfr
          clear hfr
          refine wp_region_inv (by kernel_rfl) (by kernel_rfl) (fun L A W => ∃ V : Nat → Value, A = fr V ∧ Vals (fun j => ([some (.slice (some ⟨b1, o1, none⟩) a.length c), some (.int .i64 (k : Nat)), some (.pointer (some ⟨b1, o1 + k * 6, none⟩)), some (.pointer (some ⟨b1, o1 + k * 6, none⟩)), some (.bool p.1), some (.slice (some ⟨b2, o2, none⟩) b.length c'), some (.int .i64 (k : Nat)), some (.pointer (some ⟨b2, o2 + k * 6, none⟩)), some (.pointer (some ⟨b2, o2 + k * 6, none⟩)), some (.bool q.1), some (.bool true), some (.bool true), some (undef), some (undef), some (undef), some (undef), some (undef), some (undef), some (undef), some (undef), some (undef), some (undef), some (undef), some (.bool true), some (.bool true), some (undef), some (undef), some (undef), some (undef), some (undef), some (undef), some (undef), some (undef), some (undef), some (undef), some (undef), some (undef), some (.bool true)] : List (Option Value)).getD j none) L V ∧ (ScJ w b1 (o1 + k * 6) p u1 b2 (o2 + k * 6) q u2 W)) ?_ ⟨?_, ?_, ?_, ?_, ?_, ?_, ?_, ?_, ?_, ?_, ?_, ?_, ?_, ?_, ?_, ?_, ?_, ?_, ?_, ?_, ?_, ?_, ?_, ?_, ?_, ?_, ?_, ?_, ?_, ?_, ?_, ?_, ?_, ?_, ?_, ?_, ?_, ?_, trivial⟩ ?_
          · refine ⟨fun j => a0.tmps.getD (([16, 17, 18, 19, 20, 21, 22, 23, 24, 25, 26, 27, 28, 29, 30, 31, 32, 33, 34, 35, 36, 37, 38, 39, 40, 41, 42, 43, 44, 45, 46, 47, 48, 49, 50, 51, 52, 53] : List Nat).getD j 0) undef, ?_, Vals.no _ _ _ (far_none _ _ rfl), HJ0.out.ext (Ext.refl _).drew⟩
            rw [HFR.out, ha0]
            rfl
          all_goals clear ha0
          · rintro L A W K hL hC hW ⟨V, rfl, HV, s0⟩ hK
            have H := Lib.hid (show ∀ W', Ext W W' → K (fr (upd V 0 (.slice (some ⟨b1, o1, none⟩) a.length c))) W' from fun W' he => hK _ _ ⟨upd V 0 (.slice (some ⟨b1, o1, none⟩) a.length c), rfl, HV.up 0 _ (fun x hx => Option.some.inj hx), ScJ.ext s0 he⟩)
            clear hK hC hW hL HV s0
            rw [HFR.out]
            go_wp2_with fail
            show K _ _
            have := H.out _ (Ext.refl _)
            rw [HFR.out] at this
            exact this
          · rintro L A W K hL hC hW ⟨V, rfl, HV, s0⟩ hK
            have H := Lib.hid (show ∀ W', Ext W W' → K (fr (upd V 1 (.int .i64 (k : Nat)))) W' from fun W' he => hK _ _ ⟨upd V 1 (.int .i64 (k : Nat)), rfl, HV.up 1 _ (fun x hx => Option.some.inj hx), ScJ.ext s0 he⟩)
            clear hK hC hW hL HV s0
            rw [HFR.out]
            go_wp2_with fail
            show K _ _
            have := H.out _ (Ext.refl _)
            rw [HFR.out] at this
            exact this
          · rintro L A W K hL hC hW ⟨V, rfl, HV, s0⟩ hK
            have e0 : V 0 = .slice (some ⟨b1, o1, none⟩) a.length c := HV 0 _ rfl (hW 0 rfl)
            have e1 : V 1 = .int .i64 (k : Nat) := HV 1 _ rfl (hW 1 rfl)
            have H := Lib.hid (show ∀ W', Ext W W' → K (fr (upd V 2 (.pointer (some ⟨b1, o1 + k * 6, none⟩)))) W' from fun W' he => hK _ _ ⟨upd V 2 (.pointer (some ⟨b1, o1 + k * 6, none⟩)), rfl, HV.up 2 _ (fun x hx => Option.some.inj hx), ScJ.ext s0 he⟩)
            have HU := Lib.hid (show (upd V 2 (.pointer (some ⟨b1, o1 + k * 6, none⟩))) 0 = .slice (some ⟨b1, o1, none⟩) a.length c ∧ (upd V 2 (.pointer (some ⟨b1, o1 + k * 6, none⟩))) 1 = .int .i64 (k : Nat) from ⟨e0, e1⟩)
            clear hK hC hW hL HV s0
            rw [HFR.out]
            rw [e0, e1]
            clear e0 e1
            go_wp2_with fail
            show K _ _
            have := H.out _ (Ext.refl _)
            rw [HFR.out] at this
            obtain ⟨u0, u1⟩ := HU.out
            rw [u0, u1] at this
            exact this
          · rintro L A W K hL hC hW ⟨V, rfl, HV, s0⟩ hK
            have e2 : V 2 = .pointer (some ⟨b1, o1 + k * 6, none⟩) := HV 2 _ rfl (hW 2 rfl)
            have H := Lib.hid (show ∀ W', Ext W W' → K (fr (upd V 3 (.pointer (some ⟨b1, o1 + k * 6, none⟩)))) W' from fun W' he => hK _ _ ⟨upd V 3 (.pointer (some ⟨b1, o1 + k * 6, none⟩)), rfl, HV.up 3 _ (fun x hx => Option.some.inj hx), ScJ.ext s0 he⟩)
            have HU := Lib.hid (show (upd V 3 (.pointer (some ⟨b1, o1 + k * 6, none⟩))) 2 = .pointer (some ⟨b1, o1 + k * 6, none⟩) from e2)
            clear hK hC hW hL HV s0
            rw [HFR.out]
            rw [e2]
            clear e2
            go_wp2_with fail
            show K _ _
            have := H.out _ (Ext.refl _)
            rw [HFR.out] at this
            obtain u2 := HU.out
            rw [u2] at this
            exact this
          · rintro L A W K hL hC hW ⟨V, rfl, HV, s0⟩ hK
            have e3 : V 3 = .pointer (some ⟨b1, o1 + k * 6, none⟩) := HV 3 _ rfl (hW 3 rfl)
            have hB := s0
            have H := Lib.hid (show ∀ W', Ext W W' → K (fr (upd V 4 (.bool p.1))) W' from fun W' he => hK _ _ ⟨upd V 4 (.bool p.1), rfl, HV.up 4 _ (fun x hx => Option.some.inj hx), ScJ.ext s0 he⟩)
            have HU := Lib.hid (show (upd V 4 (.bool p.1)) 3 = .pointer (some ⟨b1, o1 + k * 6, none⟩) from e3)
            clear hK hC hW hL HV s0
            rw [HFR.out]
            rw [e3]
            clear e3
            have hcl := rng0 hB.1
            clear hB
            go_wp2_with fail
            show K _ _
            have := H.out _ (Ext.refl _)
            rw [HFR.out] at this
            obtain u3 := HU.out
            rw [u3] at this
            exact this
          · rintro L A W K hL hC hW ⟨V, rfl, HV, s0⟩ hK
            have H := Lib.hid (show ∀ W', Ext W W' → K (fr (upd V 5 (.slice (some ⟨b2, o2, none⟩) b.length c'))) W' from fun W' he => hK _ _ ⟨upd V 5 (.slice (some ⟨b2, o2, none⟩) b.length c'), rfl, HV.up 5 _ (fun x hx => Option.some.inj hx), ScJ.ext s0 he⟩)
            clear hK hC hW hL HV s0
            rw [HFR.out]
            go_wp2_with fail
            show K _ _
            have := H.out _ (Ext.refl _)
            rw [HFR.out] at this
            exact this
          · rintro L A W K hL hC hW ⟨V, rfl, HV, s0⟩ hK
            have H := Lib.hid (show ∀ W', Ext W W' → K (fr (upd V 6 (.int .i64 (k : Nat)))) W' from fun W' he => hK _ _ ⟨upd V 6 (.int .i64 (k : Nat)), rfl, HV.up 6 _ (fun x hx => Option.some.inj hx), ScJ.ext s0 he⟩)
            clear hK hC hW hL HV s0
            rw [HFR.out]
            go_wp2_with fail
            show K _ _
            have := H.out _ (Ext.refl _)
            rw [HFR.out] at this
            exact this
          · rintro L A W K hL hC hW ⟨V, rfl, HV, s0⟩ hK
            have e5 : V 5 = .slice (some ⟨b2, o2, none⟩) b.length c' := HV 5 _ rfl (hW 5 rfl)
            have e6 : V 6 = .int .i64 (k : Nat) := HV 6 _ rfl (hW 6 rfl)
            have H := Lib.hid (show ∀ W', Ext W W' → K (fr (upd V 7 (.pointer (some ⟨b2, o2 + k * 6, none⟩)))) W' from fun W' he => hK _ _ ⟨upd V 7 (.pointer (some ⟨b2, o2 + k * 6, none⟩)), rfl, HV.up 7 _ (fun x hx => Option.some.inj hx), ScJ.ext s0 he⟩)
            have HU := Lib.hid (show (upd V 7 (.pointer (some ⟨b2, o2 + k * 6, none⟩))) 5 = .slice (some ⟨b2, o2, none⟩) b.length c' ∧ (upd V 7 (.pointer (some ⟨b2, o2 + k * 6, none⟩))) 6 = .int .i64 (k : Nat) from ⟨e5, e6⟩)
            clear hK hC hW hL HV s0
            rw [HFR.out]
            rw [e5, e6]
            clear e5 e6
            go_wp2_with fail
            show K _ _
            have := H.out _ (Ext.refl _)
            rw [HFR.out] at this
            obtain ⟨u5, u6⟩ := HU.out
            rw [u5, u6] at this
            exact this
          · rintro L A W K hL hC hW ⟨V, rfl, HV, s0⟩ hK
            have e7 : V 7 = .pointer (some ⟨b2, o2 + k * 6, none⟩) := HV 7 _ rfl (hW 7 rfl)
            have H := Lib.hid (show ∀ W', Ext W W' → K (fr (upd V 8 (.pointer (some ⟨b2, o2 + k * 6, none⟩)))) W' from fun W' he => hK _ _ ⟨upd V 8 (.pointer (some ⟨b2, o2 + k * 6, none⟩)), rfl, HV.up 8 _ (fun x hx => Option.some.inj hx), ScJ.ext s0 he⟩)
            have HU := Lib.hid (show (upd V 8 (.pointer (some ⟨b2, o2 + k * 6, none⟩))) 7 = .pointer (some ⟨b2, o2 + k * 6, none⟩) from e7)
            clear hK hC hW hL HV s0
            rw [HFR.out]
            rw [e7]
            clear e7
            go_wp2_with fail
            show K _ _
            have := H.out _ (Ext.refl _)
            rw [HFR.out] at this
            obtain u7 := HU.out
            rw [u7] at this
            exact this
          · rintro L A W K hL hC hW ⟨V, rfl, HV, s0⟩ hK
            have e8 : V 8 = .pointer (some ⟨b2, o2 + k * 6, none⟩) := HV 8 _ rfl (hW 8 rfl)
            have hB := s0
            have H := Lib.hid (show ∀ W', Ext W W' → K (fr (upd V 9 (.bool q.1))) W' from fun W' he => hK _ _ ⟨upd V 9 (.bool q.1), rfl, HV.up 9 _ (fun x hx => Option.some.inj hx), ScJ.ext s0 he⟩)
            have HU := Lib.hid (show (upd V 9 (.bool q.1)) 8 = .pointer (some ⟨b2, o2 + k * 6, none⟩) from e8)
            clear hK hC hW hL HV s0
            rw [HFR.out]
            rw [e8]
            clear e8
            have hcl := rng0 hB.2.1
            clear hB
            go_wp2_with fail
            show K _ _
            have := H.out _ (Ext.refl _)
            rw [HFR.out] at this
            obtain u8 := HU.out
            rw [u8] at this
            exact this
          · rintro L A W K hL hC hW ⟨V, rfl, HV, s0⟩ hK
            have e4 : V 4 = .bool p.1 := HV 4 _ rfl (hW 4 rfl)
            have e9 : V 9 = .bool q.1 := HV 9 _ rfl (hW 9 rfl)
            have H := Lib.hid (show ∀ W', Ext W W' → K (fr (upd V 10 (.bool true))) W' from fun W' he => hK _ _ ⟨upd V 10 (.bool true), rfl, HV.up 10 _ (fun x hx => Option.some.inj hx), ScJ.ext s0 he⟩)
            have HU := Lib.hid (show (upd V 10 (.bool true)) 4 = .bool p.1 ∧ (upd V 10 (.bool true)) 9 = .bool q.1 from ⟨e4, e9⟩)
            clear hK hC hW hL HV s0
            rw [HFR.out]
            rw [e4, e9]
            clear e4 e9
            go_wp2_with fail
            show K _ _
            have := H.out _ (Ext.refl _)
            rw [HFR.out] at this
            obtain ⟨u4, u9⟩ := HU.out
            rw [u4, u9] at this
            exact this
          · rintro L A W K hL hC hW ⟨V, rfl, HV, s0⟩ hK
            have e10 : V 10 = .bool true := HV 10 _ rfl (hW 10 rfl)
            have H := Lib.hid (show ∀ W', Ext W W' → K (fr (upd V 11 (.bool true))) W' from fun W' he => hK _ _ ⟨upd V 11 (.bool true), rfl, HV.up 11 _ (fun x hx => Option.some.inj hx), ScJ.ext s0 he⟩)
            have HU := Lib.hid (show (upd V 11 (.bool true)) 10 = .bool true from e10)
            clear hK hC hW hL HV s0
            rw [HFR.out]
            rw [e10]
            clear e10
            go_wp2_with fail
            show K _ _
            have := H.out _ (Ext.refl _)
            rw [HFR.out] at this
            obtain u10 := HU.out
            rw [u10] at this
            exact this
          · rintro L A W K hL hC hW ⟨V, rfl, HV, s0⟩ hK
            have e11 : V 11 = .bool true := HV 11 _ rfl (hW 11 rfl)
            have H := Lib.hid (show ∀ W', Ext W W' → K (fr (upd V 12 (undef))) W' from fun W' he => hK _ _ ⟨upd V 12 (undef), rfl, HV.up 12 _ (fun x hx => Option.some.inj hx), ScJ.ext s0 he⟩)
            have HU := Lib.hid (show (upd V 12 (undef)) 11 = .bool true from e11)
            clear hK hC hW hL HV s0
            rw [HFR.out]
            rw [e11]
            clear e11
            go_wp2_with fail
            show K _ _
            have := H.out _ (Ext.refl _)
            rw [HFR.out] at this
            obtain u11 := HU.out
            rw [u11] at this
            exact this
          · rintro L A W K hL hC hW ⟨V, rfl, HV, s0⟩ hK
            have e11 : V 11 = .bool true := HV 11 _ rfl (hW 11 rfl)
            have H := Lib.hid (show ∀ W', Ext W W' → K (fr (upd V 13 (undef))) W' from fun W' he => hK _ _ ⟨upd V 13 (undef), rfl, HV.up 13 _ (fun x hx => Option.some.inj hx), ScJ.ext s0 he⟩)
            have HU := Lib.hid (show (upd V 13 (undef)) 11 = .bool true from e11)
            clear hK hC hW hL HV s0
            rw [HFR.out]
            rw [e11]
            clear e11
            go_wp2_with fail
            show K _ _
            have := H.out _ (Ext.refl _)
            rw [HFR.out] at this
            obtain u11 := HU.out
            rw [u11] at this
            exact this
          · rintro L A W K hL hC hW ⟨V, rfl, HV, s0⟩ hK
            have e11 : V 11 = .bool true := HV 11 _ rfl (hW 11 rfl)
            have e12 : V 12 = undef := HV 12 _ rfl (hW 12 rfl)
            have e13 : V 13 = undef := HV 13 _ rfl (hW 13 rfl)
            have H := Lib.hid (show ∀ W', Ext W W' → K (fr (upd V 14 (undef))) W' from fun W' he => hK _ _ ⟨upd V 14 (undef), rfl, HV.up 14 _ (fun x hx => Option.some.inj hx), ScJ.ext s0 he⟩)
            have HU := Lib.hid (show (upd V 14 (undef)) 11 = .bool true ∧ (upd V 14 (undef)) 12 = undef ∧ (upd V 14 (undef)) 13 = undef from ⟨e11, e12, e13⟩)
            clear hK hC hW hL HV s0
            rw [HFR.out]
            rw [e11, e12, e13]
            clear e11 e12 e13
            go_wp2_with fail
            show K _ _
            have := H.out _ (Ext.refl _)
            rw [HFR.out] at this
            obtain ⟨u11, u12, u13⟩ := HU.out
            rw [u11, u12, u13] at this
            exact this
          · rintro L A W K hL hC hW ⟨V, rfl, HV, s0⟩ hK
            have e11 : V 11 = .bool true := HV 11 _ rfl (hW 11 rfl)
            have e14 : V 14 = undef := HV 14 _ rfl (hW 14 rfl)
            have H := Lib.hid (show ∀ W', Ext W W' → K (fr (upd V 15 (undef))) W' from fun W' he => hK _ _ ⟨upd V 15 (undef), rfl, HV.up 15 _ (fun x hx => Option.some.inj hx), ScJ.ext s0 he⟩)
            have HU := Lib.hid (show (upd V 15 (undef)) 11 = .bool true ∧ (upd V 15 (undef)) 14 = undef from ⟨e11, e14⟩)
            clear hK hC hW hL HV s0
            rw [HFR.out]
            rw [e11, e14]
            clear e11 e14
            go_wp2_with fail
            show K _ _
            have := H.out _ (Ext.refl _)
            rw [HFR.out] at this
            obtain ⟨u11, u14⟩ := HU.out
            rw [u11, u14] at this
            exact this
          · rintro L A W K hL hC hW ⟨V, rfl, HV, s0⟩ hK
            have e11 : V 11 = .bool true := HV 11 _ rfl (hW 11 rfl)
            have e15 : V 15 = undef := HV 15 _ rfl (hW 15 rfl)
            have H := Lib.hid (show ∀ W', Ext W W' → K (fr (upd V 16 (undef))) W' from fun W' he => hK _ _ ⟨upd V 16 (undef), rfl, HV.up 16 _ (fun x hx => Option.some.inj hx), ScJ.ext s0 he⟩)
            have HU := Lib.hid (show (upd V 16 (undef)) 11 = .bool true ∧ (upd V 16 (undef)) 15 = undef from ⟨e11, e15⟩)
            clear hK hC hW hL HV s0
            rw [HFR.out]
            rw [e11, e15]
            clear e11 e15
            go_wp2_with fail
            show K _ _
            have := H.out _ (Ext.refl _)
            rw [HFR.out] at this
            obtain ⟨u11, u15⟩ := HU.out
            rw [u11, u15] at this
            exact this
          · rintro L A W K hL hC hW ⟨V, rfl, HV, s0⟩ hK
            have e11 : V 11 = .bool true := HV 11 _ rfl (hW 11 rfl)
            have H := Lib.hid (show ∀ W', Ext W W' → K (fr (upd V 17 (undef))) W' from fun W' he => hK _ _ ⟨upd V 17 (undef), rfl, HV.up 17 _ (fun x hx => Option.some.inj hx), ScJ.ext s0 he⟩)
            have HU := Lib.hid (show (upd V 17 (undef)) 11 = .bool true from e11)
            clear hK hC hW hL HV s0
            rw [HFR.out]
            rw [e11]
            clear e11
            go_wp2_with fail
            show K _ _
            have := H.out _ (Ext.refl _)
            rw [HFR.out] at this
            obtain u11 := HU.out
            rw [u11] at this
            exact this
          · rintro L A W K hL hC hW ⟨V, rfl, HV, s0⟩ hK
            have e11 : V 11 = .bool true := HV 11 _ rfl (hW 11 rfl)
            have H := Lib.hid (show ∀ W', Ext W W' → K (fr (upd V 18 (undef))) W' from fun W' he => hK _ _ ⟨upd V 18 (undef), rfl, HV.up 18 _ (fun x hx => Option.some.inj hx), ScJ.ext s0 he⟩)
            have HU := Lib.hid (show (upd V 18 (undef)) 11 = .bool true from e11)
            clear hK hC hW hL HV s0
            rw [HFR.out]
            rw [e11]
            clear e11
            go_wp2_with fail
            show K _ _
            have := H.out _ (Ext.refl _)
            rw [HFR.out] at this
            obtain u11 := HU.out
            rw [u11] at this
            exact this
          · rintro L A W K hL hC hW ⟨V, rfl, HV, s0⟩ hK
            have e11 : V 11 = .bool true := HV 11 _ rfl (hW 11 rfl)
            have e17 : V 17 = undef := HV 17 _ rfl (hW 17 rfl)
            have e18 : V 18 = undef := HV 18 _ rfl (hW 18 rfl)
            have H := Lib.hid (show ∀ W', Ext W W' → K (fr (upd V 19 (undef))) W' from fun W' he => hK _ _ ⟨upd V 19 (undef), rfl, HV.up 19 _ (fun x hx => Option.some.inj hx), ScJ.ext s0 he⟩)
            have HU := Lib.hid (show (upd V 19 (undef)) 11 = .bool true ∧ (upd V 19 (undef)) 17 = undef ∧ (upd V 19 (undef)) 18 = undef from ⟨e11, e17, e18⟩)
            clear hK hC hW hL HV s0
            rw [HFR.out]
            rw [e11, e17, e18]
            clear e11 e17 e18
            go_wp2_with fail
            show K _ _
            have := H.out _ (Ext.refl _)
            rw [HFR.out] at this
            obtain ⟨u11, u17, u18⟩ := HU.out
            rw [u11, u17, u18] at this
            exact this
          · rintro L A W K hL hC hW ⟨V, rfl, HV, s0⟩ hK
            have e11 : V 11 = .bool true := HV 11 _ rfl (hW 11 rfl)
            have e19 : V 19 = undef := HV 19 _ rfl (hW 19 rfl)
            have H := Lib.hid (show ∀ W', Ext W W' → K (fr (upd V 20 (undef))) W' from fun W' he => hK _ _ ⟨upd V 20 (undef), rfl, HV.up 20 _ (fun x hx => Option.some.inj hx), ScJ.ext s0 he⟩)
            have HU := Lib.hid (show (upd V 20 (undef)) 11 = .bool true ∧ (upd V 20 (undef)) 19 = undef from ⟨e11, e19⟩)
            clear hK hC hW hL HV s0
            rw [HFR.out]
            rw [e11, e19]
            clear e11 e19
            go_wp2_with fail
            show K _ _
            have := H.out _ (Ext.refl _)
            rw [HFR.out] at this
            obtain ⟨u11, u19⟩ := HU.out
            rw [u11, u19] at this
            exact this
          · rintro L A W K hL hC hW ⟨V, rfl, HV, s0⟩ hK
            have e11 : V 11 = .bool true := HV 11 _ rfl (hW 11 rfl)
            have e20 : V 20 = undef := HV 20 _ rfl (hW 20 rfl)
            have H := Lib.hid (show ∀ W', Ext W W' → K (fr (upd V 21 (undef))) W' from fun W' he => hK _ _ ⟨upd V 21 (undef), rfl, HV.up 21 _ (fun x hx => Option.some.inj hx), ScJ.ext s0 he⟩)
            have HU := Lib.hid (show (upd V 21 (undef)) 11 = .bool true ∧ (upd V 21 (undef)) 20 = undef from ⟨e11, e20⟩)
            clear hK hC hW hL HV s0
            rw [HFR.out]
            rw [e11, e20]
            clear e11 e20
            go_wp2_with fail
            show K _ _
            have := H.out _ (Ext.refl _)
            rw [HFR.out] at this
            obtain ⟨u11, u20⟩ := HU.out
            rw [u11, u20] at this
            exact this
          · rintro L A W K hL hC hW ⟨V, rfl, HV, s0⟩ hK
            have e11 : V 11 = .bool true := HV 11 _ rfl (hW 11 rfl)
            have e16 : V 16 = undef := HV 16 _ rfl (hW 16 rfl)
            have e21 : V 21 = undef := HV 21 _ rfl (hW 21 rfl)
            have H := Lib.hid (show ∀ W', Ext W W' → K (fr (upd V 22 (undef))) W' from fun W' he => hK _ _ ⟨upd V 22 (undef), rfl, HV.up 22 _ (fun x hx => Option.some.inj hx), ScJ.ext s0 he⟩)
            have HU := Lib.hid (show (upd V 22 (undef)) 11 = .bool true ∧ (upd V 22 (undef)) 16 = undef ∧ (upd V 22 (undef)) 21 = undef from ⟨e11, e16, e21⟩)
            clear hK hC hW hL HV s0
            rw [HFR.out]
            rw [e11, e16, e21]
            clear e11 e16 e21
            go_wp2_with fail
            show K _ _
            have := H.out _ (Ext.refl _)
            rw [HFR.out] at this
            obtain ⟨u11, u16, u21⟩ := HU.out
            rw [u11, u16, u21] at this
            exact this
          · rintro L A W K hL hC hW ⟨V, rfl, HV, s0⟩ hK
            have e11 : V 11 = .bool true := HV 11 _ rfl (hW 11 rfl)
            have e22 : V 22 = undef := HV 22 _ rfl (hW 22 rfl)
            have H := Lib.hid (show ∀ W', Ext W W' → K (fr (upd V 23 (.bool true))) W' from fun W' he => hK _ _ ⟨upd V 23 (.bool true), rfl, HV.up 23 _ (fun x hx => Option.some.inj hx), ScJ.ext s0 he⟩)
            have HU := Lib.hid (show (upd V 23 (.bool true)) 11 = .bool true ∧ (upd V 23 (.bool true)) 22 = undef from ⟨e11, e22⟩)
            clear hK hC hW hL HV s0
            rw [HFR.out]
            rw [e11, e22]
            clear e11 e22
            go_wp2_with fail
            show K _ _
            have := H.out _ (Ext.refl _)
            rw [HFR.out] at this
            obtain ⟨u11, u22⟩ := HU.out
            rw [u11, u22] at this
            exact this
          · rintro L A W K hL hC hW ⟨V, rfl, HV, s0⟩ hK
            have e23 : V 23 = .bool true := HV 23 _ rfl (hW 23 rfl)
            have H := Lib.hid (show ∀ W', Ext W W' → K (fr (upd V 24 (.bool true))) W' from fun W' he => hK _ _ ⟨upd V 24 (.bool true), rfl, HV.up 24 _ (fun x hx => Option.some.inj hx), ScJ.ext s0 he⟩)
            have HU := Lib.hid (show (upd V 24 (.bool true)) 23 = .bool true from e23)
            clear hK hC hW hL HV s0
            rw [HFR.out]
            rw [e23]
            clear e23
            go_wp2_with fail
            show K _ _
            have := H.out _ (Ext.refl _)
            rw [HFR.out] at this
            obtain u23 := HU.out
            rw [u23] at this
            exact this
          · rintro L A W K hL hC hW ⟨V, rfl, HV, s0⟩ hK
            have e24 : V 24 = .bool true := HV 24 _ rfl (hW 24 rfl)
            have H := Lib.hid (show ∀ W', Ext W W' → K (fr (upd V 25 (undef))) W' from fun W' he => hK _ _ ⟨upd V 25 (undef), rfl, HV.up 25 _ (fun x hx => Option.some.inj hx), ScJ.ext s0 he⟩)
            have HU := Lib.hid (show (upd V 25 (undef)) 24 = .bool true from e24)
            clear hK hC hW hL HV s0
            rw [HFR.out]
            rw [e24]
            clear e24
            go_wp2_with fail
            show K _ _
            have := H.out _ (Ext.refl _)
            rw [HFR.out] at this
            obtain u24 := HU.out
            rw [u24] at this
            exact this
          · rintro L A W K hL hC hW ⟨V, rfl, HV, s0⟩ hK
            have e24 : V 24 = .bool true := HV 24 _ rfl (hW 24 rfl)
            have H := Lib.hid (show ∀ W', Ext W W' → K (fr (upd V 26 (undef))) W' from fun W' he => hK _ _ ⟨upd V 26 (undef), rfl, HV.up 26 _ (fun x hx => Option.some.inj hx), ScJ.ext s0 he⟩)
            have HU := Lib.hid (show (upd V 26 (undef)) 24 = .bool true from e24)
            clear hK hC hW hL HV s0
            rw [HFR.out]
            rw [e24]
            clear e24
            go_wp2_with fail
            show K _ _
            have := H.out _ (Ext.refl _)
            rw [HFR.out] at this
            obtain u24 := HU.out
            rw [u24] at this
            exact this
          · rintro L A W K hL hC hW ⟨V, rfl, HV, s0⟩ hK
            have e24 : V 24 = .bool true := HV 24 _ rfl (hW 24 rfl)
            have e25 : V 25 = undef := HV 25 _ rfl (hW 25 rfl)
            have e26 : V 26 = undef := HV 26 _ rfl (hW 26 rfl)
            have H := Lib.hid (show ∀ W', Ext W W' → K (fr (upd V 27 (undef))) W' from fun W' he => hK _ _ ⟨upd V 27 (undef), rfl, HV.up 27 _ (fun x hx => Option.some.inj hx), ScJ.ext s0 he⟩)
            have HU := Lib.hid (show (upd V 27 (undef)) 24 = .bool true ∧ (upd V 27 (undef)) 25 = undef ∧ (upd V 27 (undef)) 26 = undef from ⟨e24, e25, e26⟩)
            clear hK hC hW hL HV s0
            rw [HFR.out]
            rw [e24, e25, e26]
            clear e24 e25 e26
            go_wp2_with fail
            show K _ _
            have := H.out _ (Ext.refl _)
            rw [HFR.out] at this
            obtain ⟨u24, u25, u26⟩ := HU.out
            rw [u24, u25, u26] at this
            exact this
          · rintro L A W K hL hC hW ⟨V, rfl, HV, s0⟩ hK
            have e24 : V 24 = .bool true := HV 24 _ rfl (hW 24 rfl)
            have e27 : V 27 = undef := HV 27 _ rfl (hW 27 rfl)
            have H := Lib.hid (show ∀ W', Ext W W' → K (fr (upd V 28 (undef))) W' from fun W' he => hK _ _ ⟨upd V 28 (undef), rfl, HV.up 28 _ (fun x hx => Option.some.inj hx), ScJ.ext s0 he⟩)
            have HU := Lib.hid (show (upd V 28 (undef)) 24 = .bool true ∧ (upd V 28 (undef)) 27 = undef from ⟨e24, e27⟩)
            clear hK hC hW hL HV s0
            rw [HFR.out]
            rw [e24, e27]
            clear e24 e27
            go_wp2_with fail
            show K _ _
            have := H.out _ (Ext.refl _)
            rw [HFR.out] at this
            obtain ⟨u24, u27⟩ := HU.out
            rw [u24, u27] at this
            exact this
          · rintro L A W K hL hC hW ⟨V, rfl, HV, s0⟩ hK
            have e24 : V 24 = .bool true := HV 24 _ rfl (hW 24 rfl)
            have e28 : V 28 = undef := HV 28 _ rfl (hW 28 rfl)
            have H := Lib.hid (show ∀ W', Ext W W' → K (fr (upd V 29 (undef))) W' from fun W' he => hK _ _ ⟨upd V 29 (undef), rfl, HV.up 29 _ (fun x hx => Option.some.inj hx), ScJ.ext s0 he⟩)
            have HU := Lib.hid (show (upd V 29 (undef)) 24 = .bool true ∧ (upd V 29 (undef)) 28 = undef from ⟨e24, e28⟩)
            clear hK hC hW hL HV s0
            rw [HFR.out]
            rw [e24, e28]
            clear e24 e28
            go_wp2_with fail
            show K _ _
            have := H.out _ (Ext.refl _)
            rw [HFR.out] at this
            obtain ⟨u24, u28⟩ := HU.out
            rw [u24, u28] at this
            exact this
          · rintro L A W K hL hC hW ⟨V, rfl, HV, s0⟩ hK
            have e24 : V 24 = .bool true := HV 24 _ rfl (hW 24 rfl)
            have H := Lib.hid (show ∀ W', Ext W W' → K (fr (upd V 30 (undef))) W' from fun W' he => hK _ _ ⟨upd V 30 (undef), rfl, HV.up 30 _ (fun x hx => Option.some.inj hx), ScJ.ext s0 he⟩)
            have HU := Lib.hid (show (upd V 30 (undef)) 24 = .bool true from e24)
            clear hK hC hW hL HV s0
            rw [HFR.out]
            rw [e24]
            clear e24
            go_wp2_with fail
            show K _ _
            have := H.out _ (Ext.refl _)
            rw [HFR.out] at this
            obtain u24 := HU.out
            rw [u24] at this
            exact this
          · rintro L A W K hL hC hW ⟨V, rfl, HV, s0⟩ hK
            have e24 : V 24 = .bool true := HV 24 _ rfl (hW 24 rfl)
            have H := Lib.hid (show ∀ W', Ext W W' → K (fr (upd V 31 (undef))) W' from fun W' he => hK _ _ ⟨upd V 31 (undef), rfl, HV.up 31 _ (fun x hx => Option.some.inj hx), ScJ.ext s0 he⟩)
            have HU := Lib.hid (show (upd V 31 (undef)) 24 = .bool true from e24)
            clear hK hC hW hL HV s0
            rw [HFR.out]
            rw [e24]
            clear e24
            go_wp2_with fail
            show K _ _
            have := H.out _ (Ext.refl _)
            rw [HFR.out] at this
            obtain u24 := HU.out
            rw [u24] at this
            exact this
          · rintro L A W K hL hC hW ⟨V, rfl, HV, s0⟩ hK
            have e24 : V 24 = .bool true := HV 24 _ rfl (hW 24 rfl)
            have e30 : V 30 = undef := HV 30 _ rfl (hW 30 rfl)
            have e31 : V 31 = undef := HV 31 _ rfl (hW 31 rfl)
            have H := Lib.hid (show ∀ W', Ext W W' → K (fr (upd V 32 (undef))) W' from fun W' he => hK _ _ ⟨upd V 32 (undef), rfl, HV.up 32 _ (fun x hx => Option.some.inj hx), ScJ.ext s0 he⟩)
            have HU := Lib.hid (show (upd V 32 (undef)) 24 = .bool true ∧ (upd V 32 (undef)) 30 = undef ∧ (upd V 32 (undef)) 31 = undef from ⟨e24, e30, e31⟩)
            clear hK hC hW hL HV s0
            rw [HFR.out]
            rw [e24, e30, e31]
            clear e24 e30 e31
            go_wp2_with fail
            show K _ _
            have := H.out _ (Ext.refl _)
            rw [HFR.out] at this
            obtain ⟨u24, u30, u31⟩ := HU.out
            rw [u24, u30, u31] at this
            exact this
          · rintro L A W K hL hC hW ⟨V, rfl, HV, s0⟩ hK
            have e24 : V 24 = .bool true := HV 24 _ rfl (hW 24 rfl)
            have e32 : V 32 = undef := HV 32 _ rfl (hW 32 rfl)
            have H := Lib.hid (show ∀ W', Ext W W' → K (fr (upd V 33 (undef))) W' from fun W' he => hK _ _ ⟨upd V 33 (undef), rfl, HV.up 33 _ (fun x hx => Option.some.inj hx), ScJ.ext s0 he⟩)
            have HU := Lib.hid (show (upd V 33 (undef)) 24 = .bool true ∧ (upd V 33 (undef)) 32 = undef from ⟨e24, e32⟩)
            clear hK hC hW hL HV s0
            rw [HFR.out]
            rw [e24, e32]
            clear e24 e32
            go_wp2_with fail
            show K _ _
            have := H.out _ (Ext.refl _)
            rw [HFR.out] at this
            obtain ⟨u24, u32⟩ := HU.out
            rw [u24, u32] at this
            exact this
          · rintro L A W K hL hC hW ⟨V, rfl, HV, s0⟩ hK
            have e24 : V 24 = .bool true := HV 24 _ rfl (hW 24 rfl)
            have e33 : V 33 = undef := HV 33 _ rfl (hW 33 rfl)
            have H := Lib.hid (show ∀ W', Ext W W' → K (fr (upd V 34 (undef))) W' from fun W' he => hK _ _ ⟨upd V 34 (undef), rfl, HV.up 34 _ (fun x hx => Option.some.inj hx), ScJ.ext s0 he⟩)
            have HU := Lib.hid (show (upd V 34 (undef)) 24 = .bool true ∧ (upd V 34 (undef)) 33 = undef from ⟨e24, e33⟩)
            clear hK hC hW hL HV s0
            rw [HFR.out]
            rw [e24, e33]
            clear e24 e33
            go_wp2_with fail
            show K _ _
            have := H.out _ (Ext.refl _)
            rw [HFR.out] at this
            obtain ⟨u24, u33⟩ := HU.out
            rw [u24, u33] at this
            exact this
          · rintro L A W K hL hC hW ⟨V, rfl, HV, s0⟩ hK
            have e24 : V 24 = .bool true := HV 24 _ rfl (hW 24 rfl)
            have e29 : V 29 = undef := HV 29 _ rfl (hW 29 rfl)
            have e34 : V 34 = undef := HV 34 _ rfl (hW 34 rfl)
            have H := Lib.hid (show ∀ W', Ext W W' → K (fr (upd V 35 (undef))) W' from fun W' he => hK _ _ ⟨upd V 35 (undef), rfl, HV.up 35 _ (fun x hx => Option.some.inj hx), ScJ.ext s0 he⟩)
            have HU := Lib.hid (show (upd V 35 (undef)) 24 = .bool true ∧ (upd V 35 (undef)) 29 = undef ∧ (upd V 35 (undef)) 34 = undef from ⟨e24, e29, e34⟩)
            clear hK hC hW hL HV s0
            rw [HFR.out]
            rw [e24, e29, e34]
            clear e24 e29 e34
            go_wp2_with fail
            show K _ _
            have := H.out _ (Ext.refl _)
            rw [HFR.out] at this
            obtain ⟨u24, u29, u34⟩ := HU.out
            rw [u24, u29, u34] at this
            exact this
          · rintro L A W K hL hC hW ⟨V, rfl, HV, s0⟩ hK
            have e24 : V 24 = .bool true := HV 24 _ rfl (hW 24 rfl)
            have e35 : V 35 = undef := HV 35 _ rfl (hW 35 rfl)
            have H := Lib.hid (show ∀ W', Ext W W' → K (fr (upd V 36 (undef))) W' from fun W' he => hK _ _ ⟨upd V 36 (undef), rfl, HV.up 36 _ (fun x hx => Option.some.inj hx), ScJ.ext s0 he⟩)
            have HU := Lib.hid (show (upd V 36 (undef)) 24 = .bool true ∧ (upd V 36 (undef)) 35 = undef from ⟨e24, e35⟩)
            clear hK hC hW hL HV s0
            rw [HFR.out]
            rw [e24, e35]
            clear e24 e35
            go_wp2_with fail
            show K _ _
            have := H.out _ (Ext.refl _)
            rw [HFR.out] at this
            obtain ⟨u24, u35⟩ := HU.out
            rw [u24, u35] at this
            exact this
          · rintro L A W K hL hC hW ⟨V, rfl, HV, s0⟩ hK
            have e24 : V 24 = .bool true := HV 24 _ rfl (hW 24 rfl)
            have e36 : V 36 = undef := HV 36 _ rfl (hW 36 rfl)
            have H := Lib.hid (show ∀ W', Ext W W' → K (fr (upd V 37 (.bool true))) W' from fun W' he => hK _ _ ⟨upd V 37 (.bool true), rfl, HV.up 37 _ (fun x hx => Option.some.inj hx), ScJ.ext s0 he⟩)
            have HU := Lib.hid (show (upd V 37 (.bool true)) 24 = .bool true ∧ (upd V 37 (.bool true)) 36 = undef from ⟨e24, e36⟩)
            clear hK hC hW hL HV s0
            rw [HFR.out]
            rw [e24, e36]
            clear e24 e36
            go_wp2_with fail
            show K _ _
            have := H.out _ (Ext.refl _)
            rw [HFR.out] at this
            obtain ⟨u24, u36⟩ := HU.out
            rw [u24, u36] at this
            exact this
          · rintro L A W hL ⟨V, rfl, HV, s0⟩
            have e0 : V 0 = .slice (some ⟨b1, o1, none⟩) a.length c := HV 0 _ rfl (hL 0 (by simp))
            have e1 : V 1 = .int .i64 (k : Nat) := HV 1 _ rfl (hL 1 (by simp))
            have e2 : V 2 = .pointer (some ⟨b1, o1 + k * 6, none⟩) := HV 2 _ rfl (hL 2 (by simp))
            have e3 : V 3 = .pointer (some ⟨b1, o1 + k * 6, none⟩) := HV 3 _ rfl (hL 3 (by simp))
            have e4 : V 4 = .bool p.1 := HV 4 _ rfl (hL 4 (by simp))
            have e5 : V 5 = .slice (some ⟨b2, o2, none⟩) b.length c' := HV 5 _ rfl (hL 5 (by simp))
            have e6 : V 6 = .int .i64 (k : Nat) := HV 6 _ rfl (hL 6 (by simp))
            have e7 : V 7 = .pointer (some ⟨b2, o2 + k * 6, none⟩) := HV 7 _ rfl (hL 7 (by simp))
            have e8 : V 8 = .pointer (some ⟨b2, o2 + k * 6, none⟩) := HV 8 _ rfl (hL 8 (by simp))
            have e9 : V 9 = .bool q.1 := HV 9 _ rfl (hL 9 (by simp))
            have e10 : V 10 = .bool true := HV 10 _ rfl (hL 10 (by simp))
            have e11 : V 11 = .bool true := HV 11 _ rfl (hL 11 (by simp))
            have e12 : V 12 = undef := HV 12 _ rfl (hL 12 (by simp))
            have e13 : V 13 = undef := HV 13 _ rfl (hL 13 (by simp))
            have e14 : V 14 = undef := HV 14 _ rfl (hL 14 (by simp))
            have e15 : V 15 = undef := HV 15 _ rfl (hL 15 (by simp))
            have e16 : V 16 = undef := HV 16 _ rfl (hL 16 (by simp))
            have e17 : V 17 = undef := HV 17 _ rfl (hL 17 (by simp))
            have e18 : V 18 = undef := HV 18 _ rfl (hL 18 (by simp))
            have e19 : V 19 = undef := HV 19 _ rfl (hL 19 (by simp))
            have e20 : V 20 = undef := HV 20 _ rfl (hL 20 (by simp))
            have e21 : V 21 = undef := HV 21 _ rfl (hL 21 (by simp))
            have e22 : V 22 = undef := HV 22 _ rfl (hL 22 (by simp))
            have e23 : V 23 = .bool true := HV 23 _ rfl (hL 23 (by simp))
            have e24 : V 24 = .bool true := HV 24 _ rfl (hL 24 (by simp))
            have e25 : V 25 = undef := HV 25 _ rfl (hL 25 (by simp))
            have e26 : V 26 = undef := HV 26 _ rfl (hL 26 (by simp))
            have e27 : V 27 = undef := HV 27 _ rfl (hL 27 (by simp))
            have e28 : V 28 = undef := HV 28 _ rfl (hL 28 (by simp))
            have e29 : V 29 = undef := HV 29 _ rfl (hL 29 (by simp))
            have e30 : V 30 = undef := HV 30 _ rfl (hL 30 (by simp))
            have e31 : V 31 = undef := HV 31 _ rfl (hL 31 (by simp))
            have e32 : V 32 = undef := HV 32 _ rfl (hL 32 (by simp))
            have e33 : V 33 = undef := HV 33 _ rfl (hL 33 (by simp))
            have e34 : V 34 = undef := HV 34 _ rfl (hL 34 (by simp))
            have e35 : V 35 = undef := HV 35 _ rfl (hL 35 (by simp))
            have e36 : V 36 = undef := HV 36 _ rfl (hL 36 (by simp))
            have e37 : V 37 = .bool true := HV 37 _ rfl (hL 37 (by simp))
            have hA := s0
            rw [HFR.out]
            rw [e0, e1, e2, e3, e4, e5, e6, e7, e8, e9, e10, e11, e12, e13, e14, e15, e16, e17, e18, e19, e20, e21, e22, e23, e24, e25, e26, e27, e28, e29, e30, e31, e32, e33, e34, e35, e36, e37]
            clear hL HV HFR e0 e1 e2 e3 e4 e5 e6 e7 e8 e9 e10 e11 e12 e13 e14 e15 e16 e17 e18 e19 e20 e21 e22 e23 e24 e25 e26 e27 e28 e29 e30 e31 e32 e33 e34 e35 e36 e37 s0
            have HEJ := Lib.hid hA.2.2.2.2
            clear hA
            go_wp2_with fail
            go_ret
            exact ⟨by rw [HF.out]; rfl, HEJ.out⟩
        | false =>
          have hq1b : (p.1 == q.1) = true := by simpa using hq1
          cases hq2 : (p.2.1 != q.2.1) with
          | true =>
            have HF := Lib.hid (HNK.out (samP_no2 p q hq2))
            have HQ2 := Lib.hid hq2
            clear hq2
            go_upto_region 6 with (fail)
            refine wp_named fun a0 ha0 => ?_
            obtain ⟨fr, hfr⟩ : ∃ fr : (Nat → Value) → Act, ∀ V, fr V = ((((((((((((((((((((((((((((((((((((((a0.put (some 16) (V 0)).put (some 17) (V 1)).put (some 18) (V 2)).put (some 19) (V 3)).put (some 20) (V 4)).put (some 21) (V 5)).put (some 22) (V 6)).put (some 23) (V 7)).put (some 24) (V 8)).put (some 25) (V 9)).put (some 26) (V 10)).put (some 27) (V 11)).put (some 28) (V 12)).put (some 29) (V 13)).put (some 30) (V 14)).put (some 31) (V 15)).put (some 32) (V 16)).put (some 33) (V 17)).put (some 34) (V 18)).put (some 35) (V 19)).put (some 36) (V 20)).put (some 37) (V 21)).put (some 38) (V 22)).put (some 39) (V 23)).put (some 40) (V 24)).put (some 41) (V 25)).put (some 42) (V 26)).put (some 43) (V 27)).put (some 44) (V 28)).put (some 45) (V 29)).put (some 46) (V 30)).put (some 47) (V 31)).put (some 48) (V 32)).put (some 49) (V 33)).put (some 50) (V 34)).put (some 51) (V 35)).put (some 52) (V 36)).put (some 53) (V 37)) := ⟨fun V => ((((((((((((((((((((((((((((((((((((((a0.put (some 16) (V 0)).put (some 17) (V 1)).put (some 18) (V 2)).put (some 19) (V 3)).put (some 20) (V 4)).put (some 21) (V 5)).put (some 22) (V 6)).put (some 23) (V 7)).put (some 24) (V 8)).put (some 25) (V 9)).put (some 26) (V 10)).put (some 27) (V 11)).put (some 28) (V 12)).put (some 29) (V 13)).put (some 30) (V 14)).put (some 31) (V 15)).put (some 32) (V 16)).put (some 33) (V 17)).put (some 34) (V 18)).put (some 35) (V 19)).put (some 36) (V 20)).put (some 37) (V 21)).put (some 38) (V 22)).put (some 39) (V 23)).put (some 40) (V 24)).put (some 41) (V 25)).put (some 42) (V 26)).put (some 43) (V 27)).put (some 44) (V 28)).put (some 45) (V 29)).put (some 46) (V 30)).put (some 47) (V 31)).put (some 48) (V 32)).put (some 49) (V 33)).put (some 50) (V 34)).put (some 51) (V 35)).put (some 52) (V 36)).put (some 53) (V 37)), fun _ => rfl⟩
            rw [ha0] at hfr
            simp only [Act.put, List.setIfInBounds_toArray, List.set_cons_zero, List.set_cons_succ] at hfr
            have HFR := Lib.hid hfr
            clear hfr
            refine wp_region_inv (by kernel_rfl) (by kernel_rfl) (fun L A W => ∃ V : Nat → Value, A = fr V ∧ Vals (fun j => ([some (.slice (some ⟨b1, o1, none⟩) a.length c), some (.int .i64 (k : Nat)), some (.pointer (some ⟨b1, o1 + k * 6, none⟩)), some (.pointer (some ⟨b1, o1 + k * 6, none⟩)), some (.bool p.1), some (.slice (some ⟨b2, o2, none⟩) b.length c'), some (.int .i64 (k : Nat)), some (.pointer (some ⟨b2, o2 + k * 6, none⟩)), some (.pointer (some ⟨b2, o2 + k * 6, none⟩)), some (.bool q.1), some (.bool false), some (.bool false), some (.slice (some ⟨b1, o1, none⟩) a.length c), some (.int .i64 (k : Nat)), some (.pointer (some ⟨b1, o1 + k * 6, none⟩)), some (.pointer (some ⟨b1, o1 + k * 6 + 1, none⟩)), some (wv p.2.1), some (.slice (some ⟨b2, o2, none⟩) b.length c'), some (.int .i64 (k : Nat)), some (.pointer (some ⟨b2, o2 + k * 6, none⟩)), some (.pointer (some ⟨b2, o2 + k * 6 + 1, none⟩)), some (wv q.2.1), some (.bool true), some (.bool true), some (.bool true), some (undef), some (undef), some (undef), some (undef), some (undef), some (undef), some (undef), some (undef), some (undef), some (undef), some (undef), some (undef), some (.bool true)] : List (Option Value)).getD j none) L V ∧ (ScJ w b1 (o1 + k * 6) p u1 b2 (o2 + k * 6) q u2 W)) ?_ ⟨?_, ?_, ?_, ?_, ?_, ?_, ?_, ?_, ?_, ?_, ?_, ?_, ?_, ?_, ?_, ?_, ?_, ?_, ?_, ?_, ?_, ?_, ?_, ?_, ?_, ?_, ?_, ?_, ?_, ?_, ?_, ?_, ?_, ?_, ?_, ?_, ?_, ?_, trivial⟩ ?_
            · refine ⟨fun j => a0.tmps.getD (([16, 17, 18, 19, 20, 21, 22, 23, 24, 25, 26, 27, 28, 29, 30, 31, 32, 33, 34, 35, 36, 37, 38, 39, 40, 41, 42, 43, 44, 45, 46, 47, 48, 49, 50, 51, 52, 53] : List Nat).getD j 0) undef, ?_, Vals.no _ _ _ (far_none _ _ rfl), HJ0.out.ext (Ext.refl _).drew⟩
              rw [HFR.out, ha0]
              rfl
            all_goals clear ha0
            · rintro L A W K hL hC hW ⟨V, rfl, HV, s0⟩ hK
              have H := Lib.hid (show ∀ W', Ext W W' → K (fr (upd V 0 (.slice (some ⟨b1, o1, none⟩) a.length c))) W' from fun W' he => hK _ _ ⟨upd V 0 (.slice (some ⟨b1, o1, none⟩) a.length c), rfl, HV.up 0 _ (fun x hx => Option.some.inj hx), ScJ.ext s0 he⟩)
              clear hK hC hW hL HV s0
              rw [HFR.out]
              go_wp2_with fail
              show K _ _
              have := H.out _ (Ext.refl _)
              rw [HFR.out] at this
              exact this
            · rintro L A W K hL hC hW ⟨V, rfl, HV, s0⟩ hK
              have H := Lib.hid (show ∀ W', Ext W W' → K (fr (upd V 1 (.int .i64 (k : Nat)))) W' from fun W' he => hK _ _ ⟨upd V 1 (.int .i64 (k : Nat)), rfl, HV.up 1 _ (fun x hx => Option.some.inj hx), ScJ.ext s0 he⟩)
              clear hK hC hW hL HV s0
              rw [HFR.out]
              go_wp2_with fail
              show K _ _
              have := H.out _ (Ext.refl _)
              rw [HFR.out] at this
              exact this
            · rintro L A W K hL hC hW ⟨V, rfl, HV, s0⟩ hK
              have e0 : V 0 = .slice (some ⟨b1, o1, none⟩) a.length c := HV 0 _ rfl (hW 0 rfl)
              have e1 : V 1 = .int .i64 (k : Nat) := HV 1 _ rfl (hW 1 rfl)
              have H := Lib.hid (show ∀ W', Ext W W' → K (fr (upd V 2 (.pointer (some ⟨b1, o1 + k * 6, none⟩)))) W' from fun W' he => hK _ _ ⟨upd V 2 (.pointer (some ⟨b1, o1 + k * 6, none⟩)), rfl, HV.up 2 _ (fun x hx => Option.some.inj hx), ScJ.ext s0 he⟩)
              have HU := Lib.hid (show (upd V 2 (.pointer (some ⟨b1, o1 + k * 6, none⟩))) 0 = .slice (some ⟨b1, o1, none⟩) a.length c ∧ (upd V 2 (.pointer (some ⟨b1, o1 + k * 6, none⟩))) 1 = .int .i64 (k : Nat) from ⟨e0, e1⟩)
              clear hK hC hW hL HV s0
              rw [HFR.out]
              rw [e0, e1]
              clear e0 e1
              go_wp2_with fail
              show K _ _
              have := H.out _ (Ext.refl _)
              rw [HFR.out] at this
              obtain ⟨u0, u1⟩ := HU.out
              rw [u0, u1] at this
              exact this
            · rintro L A W K hL hC hW ⟨V, rfl, HV, s0⟩ hK
              have e2 : V 2 = .pointer (some ⟨b1, o1 + k * 6, none⟩) := HV 2 _ rfl (hW 2 rfl)
              have H := Lib.hid (show ∀ W', Ext W W' → K (fr (upd V 3 (.pointer (some ⟨b1, o1 + k * 6, none⟩)))) W' from fun W' he => hK _ _ ⟨upd V 3 (.pointer (some ⟨b1, o1 + k * 6, none⟩)), rfl, HV.up 3 _ (fun x hx => Option.some.inj hx), ScJ.ext s0 he⟩)
              have HU := Lib.hid (show (upd V 3 (.pointer (some ⟨b1, o1 + k * 6, none⟩))) 2 = .pointer (some ⟨b1, o1 + k * 6, none⟩) from e2)
              clear hK hC hW hL HV s0
              rw [HFR.out]
              rw [e2]
              clear e2
              go_wp2_with fail
              show K _ _
              have := H.out _ (Ext.refl _)
              rw [HFR.out] at this
              obtain u2 := HU.out
              rw [u2] at this
              exact this
            · rintro L A W K hL hC hW ⟨V, rfl, HV, s0⟩ hK
              have e3 : V 3 = .pointer (some ⟨b1, o1 + k * 6, none⟩) := HV 3 _ rfl (hW 3 rfl)
              have hB := s0
              have H := Lib.hid (show ∀ W', Ext W W' → K (fr (upd V 4 (.bool p.1))) W' from fun W' he => hK _ _ ⟨upd V 4 (.bool p.1), rfl, HV.up 4 _ (fun x hx => Option.some.inj hx), ScJ.ext s0 he⟩)
              have HU := Lib.hid (show (upd V 4 (.bool p.1)) 3 = .pointer (some ⟨b1, o1 + k * 6, none⟩) from e3)
              clear hK hC hW hL HV s0
              rw [HFR.out]
              rw [e3]
              clear e3
              have hcl := rng0 hB.1
              clear hB
              go_wp2_with fail
              show K _ _
              have := H.out _ (Ext.refl _)
              rw [HFR.out] at this
              obtain u3 := HU.out
              rw [u3] at this
              exact this
            · rintro L A W K hL hC hW ⟨V, rfl, HV, s0⟩ hK
              have H := Lib.hid (show ∀ W', Ext W W' → K (fr (upd V 5 (.slice (some ⟨b2, o2, none⟩) b.length c'))) W' from fun W' he => hK _ _ ⟨upd V 5 (.slice (some ⟨b2, o2, none⟩) b.length c'), rfl, HV.up 5 _ (fun x hx => Option.some.inj hx), ScJ.ext s0 he⟩)
              clear hK hC hW hL HV s0
              rw [HFR.out]
              go_wp2_with fail
              show K _ _
              have := H.out _ (Ext.refl _)
              rw [HFR.out] at this
              exact this
            · rintro L A W K hL hC hW ⟨V, rfl, HV, s0⟩ hK
              have H := Lib.hid (show ∀ W', Ext W W' → K (fr (upd V 6 (.int .i64 (k : Nat)))) W' from fun W' he => hK _ _ ⟨upd V 6 (.int .i64 (k : Nat)), rfl, HV.up 6 _ (fun x hx => Option.some.inj hx), ScJ.ext s0 he⟩)
              clear hK hC hW hL HV s0
              rw [HFR.out]
              go_wp2_with fail
              show K _ _
              have := H.out _ (Ext.refl _)
              rw [HFR.out] at this
              exact this
            · rintro L A W K hL hC hW ⟨V, rfl, HV, s0⟩ hK
              have e5 : V 5 = .slice (some ⟨b2, o2, none⟩) b.length c' := HV 5 _ rfl (hW 5 rfl)
              have e6 : V 6 = .int .i64 (k : Nat) := HV 6 _ rfl (hW 6 rfl)
              have H := Lib.hid (show ∀ W', Ext W W' → K (fr (upd V 7 (.pointer (some ⟨b2, o2 + k * 6, none⟩)))) W' from fun W' he => hK _ _ ⟨upd V 7 (.pointer (some ⟨b2, o2 + k * 6, none⟩)), rfl, HV.up 7 _ (fun x hx => Option.some.inj hx), ScJ.ext s0 he⟩)
              have HU := Lib.hid (show (upd V 7 (.pointer (some ⟨b2, o2 + k * 6, none⟩))) 5 = .slice (some ⟨b2, o2, none⟩) b.length c' ∧ (upd V 7 (.pointer (some ⟨b2, o2 + k * 6, none⟩))) 6 = .int .i64 (k : Nat) from ⟨e5, e6⟩)
              clear hK hC hW hL HV s0
              rw [HFR.out]
              rw [e5, e6]
              clear e5 e6
              go_wp2_with fail
              show K _ _
              have := H.out _ (Ext.refl _)
              rw [HFR.out] at this
              obtain ⟨u5, u6⟩ := HU.out
              rw [u5, u6] at this
              exact this
            · rintro L A W K hL hC hW ⟨V, rfl, HV, s0⟩ hK
              have e7 : V 7 = .pointer (some ⟨b2, o2 + k * 6, none⟩) := HV 7 _ rfl (hW 7 rfl)
              have H := Lib.hid (show ∀ W', Ext W W' → K (fr (upd V 8 (.pointer (some ⟨b2, o2 + k * 6, none⟩)))) W' from fun W' he => hK _ _ ⟨upd V 8 (.pointer (some ⟨b2, o2 + k * 6, none⟩)), rfl, HV.up 8 _ (fun x hx => Option.some.inj hx), ScJ.ext s0 he⟩)
              have HU := Lib.hid (show (upd V 8 (.pointer (some ⟨b2, o2 + k * 6, none⟩))) 7 = .pointer (some ⟨b2, o2 + k * 6, none⟩) from e7)
              clear hK hC hW hL HV s0
              rw [HFR.out]
              rw [e7]
              clear e7
              go_wp2_with fail
              show K _ _
              have := H.out _ (Ext.refl _)
              rw [HFR.out] at this
              obtain u7 := HU.out
              rw [u7] at this
              exact this
            · rintro L A W K hL hC hW ⟨V, rfl, HV, s0⟩ hK
              have e8 : V 8 = .pointer (some ⟨b2, o2 + k * 6, none⟩) := HV 8 _ rfl (hW 8 rfl)
              have hB := s0
              have H := Lib.hid (show ∀ W', Ext W W' → K (fr (upd V 9 (.bool q.1))) W' from fun W' he => hK _ _ ⟨upd V 9 (.bool q.1), rfl, HV.up 9 _ (fun x hx => Option.some.inj hx), ScJ.ext s0 he⟩)
              have HU := Lib.hid (show (upd V 9 (.bool q.1)) 8 = .pointer (some ⟨b2, o2 + k * 6, none⟩) from e8)
              clear hK hC hW hL HV s0
              rw [HFR.out]
              rw [e8]
              clear e8
              have hcl := rng0 hB.2.1
              clear hB
              go_wp2_with fail
              show K _ _
              have := H.out _ (Ext.refl _)
              rw [HFR.out] at this
              obtain u8 := HU.out
              rw [u8] at this
              exact this
            · rintro L A W K hL hC hW ⟨V, rfl, HV, s0⟩ hK
              have e4 : V 4 = .bool p.1 := HV 4 _ rfl (hW 4 rfl)
              have e9 : V 9 = .bool q.1 := HV 9 _ rfl (hW 9 rfl)
              have H := Lib.hid (show ∀ W', Ext W W' → K (fr (upd V 10 (.bool false))) W' from fun W' he => hK _ _ ⟨upd V 10 (.bool false), rfl, HV.up 10 _ (fun x hx => Option.some.inj hx), ScJ.ext s0 he⟩)
              have HU := Lib.hid (show (upd V 10 (.bool false)) 4 = .bool p.1 ∧ (upd V 10 (.bool false)) 9 = .bool q.1 from ⟨e4, e9⟩)
              clear hK hC hW hL HV s0
              rw [HFR.out]
              rw [e4, e9]
              clear e4 e9
              go_wp2_with fail
              show K _ _
              have := H.out _ (Ext.refl _)
              rw [HFR.out] at this
              obtain ⟨u4, u9⟩ := HU.out
              rw [u4, u9] at this
              exact this
            · rintro L A W K hL hC hW ⟨V, rfl, HV, s0⟩ hK
              have e10 : V 10 = .bool false := HV 10 _ rfl (hW 10 rfl)
              have H := Lib.hid (show ∀ W', Ext W W' → K (fr (upd V 11 (.bool false))) W' from fun W' he => hK _ _ ⟨upd V 11 (.bool false), rfl, HV.up 11 _ (fun x hx => Option.some.inj hx), ScJ.ext s0 he⟩)
              have HU := Lib.hid (show (upd V 11 (.bool false)) 10 = .bool false from e10)
              clear hK hC hW hL HV s0
              rw [HFR.out]
              rw [e10]
              clear e10
              go_wp2_with fail
              show K _ _
              have := H.out _ (Ext.refl _)
              rw [HFR.out] at this
              obtain u10 := HU.out
              rw [u10] at this
              exact this
            · rintro L A W K hL hC hW ⟨V, rfl, HV, s0⟩ hK
              have e11 : V 11 = .bool false := HV 11 _ rfl (hW 11 rfl)
              have H := Lib.hid (show ∀ W', Ext W W' → K (fr (upd V 12 (.slice (some ⟨b1, o1, none⟩) a.length c))) W' from fun W' he => hK _ _ ⟨upd V 12 (.slice (some ⟨b1, o1, none⟩) a.length c), rfl, HV.up 12 _ (fun x hx => Option.some.inj hx), ScJ.ext s0 he⟩)
              have HU := Lib.hid (show (upd V 12 (.slice (some ⟨b1, o1, none⟩) a.length c)) 11 = .bool false from e11)
              clear hK hC hW hL HV s0
              rw [HFR.out]
              rw [e11]
              clear e11
              go_wp2_with fail
              show K _ _
              have := H.out _ (Ext.refl _)
              rw [HFR.out] at this
              obtain u11 := HU.out
              rw [u11] at this
              exact this
            · rintro L A W K hL hC hW ⟨V, rfl, HV, s0⟩ hK
              have e11 : V 11 = .bool false := HV 11 _ rfl (hW 11 rfl)
              have H := Lib.hid (show ∀ W', Ext W W' → K (fr (upd V 13 (.int .i64 (k : Nat)))) W' from fun W' he => hK _ _ ⟨upd V 13 (.int .i64 (k : Nat)), rfl, HV.up 13 _ (fun x hx => Option.some.inj hx), ScJ.ext s0 he⟩)
              have HU := Lib.hid (show (upd V 13 (.int .i64 (k : Nat))) 11 = .bool false from e11)
              clear hK hC hW hL HV s0
              rw [HFR.out]
              rw [e11]
              clear e11
              go_wp2_with fail
              show K _ _
              have := H.out _ (Ext.refl _)
              rw [HFR.out] at this
              obtain u11 := HU.out
              rw [u11] at this
              exact this
            · rintro L A W K hL hC hW ⟨V, rfl, HV, s0⟩ hK
              have e11 : V 11 = .bool false := HV 11 _ rfl (hW 11 rfl)
              have e12 : V 12 = .slice (some ⟨b1, o1, none⟩) a.length c := HV 12 _ rfl (hW 12 rfl)
              have e13 : V 13 = .int .i64 (k : Nat) := HV 13 _ rfl (hW 13 rfl)
              have H := Lib.hid (show ∀ W', Ext W W' → K (fr (upd V 14 (.pointer (some ⟨b1, o1 + k * 6, none⟩)))) W' from fun W' he => hK _ _ ⟨upd V 14 (.pointer (some ⟨b1, o1 + k * 6, none⟩)), rfl, HV.up 14 _ (fun x hx => Option.some.inj hx), ScJ.ext s0 he⟩)
              have HU := Lib.hid (show (upd V 14 (.pointer (some ⟨b1, o1 + k * 6, none⟩))) 11 = .bool false ∧ (upd V 14 (.pointer (some ⟨b1, o1 + k * 6, none⟩))) 12 = .slice (some ⟨b1, o1, none⟩) a.length c ∧ (upd V 14 (.pointer (some ⟨b1, o1 + k * 6, none⟩))) 13 = .int .i64 (k : Nat) from ⟨e11, e12, e13⟩)
              clear hK hC hW hL HV s0
              rw [HFR.out]
              rw [e11, e12, e13]
              clear e11 e12 e13
              go_wp2_with fail
              show K _ _
              have := H.out _ (Ext.refl _)
              rw [HFR.out] at this
              obtain ⟨u11, u12, u13⟩ := HU.out
              rw [u11, u12, u13] at this
              exact this
            · rintro L A W K hL hC hW ⟨V, rfl, HV, s0⟩ hK
              have e11 : V 11 = .bool false := HV 11 _ rfl (hW 11 rfl)
              have e14 : V 14 = .pointer (some ⟨b1, o1 + k * 6, none⟩) := HV 14 _ rfl (hW 14 rfl)
              have H := Lib.hid (show ∀ W', Ext W W' → K (fr (upd V 15 (.pointer (some ⟨b1, o1 + k * 6 + 1, none⟩)))) W' from fun W' he => hK _ _ ⟨upd V 15 (.pointer (some ⟨b1, o1 + k * 6 + 1, none⟩)), rfl, HV.up 15 _ (fun x hx => Option.some.inj hx), ScJ.ext s0 he⟩)
              have HU := Lib.hid (show (upd V 15 (.pointer (some ⟨b1, o1 + k * 6 + 1, none⟩))) 11 = .bool false ∧ (upd V 15 (.pointer (some ⟨b1, o1 + k * 6 + 1, none⟩))) 14 = .pointer (some ⟨b1, o1 + k * 6, none⟩) from ⟨e11, e14⟩)
              clear hK hC hW hL HV s0
              rw [HFR.out]
              rw [e11, e14]
              clear e11 e14
              go_wp2_with fail
              show K _ _
              have := H.out _ (Ext.refl _)
              rw [HFR.out] at this
              obtain ⟨u11, u14⟩ := HU.out
              rw [u11, u14] at this
              exact this
            · rintro L A W K hL hC hW ⟨V, rfl, HV, s0⟩ hK
              have e11 : V 11 = .bool false := HV 11 _ rfl (hW 11 rfl)
              have e15 : V 15 = .pointer (some ⟨b1, o1 + k * 6 + 1, none⟩) := HV 15 _ rfl (hW 15 rfl)
              have hB := s0
              have H := Lib.hid (show ∀ W', Ext W W' → K (fr (upd V 16 (wv p.2.1))) W' from fun W' he => hK _ _ ⟨upd V 16 (wv p.2.1), rfl, HV.up 16 _ (fun x hx => Option.some.inj hx), ScJ.ext s0 he⟩)
              have HU := Lib.hid (show (upd V 16 (wv p.2.1)) 11 = .bool false ∧ (upd V 16 (wv p.2.1)) 15 = .pointer (some ⟨b1, o1 + k * 6 + 1, none⟩) from ⟨e11, e15⟩)
              clear hK hC hW hL HV s0
              rw [HFR.out]
              rw [e11, e15]
              clear e11 e15
              have HWD := Lib.hid (rngW hB.1)
              clear hB
              refine wpList_load_wordIn rfl (.tmp 31) rfl b1 (o1 + k * 6 + 1) p.2.1 rfl HWD.out ?_
              show K _ _
              have := H.out _ (Ext.refl _)
              rw [HFR.out] at this
              obtain ⟨u11, u15⟩ := HU.out
              rw [u11, u15] at this
              exact this
            · rintro L A W K hL hC hW ⟨V, rfl, HV, s0⟩ hK
              have e11 : V 11 = .bool false := HV 11 _ rfl (hW 11 rfl)
              have H := Lib.hid (show ∀ W', Ext W W' → K (fr (upd V 17 (.slice (some ⟨b2, o2, none⟩) b.length c'))) W' from fun W' he => hK _ _ ⟨upd V 17 (.slice (some ⟨b2, o2, none⟩) b.length c'), rfl, HV.up 17 _ (fun x hx => Option.some.inj hx), ScJ.ext s0 he⟩)
              have HU := Lib.hid (show (upd V 17 (.slice (some ⟨b2, o2, none⟩) b.length c')) 11 = .bool false from e11)
              clear hK hC hW hL HV s0
              rw [HFR.out]
              rw [e11]
              clear e11
              go_wp2_with fail
              show K _ _
              have := H.out _ (Ext.refl _)
              rw [HFR.out] at this
              obtain u11 := HU.out
              rw [u11] at this
              exact this
            · rintro L A W K hL hC hW ⟨V, rfl, HV, s0⟩ hK
              have e11 : V 11 = .bool false := HV 11 _ rfl (hW 11 rfl)
              have H := Lib.hid (show ∀ W', Ext W W' → K (fr (upd V 18 (.int .i64 (k : Nat)))) W' from fun W' he => hK _ _ ⟨upd V 18 (.int .i64 (k : Nat)), rfl, HV.up 18 _ (fun x hx => Option.some.inj hx), ScJ.ext s0 he⟩)
              have HU := Lib.hid (show (upd V 18 (.int .i64 (k : Nat))) 11 = .bool false from e11)
              clear hK hC hW hL HV s0
              rw [HFR.out]
              rw [e11]
              clear e11
              go_wp2_with fail
              show K _ _
              have := H.out _ (Ext.refl _)
              rw [HFR.out] at this
              obtain u11 := HU.out
              rw [u11] at this
              exact this
            · rintro L A W K hL hC hW ⟨V, rfl, HV, s0⟩ hK
              have e11 : V 11 = .bool false := HV 11 _ rfl (hW 11 rfl)
              have e17 : V 17 = .slice (some ⟨b2, o2, none⟩) b.length c' := HV 17 _ rfl (hW 17 rfl)
              have e18 : V 18 = .int .i64 (k : Nat) := HV 18 _ rfl (hW 18 rfl)
              have H := Lib.hid (show ∀ W', Ext W W' → K (fr (upd V 19 (.pointer (some ⟨b2, o2 + k * 6, none⟩)))) W' from fun W' he => hK _ _ ⟨upd V 19 (.pointer (some ⟨b2, o2 + k * 6, none⟩)), rfl, HV.up 19 _ (fun x hx => Option.some.inj hx), ScJ.ext s0 he⟩)
              have HU := Lib.hid (show (upd V 19 (.pointer (some ⟨b2, o2 + k * 6, none⟩))) 11 = .bool false ∧ (upd V 19 (.pointer (some ⟨b2, o2 + k * 6, none⟩))) 17 = .slice (some ⟨b2, o2, none⟩) b.length c' ∧ (upd V 19 (.pointer (some ⟨b2, o2 + k * 6, none⟩))) 18 = .int .i64 (k : Nat) from ⟨e11, e17, e18⟩)
              clear hK hC hW hL HV s0
              rw [HFR.out]
              rw [e11, e17, e18]
              clear e11 e17 e18
              go_wp2_with fail
              show K _ _
              have := H.out _ (Ext.refl _)
              rw [HFR.out] at this
              obtain ⟨u11, u17, u18⟩ := HU.out
              rw [u11, u17, u18] at this
              exact this
            · rintro L A W K hL hC hW ⟨V, rfl, HV, s0⟩ hK
              have e11 : V 11 = .bool false := HV 11 _ rfl (hW 11 rfl)
              have e19 : V 19 = .pointer (some ⟨b2, o2 + k * 6, none⟩) := HV 19 _ rfl (hW 19 rfl)
              have H := Lib.hid (show ∀ W', Ext W W' → K (fr (upd V 20 (.pointer (some ⟨b2, o2 + k * 6 + 1, none⟩)))) W' from fun W' he => hK _ _ ⟨upd V 20 (.pointer (some ⟨b2, o2 + k * 6 + 1, none⟩)), rfl, HV.up 20 _ (fun x hx => Option.some.inj hx), ScJ.ext s0 he⟩)
              have HU := Lib.hid (show (upd V 20 (.pointer (some ⟨b2, o2 + k * 6 + 1, none⟩))) 11 = .bool false ∧ (upd V 20 (.pointer (some ⟨b2, o2 + k * 6 + 1, none⟩))) 19 = .pointer (some ⟨b2, o2 + k * 6, none⟩) from ⟨e11, e19⟩)
              clear hK hC hW hL HV s0
              rw [HFR.out]
              rw [e11, e19]
              clear e11 e19
              go_wp2_with fail
              show K _ _
              have := H.out _ (Ext.refl _)
              rw [HFR.out] at this
              obtain ⟨u11, u19⟩ := HU.out
              rw [u11, u19] at this
              exact this
            · rintro L A W K hL hC hW ⟨V, rfl, HV, s0⟩ hK
              have e11 : V 11 = .bool false := HV 11 _ rfl (hW 11 rfl)
              have e20 : V 20 = .pointer (some ⟨b2, o2 + k * 6 + 1, none⟩) := HV 20 _ rfl (hW 20 rfl)
              have hB := s0
              have H := Lib.hid (show ∀ W', Ext W W' → K (fr (upd V 21 (wv q.2.1))) W' from fun W' he => hK _ _ ⟨upd V 21 (wv q.2.1), rfl, HV.up 21 _ (fun x hx => Option.some.inj hx), ScJ.ext s0 he⟩)
              have HU := Lib.hid (show (upd V 21 (wv q.2.1)) 11 = .bool false ∧ (upd V 21 (wv q.2.1)) 20 = .pointer (some ⟨b2, o2 + k * 6 + 1, none⟩) from ⟨e11, e20⟩)
              clear hK hC hW hL HV s0
              rw [HFR.out]
              rw [e11, e20]
              clear e11 e20
              have HWD := Lib.hid (rngW hB.2.1)
              clear hB
              refine wpList_load_wordIn rfl (.tmp 36) rfl b2 (o2 + k * 6 + 1) q.2.1 rfl HWD.out ?_
              show K _ _
              have := H.out _ (Ext.refl _)
              rw [HFR.out] at this
              obtain ⟨u11, u20⟩ := HU.out
              rw [u11, u20] at this
              exact this
            · rintro L A W K hL hC hW ⟨V, rfl, HV, s0⟩ hK
              have e11 : V 11 = .bool false := HV 11 _ rfl (hW 11 rfl)
              have e16 : V 16 = wv p.2.1 := HV 16 _ rfl (hW 16 rfl)
              have e21 : V 21 = wv q.2.1 := HV 21 _ rfl (hW 21 rfl)
              have hB := s0
              have H := Lib.hid (show ∀ W', Ext W W' → K (fr (upd V 22 (.bool true))) W' from fun W' he => hK _ _ ⟨upd V 22 (.bool true), rfl, HV.up 22 _ (fun x hx => Option.some.inj hx), ScJ.ext s0 he⟩)
              have HU := Lib.hid (show (upd V 22 (.bool true)) 11 = .bool false ∧ (upd V 22 (.bool true)) 16 = wv p.2.1 ∧ (upd V 22 (.bool true)) 21 = wv q.2.1 from ⟨e11, e16, e21⟩)
              clear hK hC hW hL HV s0
              rw [HFR.out]
              rw [e11, e16, e21]
              clear e11 e16 e21
              clear hB
              refine wpList_neq_word rfl (.tmp 32) (.tmp 37) rfl p.2.1 q.2.1 HW1.out HW2.out rfl rfl ?_
              rw [HQ2.out]
              show K _ _
              have := H.out _ (Ext.refl _)
              rw [HFR.out] at this
              obtain ⟨u11, u16, u21⟩ := HU.out
              rw [u11, u16, u21] at this
              exact this
            · rintro L A W K hL hC hW ⟨V, rfl, HV, s0⟩ hK
              have e11 : V 11 = .bool false := HV 11 _ rfl (hW 11 rfl)
              have e22 : V 22 = .bool true := HV 22 _ rfl (hW 22 rfl)
              have H := Lib.hid (show ∀ W', Ext W W' → K (fr (upd V 23 (.bool true))) W' from fun W' he => hK _ _ ⟨upd V 23 (.bool true), rfl, HV.up 23 _ (fun x hx => Option.some.inj hx), ScJ.ext s0 he⟩)
              have HU := Lib.hid (show (upd V 23 (.bool true)) 11 = .bool false ∧ (upd V 23 (.bool true)) 22 = .bool true from ⟨e11, e22⟩)
              clear hK hC hW hL HV s0
              rw [HFR.out]
              rw [e11, e22]
              clear e11 e22
              go_wp2_with fail
              show K _ _
              have := H.out _ (Ext.refl _)
              rw [HFR.out] at this
              obtain ⟨u11, u22⟩ := HU.out
              rw [u11, u22] at this
              exact this
            · rintro L A W K hL hC hW ⟨V, rfl, HV, s0⟩ hK
              have e23 : V 23 = .bool true := HV 23 _ rfl (hW 23 rfl)
              have H := Lib.hid (show ∀ W', Ext W W' → K (fr (upd V 24 (.bool true))) W' from fun W' he => hK _ _ ⟨upd V 24 (.bool true), rfl, HV.up 24 _ (fun x hx => Option.some.inj hx), ScJ.ext s0 he⟩)
              have HU := Lib.hid (show (upd V 24 (.bool true)) 23 = .bool true from e23)
              clear hK hC hW hL HV s0
              rw [HFR.out]
              rw [e23]
              clear e23
              go_wp2_with fail
              show K _ _
              have := H.out _ (Ext.refl _)
              rw [HFR.out] at this
              obtain u23 := HU.out
              rw [u23] at this
              exact this
            · rintro L A W K hL hC hW ⟨V, rfl, HV, s0⟩ hK
              have e24 : V 24 = .bool true := HV 24 _ rfl (hW 24 rfl)
              have H := Lib.hid (show ∀ W', Ext W W' → K (fr (upd V 25 (undef))) W' from fun W' he => hK _ _ ⟨upd V 25 (undef), rfl, HV.up 25 _ (fun x hx => Option.some.inj hx), ScJ.ext s0 he⟩)
              have HU := Lib.hid (show (upd V 25 (undef)) 24 = .bool true from e24)
              clear hK hC hW hL HV s0
              rw [HFR.out]
              rw [e24]
              clear e24
              go_wp2_with fail
              show K _ _
              have := H.out _ (Ext.refl _)
              rw [HFR.out] at this
              obtain u24 := HU.out
              rw [u24] at this
              exact this
            · rintro L A W K hL hC hW ⟨V, rfl, HV, s0⟩ hK
              have e24 : V 24 = .bool true := HV 24 _ rfl (hW 24 rfl)
              have H := Lib.hid (show ∀ W', Ext W W' → K (fr (upd V 26 (undef))) W' from fun W' he => hK _ _ ⟨upd V 26 (undef), rfl, HV.up 26 _ (fun x hx => Option.some.inj hx), ScJ.ext s0 he⟩)
              have HU := Lib.hid (show (upd V 26 (undef)) 24 = .bool true from e24)
              clear hK hC hW hL HV s0
              rw [HFR.out]
              rw [e24]
              clear e24
              go_wp2_with fail
              show K _ _
              have := H.out _ (Ext.refl _)
              rw [HFR.out] at this
              obtain u24 := HU.out
              rw [u24] at this
              exact this
            · rintro L A W K hL hC hW ⟨V, rfl, HV, s0⟩ hK
              have e24 : V 24 = .bool true := HV 24 _ rfl (hW 24 rfl)
              have e25 : V 25 = undef := HV 25 _ rfl (hW 25 rfl)
              have e26 : V 26 = undef := HV 26 _ rfl (hW 26 rfl)
              have H := Lib.hid (show ∀ W', Ext W W' → K (fr (upd V 27 (undef))) W' from fun W' he => hK _ _ ⟨upd V 27 (undef), rfl, HV.up 27 _ (fun x hx => Option.some.inj hx), ScJ.ext s0 he⟩)
              have HU := Lib.hid (show (upd V 27 (undef)) 24 = .bool true ∧ (upd V 27 (undef)) 25 = undef ∧ (upd V 27 (undef)) 26 = undef from ⟨e24, e25, e26⟩)
              clear hK hC hW hL HV s0
              rw [HFR.out]
              rw [e24, e25, e26]
              clear e24 e25 e26
              go_wp2_with fail
              show K _ _
              have := H.out _ (Ext.refl _)
              rw [HFR.out] at this
              obtain ⟨u24, u25, u26⟩ := HU.out
              rw [u24, u25, u26] at this
              exact this
            · rintro L A W K hL hC hW ⟨V, rfl, HV, s0⟩ hK
              have e24 : V 24 = .bool true := HV 24 _ rfl (hW 24 rfl)
              have e27 : V 27 = undef := HV 27 _ rfl (hW 27 rfl)
              have H := Lib.hid (show ∀ W', Ext W W' → K (fr (upd V 28 (undef))) W' from fun W' he => hK _ _ ⟨upd V 28 (undef), rfl, HV.up 28 _ (fun x hx => Option.some.inj hx), ScJ.ext s0 he⟩)
              have HU := Lib.hid (show (upd V 28 (undef)) 24 = .bool true ∧ (upd V 28 (undef)) 27 = undef from ⟨e24, e27⟩)
              clear hK hC hW hL HV s0
              rw [HFR.out]
              rw [e24, e27]
              clear e24 e27
              go_wp2_with fail
              show K _ _
              have := H.out _ (Ext.refl _)
              rw [HFR.out] at this
              obtain ⟨u24, u27⟩ := HU.out
              rw [u24, u27] at this
              exact this
            · rintro L A W K hL hC hW ⟨V, rfl, HV, s0⟩ hK
              have e24 : V 24 = .bool true := HV 24 _ rfl (hW 24 rfl)
              have e28 : V 28 = undef := HV 28 _ rfl (hW 28 rfl)
              have H := Lib.hid (show ∀ W', Ext W W' → K (fr (upd V 29 (undef))) W' from fun W' he => hK _ _ ⟨upd V 29 (undef), rfl, HV.up 29 _ (fun x hx => Option.some.inj hx), ScJ.ext s0 he⟩)
              have HU := Lib.hid (show (upd V 29 (undef)) 24 = .bool true ∧ (upd V 29 (undef)) 28 = undef from ⟨e24, e28⟩)
              clear hK hC hW hL HV s0
              rw [HFR.out]
              rw [e24, e28]
              clear e24 e28
              go_wp2_with fail
              show K _ _
              have := H.out _ (Ext.refl _)
              rw [HFR.out] at this
              obtain ⟨u24, u28⟩ := HU.out
              rw [u24, u28] at this
              exact this
            · rintro L A W K hL hC hW ⟨V, rfl, HV, s0⟩ hK
              have e24 : V 24 = .bool true := HV 24 _ rfl (hW 24 rfl)
              have H := Lib.hid (show ∀ W', Ext W W' → K (fr (upd V 30 (undef))) W' from fun W' he => hK _ _ ⟨upd V 30 (undef), rfl, HV.up 30 _ (fun x hx => Option.some.inj hx), ScJ.ext s0 he⟩)
              have HU := Lib.hid (show (upd V 30 (undef)) 24 = .bool true from e24)
              clear hK hC hW hL HV s0
              rw [HFR.out]
              rw [e24]
              clear e24
              go_wp2_with fail
              show K _ _
              have := H.out _ (Ext.refl _)
              rw [HFR.out] at this
              obtain u24 := HU.out
              rw [u24] at this
              exact this
            · rintro L A W K hL hC hW ⟨V, rfl, HV, s0⟩ hK
              have e24 : V 24 = .bool true := HV 24 _ rfl (hW 24 rfl)
              have H := Lib.hid (show ∀ W', Ext W W' → K (fr (upd V 31 (undef))) W' from fun W' he => hK _ _ ⟨upd V 31 (undef), rfl, HV.up 31 _ (fun x hx => Option.some.inj hx), ScJ.ext s0 he⟩)
              have HU := Lib.hid (show (upd V 31 (undef)) 24 = .bool true from e24)
              clear hK hC hW hL HV s0
              rw [HFR.out]
              rw [e24]
              clear e24
              go_wp2_with fail
              show K _ _
              have := H.out _ (Ext.refl _)
              rw [HFR.out] at this
              obtain u24 := HU.out
              rw [u24] at this
              exact this
            · rintro L A W K hL hC hW ⟨V, rfl, HV, s0⟩ hK
              have e24 : V 24 = .bool true := HV 24 _ rfl (hW 24 rfl)
              have e30 : V 30 = undef := HV 30 _ rfl (hW 30 rfl)
              have e31 : V 31 = undef := HV 31 _ rfl (hW 31 rfl)
              have H := Lib.hid (show ∀ W', Ext W W' → K (fr (upd V 32 (undef))) W' from fun W' he => hK _ _ ⟨upd V 32 (undef), rfl, HV.up 32 _ (fun x hx => Option.some.inj hx), ScJ.ext s0 he⟩)
              have HU := Lib.hid (show (upd V 32 (undef)) 24 = .bool true ∧ (upd V 32 (undef)) 30 = undef ∧ (upd V 32 (undef)) 31 = undef from ⟨e24, e30, e31⟩)
              clear hK hC hW hL HV s0
              rw [HFR.out]
              rw [e24, e30, e31]
              clear e24 e30 e31
              go_wp2_with fail
              show K _ _
              have := H.out _ (Ext.refl _)
              rw [HFR.out] at this
              obtain ⟨u24, u30, u31⟩ := HU.out
              rw [u24, u30, u31] at this
              exact this
            · rintro L A W K hL hC hW ⟨V, rfl, HV, s0⟩ hK
              have e24 : V 24 = .bool true := HV 24 _ rfl (hW 24 rfl)
              have e32 : V 32 = undef := HV 32 _ rfl (hW 32 rfl)
              have H := Lib.hid (show ∀ W', Ext W W' → K (fr (upd V 33 (undef))) W' from fun W' he => hK _ _ ⟨upd V 33 (undef), rfl, HV.up 33 _ (fun x hx => Option.some.inj hx), ScJ.ext s0 he⟩)
              have HU := Lib.hid (show (upd V 33 (undef)) 24 = .bool true ∧ (upd V 33 (undef)) 32 = undef from ⟨e24, e32⟩)
              clear hK hC hW hL HV s0
              rw [HFR.out]
              rw [e24, e32]
              clear e24 e32
              go_wp2_with fail
              show K _ _
              have := H.out _ (Ext.refl _)
              rw [HFR.out] at this
              obtain ⟨u24, u32⟩ := HU.out
              rw [u24, u32] at this
              exact this
            · rintro L A W K hL hC hW ⟨V, rfl, HV, s0⟩ hK
              have e24 : V 24 = .bool true := HV 24 _ rfl (hW 24 rfl)
              have e33 : V 33 = undef := HV 33 _ rfl (hW 33 rfl)
              have H := Lib.hid (show ∀ W', Ext W W' → K (fr (upd V 34 (undef))) W' from fun W' he => hK _ _ ⟨upd V 34 (undef), rfl, HV.up 34 _ (fun x hx => Option.some.inj hx), ScJ.ext s0 he⟩)
              have HU := Lib.hid (show (upd V 34 (undef)) 24 = .bool true ∧ (upd V 34 (undef)) 33 = undef from ⟨e24, e33⟩)
              clear hK hC hW hL HV s0
              rw [HFR.out]
              rw [e24, e33]
              clear e24 e33
              go_wp2_with fail
              show K _ _
              have := H.out _ (Ext.refl _)
              rw [HFR.out] at this
              obtain ⟨u24, u33⟩ := HU.out
              rw [u24, u33] at this
              exact this
            · rintro L A W K hL hC hW ⟨V, rfl, HV, s0⟩ hK
              have e24 : V 24 = .bool true := HV 24 _ rfl (hW 24 rfl)
              have e29 : V 29 = undef := HV 29 _ rfl (hW 29 rfl)
              have e34 : V 34 = undef := HV 34 _ rfl (hW 34 rfl)
              have H := Lib.hid (show ∀ W', Ext W W' → K (fr (upd V 35 (undef))) W' from fun W' he => hK _ _ ⟨upd V 35 (undef), rfl, HV.up 35 _ (fun x hx => Option.some.inj hx), ScJ.ext s0 he⟩)
              have HU := Lib.hid (show (upd V 35 (undef)) 24 = .bool true ∧ (upd V 35 (undef)) 29 = undef ∧ (upd V 35 (undef)) 34 = undef from ⟨e24, e29, e34⟩)
              clear hK hC hW hL HV s0
              rw [HFR.out]
              rw [e24, e29, e34]
              clear e24 e29 e34
              go_wp2_with fail
              show K _ _
              have := H.out _ (Ext.refl _)
              rw [HFR.out] at this
              obtain ⟨u24, u29, u34⟩ := HU.out
              rw [u24, u29, u34] at this
              exact this
            · rintro L A W K hL hC hW ⟨V, rfl, HV, s0⟩ hK
              have e24 : V 24 = .bool true := HV 24 _ rfl (hW 24 rfl)
              have e35 : V 35 = undef := HV 35 _ rfl (hW 35 rfl)
              have H := Lib.hid (show ∀ W', Ext W W' → K (fr (upd V 36 (undef))) W' from fun W' he => hK _ _ ⟨upd V 36 (undef), rfl, HV.up 36 _ (fun x hx => Option.some.inj hx), ScJ.ext s0 he⟩)
              have HU := Lib.hid (show (upd V 36 (undef)) 24 = .bool true ∧ (upd V 36 (undef)) 35 = undef from ⟨e24, e35⟩)
              clear hK hC hW hL HV s0
              rw [HFR.out]
              rw [e24, e35]
              clear e24 e35
              go_wp2_with fail
              show K _ _
              have := H.out _ (Ext.refl _)
              rw [HFR.out] at this
              obtain ⟨u24, u35⟩ := HU.out
              rw [u24, u35] at this
              exact this
            · rintro L A W K hL hC hW ⟨V, rfl, HV, s0⟩ hK
              have e24 : V 24 = .bool true := HV 24 _ rfl (hW 24 rfl)
              have e36 : V 36 = undef := HV 36 _ rfl (hW 36 rfl)
              have H := Lib.hid (show ∀ W', Ext W W' → K (fr (upd V 37 (.bool true))) W' from fun W' he => hK _ _ ⟨upd V 37 (.bool true), rfl, HV.up 37 _ (fun x hx => Option.some.inj hx), ScJ.ext s0 he⟩)
              have HU := Lib.hid (show (upd V 37 (.bool true)) 24 = .bool true ∧ (upd V 37 (.bool true)) 36 = undef from ⟨e24, e36⟩)
              clear hK hC hW hL HV s0
              rw [HFR.out]
              rw [e24, e36]
              clear e24 e36
              go_wp2_with fail
              show K _ _
              have := H.out _ (Ext.refl _)
              rw [HFR.out] at this
              obtain ⟨u24, u36⟩ := HU.out
              rw [u24, u36] at this
              exact this
            · rintro L A W hL ⟨V, rfl, HV, s0⟩
              have e0 : V 0 = .slice (some ⟨b1, o1, none⟩) a.length c := HV 0 _ rfl (hL 0 (by simp))
              have e1 : V 1 = .int .i64 (k : Nat) := HV 1 _ rfl (hL 1 (by simp))
              have e2 : V 2 = .pointer (some ⟨b1, o1 + k * 6, none⟩) := HV 2 _ rfl (hL 2 (by simp))
              have e3 : V 3 = .pointer (some ⟨b1, o1 + k * 6, none⟩) := HV 3 _ rfl (hL 3 (by simp))
              have e4 : V 4 = .bool p.1 := HV 4 _ rfl (hL 4 (by simp))
              have e5 : V 5 = .slice (some ⟨b2, o2, none⟩) b.length c' := HV 5 _ rfl (hL 5 (by simp))
              have e6 : V 6 = .int .i64 (k : Nat) := HV 6 _ rfl (hL 6 (by simp))
              have e7 : V 7 = .pointer (some ⟨b2, o2 + k * 6, none⟩) := HV 7 _ rfl (hL 7 (by simp))
              have e8 : V 8 = .pointer (some ⟨b2, o2 + k * 6, none⟩) := HV 8 _ rfl (hL 8 (by simp))
              have e9 : V 9 = .bool q.1 := HV 9 _ rfl (hL 9 (by simp))
              have e10 : V 10 = .bool false := HV 10 _ rfl (hL 10 (by simp))
              have e11 : V 11 = .bool false := HV 11 _ rfl (hL 11 (by simp))
              have e12 : V 12 = .slice (some ⟨b1, o1, none⟩) a.length c := HV 12 _ rfl (hL 12 (by simp))
              have e13 : V 13 = .int .i64 (k : Nat) := HV 13 _ rfl (hL 13 (by simp))
              have e14 : V 14 = .pointer (some ⟨b1, o1 + k * 6, none⟩) := HV 14 _ rfl (hL 14 (by simp))
              have e15 : V 15 = .pointer (some ⟨b1, o1 + k * 6 + 1, none⟩) := HV 15 _ rfl (hL 15 (by simp))
              have e16 : V 16 = wv p.2.1 := HV 16 _ rfl (hL 16 (by simp))
              have e17 : V 17 = .slice (some ⟨b2, o2, none⟩) b.length c' := HV 17 _ rfl (hL 17 (by simp))
              have e18 : V 18 = .int .i64 (k : Nat) := HV 18 _ rfl (hL 18 (by simp))
              have e19 : V 19 = .pointer (some ⟨b2, o2 + k * 6, none⟩) := HV 19 _ rfl (hL 19 (by simp))
              have e20 : V 20 = .pointer (some ⟨b2, o2 + k * 6 + 1, none⟩) := HV 20 _ rfl (hL 20 (by simp))
              have e21 : V 21 = wv q.2.1 := HV 21 _ rfl (hL 21 (by simp))
              have e22 : V 22 = .bool true := HV 22 _ rfl (hL 22 (by simp))
              have e23 : V 23 = .bool true := HV 23 _ rfl (hL 23 (by simp))
              have e24 : V 24 = .bool true := HV 24 _ rfl (hL 24 (by simp))
              have e25 : V 25 = undef := HV 25 _ rfl (hL 25 (by simp))
              have e26 : V 26 = undef := HV 26 _ rfl (hL 26 (by simp))
              have e27 : V 27 = undef := HV 27 _ rfl (hL 27 (by simp))
              have e28 : V 28 = undef := HV 28 _ rfl (hL 28 (by simp))
              have e29 : V 29 = undef := HV 29 _ rfl (hL 29 (by simp))
              have e30 : V 30 = undef := HV 30 _ rfl (hL 30 (by simp))
              have e31 : V 31 = undef := HV 31 _ rfl (hL 31 (by simp))
              have e32 : V 32 = undef := HV 32 _ rfl (hL 32 (by simp))
              have e33 : V 33 = undef := HV 33 _ rfl (hL 33 (by simp))
              have e34 : V 34 = undef := HV 34 _ rfl (hL 34 (by simp))
              have e35 : V 35 = undef := HV 35 _ rfl (hL 35 (by simp))
              have e36 : V 36 = undef := HV 36 _ rfl (hL 36 (by simp))
              have e37 : V 37 = .bool true := HV 37 _ rfl (hL 37 (by simp))
              have hA := s0
              rw [HFR.out]
              rw [e0, e1, e2, e3, e4, e5, e6, e7, e8, e9, e10, e11, e12, e13, e14, e15, e16, e17, e18, e19, e20, e21, e22, e23, e24, e25, e26, e27, e28, e29, e30, e31, e32, e33, e34, e35, e36, e37]
              clear hL HV HFR e0 e1 e2 e3 e4 e5 e6 e7 e8 e9 e10 e11 e12 e13 e14 e15 e16 e17 e18 e19 e20 e21 e22 e23 e24 e25 e26 e27 e28 e29 e30 e31 e32 e33 e34 e35 e36 e37 s0
              have HEJ := Lib.hid hA.2.2.2.2
              clear hA
              go_wp2_with fail
              go_ret
              exact ⟨by rw [HF.out]; rfl, HEJ.out⟩
          | false =>
            have HPQ := Lib.hid (samP_at p q hq1 hq2)
            have HQ2 := Lib.hid hq2
            clear hq2
            obtain ⟨r, hr⟩ : ∃ r, (p.2.2 == q.2.2) = r := ⟨_, rfl⟩
            have HRR := Lib.hid hr
            clear hr
            go_upto_region 6 with (fail)
            refine wp_named fun a0 ha0 => ?_
            obtain ⟨fr, hfr⟩ : ∃ fr : (Nat → Value) → Act, ∀ V, fr V = ((((((((((((((((((((((((((((((((((((((a0.put (some 16) (V 0)).put (some 17) (V 1)).put (some 18) (V 2)).put (some 19) (V 3)).put (some 20) (V 4)).put (some 21) (V 5)).put (some 22) (V 6)).put (some 23) (V 7)).put (some 24) (V 8)).put (some 25) (V 9)).put (some 26) (V 10)).put (some 27) (V 11)).put (some 28) (V 12)).put (some 29) (V 13)).put (some 30) (V 14)).put (some 31) (V 15)).put (some 32) (V 16)).put (some 33) (V 17)).put (some 34) (V 18)).put (some 35) (V 19)).put (some 36) (V 20)).put (some 37) (V 21)).put (some 38) (V 22)).put (some 39) (V 23)).put (some 40) (V 24)).put (some 41) (V 25)).put (some 42) (V 26)).put (some 43) (V 27)).put (some 44) (V 28)).put (some 45) (V 29)).put (some 46) (V 30)).put (some 47) (V 31)).put (some 48) (V 32)).put (some 49) (V 33)).put (some 50) (V 34)).put (some 51) (V 35)).put (some 52) (V 36)).put (some 53) (V 37)) := ⟨fun V => ((((((((((((((((((((((((((((((((((((((a0.put (some 16) (V 0)).put (some 17) (V 1)).put (some 18) (V 2)).put (some 19) (V 3)).put (some 20) (V 4)).put (some 21) (V 5)).put (some 22) (V 6)).put (some 23) (V 7)).put (some 24) (V 8)).put (some 25) (V 9)).put (some 26) (V 10)).put (some 27) (V 11)).put (some 28) (V 12)).put (some 29) (V 13)).put (some 30) (V 14)).put (some 31) (V 15)).put (some 32) (V 16)).put (some 33) (V 17)).put (some 34) (V 18)).put (some 35) (V 19)).put (some 36) (V 20)).put (some 37) (V 21)).put (some 38) (V 22)).put (some 39) (V 23)).put (some 40) (V 24)).put (some 41) (V 25)).put (some 42) (V 26)).put (some 43) (V 27)).put (some 44) (V 28)).put (some 45) (V 29)).put (some 46) (V 30)).put (some 47) (V 31)).put (some 48) (V 32)).put (some 49) (V 33)).put (some 50) (V 34)).put (some 51) (V 35)).put (some 52) (V 36)).put (some 53) (V 37)), fun _ => rfl⟩
            rw [ha0] at hfr
            simp only [Act.put, List.setIfInBounds_toArray, List.set_cons_zero, List.set_cons_succ] at hfr
            have HFR := Lib.hid hfr
            clear hfr
            refine wp_region_inv (by kernel_rfl) (by kernel_rfl) (fun L A W => ∃ V : Nat → Value, A = fr V ∧ Vals (fun j => ([some (.slice (some ⟨b1, o1, none⟩) a.length c), some (.int .i64 (k : Nat)), some (.pointer (some ⟨b1, o1 + k * 6, none⟩)), some (.pointer (some ⟨b1, o1 + k * 6, none⟩)), some (.bool p.1), some (.slice (some ⟨b2, o2, none⟩) b.length c'), some (.int .i64 (k : Nat)), some (.pointer (some ⟨b2, o2 + k * 6, none⟩)), some (.pointer (some ⟨b2, o2 + k * 6, none⟩)), some (.bool q.1), some (.bool false), some (.bool false), some (.slice (some ⟨b1, o1, none⟩) a.length c), some (.int .i64 (k : Nat)), some (.pointer (some ⟨b1, o1 + k * 6, none⟩)), some (.pointer (some ⟨b1, o1 + k * 6 + 1, none⟩)), some (wv p.2.1), some (.slice (some ⟨b2, o2, none⟩) b.length c'), some (.int .i64 (k : Nat)), some (.pointer (some ⟨b2, o2 + k * 6, none⟩)), some (.pointer (some ⟨b2, o2 + k * 6 + 1, none⟩)), some (wv q.2.1), some (.bool false), some (.bool false), some (.bool false), some (.slice (some ⟨b1, o1, none⟩) a.length c), some (.int .i64 (k : Nat)), some (.pointer (some ⟨b1, o1 + k * 6, none⟩)), some (.pointer (some ⟨b1, o1 + k * 6 + 5, none⟩)), some (u1), some (.slice (some ⟨b2, o2, none⟩) b.length c'), some (.int .i64 (k : Nat)), some (.pointer (some ⟨b2, o2 + k * 6, none⟩)), some (.pointer (some ⟨b2, o2 + k * 6 + 5, none⟩)), some (u2), some (.bool r), some (.bool (!r)), some (.bool (!r))] : List (Option Value)).getD j none) L V ∧ (ScJ w b1 (o1 + k * 6) p u1 b2 (o2 + k * 6) q u2 W)) ?_ ⟨?_, ?_, ?_, ?_, ?_, ?_, ?_, ?_, ?_, ?_, ?_, ?_, ?_, ?_, ?_, ?_, ?_, ?_, ?_, ?_, ?_, ?_, ?_, ?_, ?_, ?_, ?_, ?_, ?_, ?_, ?_, ?_, ?_, ?_, ?_, ?_, ?_, ?_, trivial⟩ ?_
            · refine ⟨fun j => a0.tmps.getD (([16, 17, 18, 19, 20, 21, 22, 23, 24, 25, 26, 27, 28, 29, 30, 31, 32, 33, 34, 35, 36, 37, 38, 39, 40, 41, 42, 43, 44, 45, 46, 47, 48, 49, 50, 51, 52, 53] : List Nat).getD j 0) undef, ?_, Vals.no _ _ _ (far_none _ _ rfl), HJ0.out.ext (Ext.refl _).drew⟩
              rw [HFR.out, ha0]
              rfl
            all_goals clear ha0
            · rintro L A W K hL hC hW ⟨V, rfl, HV, s0⟩ hK
              have H := Lib.hid (show ∀ W', Ext W W' → K (fr (upd V 0 (.slice (some ⟨b1, o1, none⟩) a.length c))) W' from fun W' he => hK _ _ ⟨upd V 0 (.slice (some ⟨b1, o1, none⟩) a.length c), rfl, HV.up 0 _ (fun x hx => Option.some.inj hx), ScJ.ext s0 he⟩)
              clear hK hC hW hL HV s0
              rw [HFR.out]
              go_wp2_with fail
              show K _ _
              have := H.out _ (Ext.refl _)
              rw [HFR.out] at this
              exact this
            · rintro L A W K hL hC hW ⟨V, rfl, HV, s0⟩ hK
              have H := Lib.hid (show ∀ W', Ext W W' → K (fr (upd V 1 (.int .i64 (k : Nat)))) W' from fun W' he => hK _ _ ⟨upd V 1 (.int .i64 (k : Nat)), rfl, HV.up 1 _ (fun x hx => Option.some.inj hx), ScJ.ext s0 he⟩)
              clear hK hC hW hL HV s0
              rw [HFR.out]
              go_wp2_with fail
              show K _ _
              have := H.out _ (Ext.refl _)
              rw [HFR.out] at this
              exact this
            · rintro L A W K hL hC hW ⟨V, rfl, HV, s0⟩ hK
              have e0 : V 0 = .slice (some ⟨b1, o1, none⟩) a.length c := HV 0 _ rfl (hW 0 rfl)
              have e1 : V 1 = .int .i64 (k : Nat) := HV 1 _ rfl (hW 1 rfl)
              have H := Lib.hid (show ∀ W', Ext W W' → K (fr (upd V 2 (.pointer (some ⟨b1, o1 + k * 6, none⟩)))) W' from fun W' he => hK _ _ ⟨upd V 2 (.pointer (some ⟨b1, o1 + k * 6, none⟩)), rfl, HV.up 2 _ (fun x hx => Option.some.inj hx), ScJ.ext s0 he⟩)
              have HU := Lib.hid (show (upd V 2 (.pointer (some ⟨b1, o1 + k * 6, none⟩))) 0 = .slice (some ⟨b1, o1, none⟩) a.length c ∧ (upd V 2 (.pointer (some ⟨b1, o1 + k * 6, none⟩))) 1 = .int .i64 (k : Nat) from ⟨e0, e1⟩)
              clear hK hC hW hL HV s0
              rw [HFR.out]
              rw [e0, e1]
              clear e0 e1
              go_wp2_with fail
              show K _ _
              have := H.out _ (Ext.refl _)
              rw [HFR.out] at this
              obtain ⟨u0, u1⟩ := HU.out
              rw [u0, u1] at this
              exact this
            · rintro L A W K hL hC hW ⟨V, rfl, HV, s0⟩ hK
              have e2 : V 2 = .pointer (some ⟨b1, o1 + k * 6, none⟩) := HV 2 _ rfl (hW 2 rfl)
              have H := Lib.hid (show ∀ W', Ext W W' → K (fr (upd V 3 (.pointer (some ⟨b1, o1 + k * 6, none⟩)))) W' from fun W' he => hK _ _ ⟨upd V 3 (.pointer (some ⟨b1, o1 + k * 6, none⟩)), rfl, HV.up 3 _ (fun x hx => Option.some.inj hx), ScJ.ext s0 he⟩)
              have HU := Lib.hid (show (upd V 3 (.pointer (some ⟨b1, o1 + k * 6, none⟩))) 2 = .pointer (some ⟨b1, o1 + k * 6, none⟩) from e2)
              clear hK hC hW hL HV s0
              rw [HFR.out]
              rw [e2]
              clear e2
              go_wp2_with fail
              show K _ _
              have := H.out _ (Ext.refl _)
              rw [HFR.out] at this
              obtain u2 := HU.out
              rw [u2] at this
              exact this
            · rintro L A W K hL hC hW ⟨V, rfl, HV, s0⟩ hK
              have e3 : V 3 = .pointer (some ⟨b1, o1 + k * 6, none⟩) := HV 3 _ rfl (hW 3 rfl)
              have hB := s0
              have H := Lib.hid (show ∀ W', Ext W W' → K (fr (upd V 4 (.bool p.1))) W' from fun W' he => hK _ _ ⟨upd V 4 (.bool p.1), rfl, HV.up 4 _ (fun x hx => Option.some.inj hx), ScJ.ext s0 he⟩)
              have HU := Lib.hid (show (upd V 4 (.bool p.1)) 3 = .pointer (some ⟨b1, o1 + k * 6, none⟩) from e3)
              clear hK hC hW hL HV s0
              rw [HFR.out]
              rw [e3]
              clear e3
              have hcl := rng0 hB.1
              clear hB
              go_wp2_with fail
              show K _ _
              have := H.out _ (Ext.refl _)
              rw [HFR.out] at this
              obtain u3 := HU.out
              rw [u3] at this
              exact this
            · rintro L A W K hL hC hW ⟨V, rfl, HV, s0⟩ hK
              have H := Lib.hid (show ∀ W', Ext W W' → K (fr (upd V 5 (.slice (some ⟨b2, o2, none⟩) b.length c'))) W' from fun W' he => hK _ _ ⟨upd V 5 (.slice (some ⟨b2, o2, none⟩) b.length c'), rfl, HV.up 5 _ (fun x hx => Option.some.inj hx), ScJ.ext s0 he⟩)
              clear hK hC hW hL HV s0
              rw [HFR.out]
              go_wp2_with fail
              show K _ _
              have := H.out _ (Ext.refl _)
              rw [HFR.out] at this
              exact this
            · rintro L A W K hL hC hW ⟨V, rfl, HV, s0⟩ hK
              have H := Lib.hid (show ∀ W', Ext W W' → K (fr (upd V 6 (.int .i64 (k : Nat)))) W' from fun W' he => hK _ _ ⟨upd V 6 (.int .i64 (k : Nat)), rfl, HV.up 6 _ (fun x hx => Option.some.inj hx), ScJ.ext s0 he⟩)
              clear hK hC hW hL HV s0
              rw [HFR.out]
              go_wp2_with fail
              show K _ _
              have := H.out _ (Ext.refl _)
              rw [HFR.out] at this
              exact this
            · rintro L A W K hL hC hW ⟨V, rfl, HV, s0⟩ hK
              have e5 : V 5 = .slice (some ⟨b2, o2, none⟩) b.length c' := HV 5 _ rfl (hW 5 rfl)
              have e6 : V 6 = .int .i64 (k : Nat) := HV 6 _ rfl (hW 6 rfl)
              have H := Lib.hid (show ∀ W', Ext W W' → K (fr (upd V 7 (.pointer (some ⟨b2, o2 + k * 6, none⟩)))) W' from fun W' he => hK _ _ ⟨upd V 7 (.pointer (some ⟨b2, o2 + k * 6, none⟩)), rfl, HV.up 7 _ (fun x hx => Option.some.inj hx), ScJ.ext s0 he⟩)
              have HU := Lib.hid (show (upd V 7 (.pointer (some ⟨b2, o2 + k * 6, none⟩))) 5 = .slice (some ⟨b2, o2, none⟩) b.length c' ∧ (upd V 7 (.pointer (some ⟨b2, o2 + k * 6, none⟩))) 6 = .int .i64 (k : Nat) from ⟨e5, e6⟩)
              clear hK hC hW hL HV s0
              rw [HFR.out]
              rw [e5, e6]
              clear e5 e6
              go_wp2_with fail
              show K _ _
              have := H.out _ (Ext.refl _)
              rw [HFR.out] at this
              obtain ⟨u5, u6⟩ := HU.out
              rw [u5, u6] at this
              exact this
            · rintro L A W K hL hC hW ⟨V, rfl, HV, s0⟩ hK
              have e7 : V 7 = .pointer (some ⟨b2, o2 + k * 6, none⟩) := HV 7 _ rfl (hW 7 rfl)
              have H := Lib.hid (show ∀ W', Ext W W' → K (fr (upd V 8 (.pointer (some ⟨b2, o2 + k * 6, none⟩)))) W' from fun W' he => hK _ _ ⟨upd V 8 (.pointer (some ⟨b2, o2 + k * 6, none⟩)), rfl, HV.up 8 _ (fun x hx => Option.some.inj hx), ScJ.ext s0 he⟩)
              have HU := Lib.hid (show (upd V 8 (.pointer (some ⟨b2, o2 + k * 6, none⟩))) 7 = .pointer (some ⟨b2, o2 + k * 6, none⟩) from e7)
              clear hK hC hW hL HV s0
              rw [HFR.out]
              rw [e7]
              clear e7
              go_wp2_with fail
              show K _ _
              have := H.out _ (Ext.refl _)
              rw [HFR.out] at this
              obtain u7 := HU.out
              rw [u7] at this
              exact this
            · rintro L A W K hL hC hW ⟨V, rfl, HV, s0⟩ hK
              have e8 : V 8 = .pointer (some ⟨b2, o2 + k * 6, none⟩) := HV 8 _ rfl (hW 8 rfl)
              have hB := s0
              have H := Lib.hid (show ∀ W', Ext W W' → K (fr (upd V 9 (.bool q.1))) W' from fun W' he => hK _ _ ⟨upd V 9 (.bool q.1), rfl, HV.up 9 _ (fun x hx => Option.some.inj hx), ScJ.ext s0 he⟩)
              have HU := Lib.hid (show (upd V 9 (.bool q.1)) 8 = .pointer (some ⟨b2, o2 + k * 6, none⟩) from e8)
              clear hK hC hW hL HV s0
              rw [HFR.out]
              rw [e8]
              clear e8
              have hcl := rng0 hB.2.1
              clear hB
              go_wp2_with fail
              show K _ _
              have := H.out _ (Ext.refl _)
              rw [HFR.out] at this
              obtain u8 := HU.out
              rw [u8] at this
              exact this
            · rintro L A W K hL hC hW ⟨V, rfl, HV, s0⟩ hK
              have e4 : V 4 = .bool p.1 := HV 4 _ rfl (hW 4 rfl)
              have e9 : V 9 = .bool q.1 := HV 9 _ rfl (hW 9 rfl)
              have H := Lib.hid (show ∀ W', Ext W W' → K (fr (upd V 10 (.bool false))) W' from fun W' he => hK _ _ ⟨upd V 10 (.bool false), rfl, HV.up 10 _ (fun x hx => Option.some.inj hx), ScJ.ext s0 he⟩)
              have HU := Lib.hid (show (upd V 10 (.bool false)) 4 = .bool p.1 ∧ (upd V 10 (.bool false)) 9 = .bool q.1 from ⟨e4, e9⟩)
              clear hK hC hW hL HV s0
              rw [HFR.out]
              rw [e4, e9]
              clear e4 e9
              go_wp2_with fail
              show K _ _
              have := H.out _ (Ext.refl _)
              rw [HFR.out] at this
              obtain ⟨u4, u9⟩ := HU.out
              rw [u4, u9] at this
              exact this
            · rintro L A W K hL hC hW ⟨V, rfl, HV, s0⟩ hK
              have e10 : V 10 = .bool false := HV 10 _ rfl (hW 10 rfl)
              have H := Lib.hid (show ∀ W', Ext W W' → K (fr (upd V 11 (.bool false))) W' from fun W' he => hK _ _ ⟨upd V 11 (.bool false), rfl, HV.up 11 _ (fun x hx => Option.some.inj hx), ScJ.ext s0 he⟩)
              have HU := Lib.hid (show (upd V 11 (.bool false)) 10 = .bool false from e10)
              clear hK hC hW hL HV s0
              rw [HFR.out]
              rw [e10]
              clear e10
              go_wp2_with fail
              show K _ _
              have := H.out _ (Ext.refl _)
              rw [HFR.out] at this
              obtain u10 := HU.out
              rw [u10] at this
              exact this
            · rintro L A W K hL hC hW ⟨V, rfl, HV, s0⟩ hK
              have e11 : V 11 = .bool false := HV 11 _ rfl (hW 11 rfl)
              have H := Lib.hid (show ∀ W', Ext W W' → K (fr (upd V 12 (.slice (some ⟨b1, o1, none⟩) a.length c))) W' from fun W' he => hK _ _ ⟨upd V 12 (.slice (some ⟨b1, o1, none⟩) a.length c), rfl, HV.up 12 _ (fun x hx => Option.some.inj hx), ScJ.ext s0 he⟩)
              have HU := Lib.hid (show (upd V 12 (.slice (some ⟨b1, o1, none⟩) a.length c)) 11 = .bool false from e11)
              clear hK hC hW hL HV s0
              rw [HFR.out]
              rw [e11]
              clear e11
              go_wp2_with fail
              show K _ _
              have := H.out _ (Ext.refl _)
              rw [HFR.out] at this
              obtain u11 := HU.out
              rw [u11] at this
              exact this
            · rintro L A W K hL hC hW ⟨V, rfl, HV, s0⟩ hK
              have e11 : V 11 = .bool false := HV 11 _ rfl (hW 11 rfl)
              have H := Lib.hid (show ∀ W', Ext W W' → K (fr (upd V 13 (.int .i64 (k : Nat)))) W' from fun W' he => hK _ _ ⟨upd V 13 (.int .i64 (k : Nat)), rfl, HV.up 13 _ (fun x hx => Option.some.inj hx), ScJ.ext s0 he⟩)
              have HU := Lib.hid (show (upd V 13 (.int .i64 (k : Nat))) 11 = .bool false from e11)
              clear hK hC hW hL HV s0
              rw [HFR.out]
              rw [e11]
              clear e11
              go_wp2_with fail
              show K _ _
              have := H.out _ (Ext.refl _)
              rw [HFR.out] at this
              obtain u11 := HU.out
              rw [u11] at this
              exact this
            · rintro L A W K hL hC hW ⟨V, rfl, HV, s0⟩ hK
              have e11 : V 11 = .bool false := HV 11 _ rfl (hW 11 rfl)
              have e12 : V 12 = .slice (some ⟨b1, o1, none⟩) a.length c := HV 12 _ rfl (hW 12 rfl)
              have e13 : V 13 = .int .i64 (k : Nat) := HV 13 _ rfl (hW 13 rfl)
              have H := Lib.hid (show ∀ W', Ext W W' → K (fr (upd V 14 (.pointer (some ⟨b1, o1 + k * 6, none⟩)))) W' from fun W' he => hK _ _ ⟨upd V 14 (.pointer (some ⟨b1, o1 + k * 6, none⟩)), rfl, HV.up 14 _ (fun x hx => Option.some.inj hx), ScJ.ext s0 he⟩)
              have HU := Lib.hid (show (upd V 14 (.pointer (some ⟨b1, o1 + k * 6, none⟩))) 11 = .bool false ∧ (upd V 14 (.pointer (some ⟨b1, o1 + k * 6, none⟩))) 12 = .slice (some ⟨b1, o1, none⟩) a.length c ∧ (upd V 14 (.pointer (some ⟨b1, o1 + k * 6, none⟩))) 13 = .int .i64 (k : Nat) from ⟨e11, e12, e13⟩)
              clear hK hC hW hL HV s0
              rw [HFR.out]
              rw [e11, e12, e13]
              clear e11 e12 e13
              go_wp2_with fail
              show K _ _
              have := H.out _ (Ext.refl _)
              rw [HFR.out] at this
              obtain ⟨u11, u12, u13⟩ := HU.out
              rw [u11, u12, u13] at this
              exact this
            · rintro L A W K hL hC hW ⟨V, rfl, HV, s0⟩ hK
              have e11 : V 11 = .bool false := HV 11 _ rfl (hW 11 rfl)
              have e14 : V 14 = .pointer (some ⟨b1, o1 + k * 6, none⟩) := HV 14 _ rfl (hW 14 rfl)
              have H := Lib.hid (show ∀ W', Ext W W' → K (fr (upd V 15 (.pointer (some ⟨b1, o1 + k * 6 + 1, none⟩)))) W' from fun W' he => hK _ _ ⟨upd V 15 (.pointer (some ⟨b1, o1 + k * 6 + 1, none⟩)), rfl, HV.up 15 _ (fun x hx => Option.some.inj hx), ScJ.ext s0 he⟩)
              have HU := Lib.hid (show (upd V 15 (.pointer (some ⟨b1, o1 + k * 6 + 1, none⟩))) 11 = .bool false ∧ (upd V 15 (.pointer (some ⟨b1, o1 + k * 6 + 1, none⟩))) 14 = .pointer (some ⟨b1, o1 + k * 6, none⟩) from ⟨e11, e14⟩)
              clear hK hC hW hL HV s0
              rw [HFR.out]
              rw [e11, e14]
              clear e11 e14
              go_wp2_with fail
              show K _ _
              have := H.out _ (Ext.refl _)
              rw [HFR.out] at this
              obtain ⟨u11, u14⟩ := HU.out
              rw [u11, u14] at this
              exact this
            · rintro L A W K hL hC hW ⟨V, rfl, HV, s0⟩ hK
              have e11 : V 11 = .bool false := HV 11 _ rfl (hW 11 rfl)
              have e15 : V 15 = .pointer (some ⟨b1, o1 + k * 6 + 1, none⟩) := HV 15 _ rfl (hW 15 rfl)
              have hB := s0
              have H := Lib.hid (show ∀ W', Ext W W' → K (fr (upd V 16 (wv p.2.1))) W' from fun W' he => hK _ _ ⟨upd V 16 (wv p.2.1), rfl, HV.up 16 _ (fun x hx => Option.some.inj hx), ScJ.ext s0 he⟩)
              have HU := Lib.hid (show (upd V 16 (wv p.2.1)) 11 = .bool false ∧ (upd V 16 (wv p.2.1)) 15 = .pointer (some ⟨b1, o1 + k * 6 + 1, none⟩) from ⟨e11, e15⟩)
              clear hK hC hW hL HV s0
              rw [HFR.out]
              rw [e11, e15]
              clear e11 e15
              have HWD := Lib.hid (rngW hB.1)
              clear hB
              refine wpList_load_wordIn rfl (.tmp 31) rfl b1 (o1 + k * 6 + 1) p.2.1 rfl HWD.out ?_
              show K _ _
              have := H.out _ (Ext.refl _)
              rw [HFR.out] at this
              obtain ⟨u11, u15⟩ := HU.out
              rw [u11, u15] at this
              exact this
            · rintro L A W K hL hC hW ⟨V, rfl, HV, s0⟩ hK
              have e11 : V 11 = .bool false := HV 11 _ rfl (hW 11 rfl)
              have H := Lib.hid (show ∀ W', Ext W W' → K (fr (upd V 17 (.slice (some ⟨b2, o2, none⟩) b.length c'))) W' from fun W' he => hK _ _ ⟨upd V 17 (.slice (some ⟨b2, o2, none⟩) b.length c'), rfl, HV.up 17 _ (fun x hx => Option.some.inj hx), ScJ.ext s0 he⟩)
              have HU := Lib.hid (show (upd V 17 (.slice (some ⟨b2, o2, none⟩) b.length c')) 11 = .bool false from e11)
              clear hK hC hW hL HV s0
              rw [HFR.out]
              rw [e11]
              clear e11
              go_wp2_with fail
              show K _ _
              have := H.out _ (Ext.refl _)
              rw [HFR.out] at this
              obtain u11 := HU.out
              rw [u11] at this
              exact this
            · rintro L A W K hL hC hW ⟨V, rfl, HV, s0⟩ hK
              have e11 : V 11 = .bool false := HV 11 _ rfl (hW 11 rfl)
              have H := Lib.hid (show ∀ W', Ext W W' → K (fr (upd V 18 (.int .i64 (k : Nat)))) W' from fun W' he => hK _ _ ⟨upd V 18 (.int .i64 (k : Nat)), rfl, HV.up 18 _ (fun x hx => Option.some.inj hx), ScJ.ext s0 he⟩)
              have HU := Lib.hid (show (upd V 18 (.int .i64 (k : Nat))) 11 = .bool false from e11)
              clear hK hC hW hL HV s0
              rw [HFR.out]
              rw [e11]
              clear e11
              go_wp2_with fail
              show K _ _
              have := H.out _ (Ext.refl _)
              rw [HFR.out] at this
              obtain u11 := HU.out
              rw [u11] at this
              exact this
            · rintro L A W K hL hC hW ⟨V, rfl, HV, s0⟩ hK
              have e11 : V 11 = .bool false := HV 11 _ rfl (hW 11 rfl)
              have e17 : V 17 = .slice (some ⟨b2, o2, none⟩) b.length c' := HV 17 _ rfl (hW 17 rfl)
              have e18 : V 18 = .int .i64 (k : Nat) := HV 18 _ rfl (hW 18 rfl)
              have H := Lib.hid (show ∀ W', Ext W W' → K (fr (upd V 19 (.pointer (some ⟨b2, o2 + k * 6, none⟩)))) W' from fun W' he => hK _ _ ⟨upd V 19 (.pointer (some ⟨b2, o2 + k * 6, none⟩)), rfl, HV.up 19 _ (fun x hx => Option.some.inj hx), ScJ.ext s0 he⟩)
              have HU := Lib.hid (show (upd V 19 (.pointer (some ⟨b2, o2 + k * 6, none⟩))) 11 = .bool false ∧ (upd V 19 (.pointer (some ⟨b2, o2 + k * 6, none⟩))) 17 = .slice (some ⟨b2, o2, none⟩) b.length c' ∧ (upd V 19 (.pointer (some ⟨b2, o2 + k * 6, none⟩))) 18 = .int .i64 (k : Nat) from ⟨e11, e17, e18⟩)
              clear hK hC hW hL HV s0
              rw [HFR.out]
              rw [e11, e17, e18]
              clear e11 e17 e18
              go_wp2_with fail
              show K _ _
              have := H.out _ (Ext.refl _)
              rw [HFR.out] at this
              obtain ⟨u11, u17, u18⟩ := HU.out
              rw [u11, u17, u18] at this
              exact this
            · rintro L A W K hL hC hW ⟨V, rfl, HV, s0⟩ hK
              have e11 : V 11 = .bool false := HV 11 _ rfl (hW 11 rfl)
              have e19 : V 19 = .pointer (some ⟨b2, o2 + k * 6, none⟩) := HV 19 _ rfl (hW 19 rfl)
              have H := Lib.hid (show ∀ W', Ext W W' → K (fr (upd V 20 (.pointer (some ⟨b2, o2 + k * 6 + 1, none⟩)))) W' from fun W' he => hK _ _ ⟨upd V 20 (.pointer (some ⟨b2, o2 + k * 6 + 1, none⟩)), rfl, HV.up 20 _ (fun x hx => Option.some.inj hx), ScJ.ext s0 he⟩)
              have HU := Lib.hid (show (upd V 20 (.pointer (some ⟨b2, o2 + k * 6 + 1, none⟩))) 11 = .bool false ∧ (upd V 20 (.pointer (some ⟨b2, o2 + k * 6 + 1, none⟩))) 19 = .pointer (some ⟨b2, o2 + k * 6, none⟩) from ⟨e11, e19⟩)
              clear hK hC hW hL HV s0
              rw [HFR.out]
              rw [e11, e19]
              clear e11 e19
              go_wp2_with fail
              show K _ _
              have := H.out _ (Ext.refl _)
              rw [HFR.out] at this
              obtain ⟨u11, u19⟩ := HU.out
              rw [u11, u19] at this
              exact this
            · rintro L A W K hL hC hW ⟨V, rfl, HV, s0⟩ hK
              have e11 : V 11 = .bool false := HV 11 _ rfl (hW 11 rfl)
              have e20 : V 20 = .pointer (some ⟨b2, o2 + k * 6 + 1, none⟩) := HV 20 _ rfl (hW 20 rfl)
              have hB := s0
              have H := Lib.hid (show ∀ W', Ext W W' → K (fr (upd V 21 (wv q.2.1))) W' from fun W' he => hK _ _ ⟨upd V 21 (wv q.2.1), rfl, HV.up 21 _ (fun x hx => Option.some.inj hx), ScJ.ext s0 he⟩)
              have HU := Lib.hid (show (upd V 21 (wv q.2.1)) 11 = .bool false ∧ (upd V 21 (wv q.2.1)) 20 = .pointer (some ⟨b2, o2 + k * 6 + 1, none⟩) from ⟨e11, e20⟩)
              clear hK hC hW hL HV s0
              rw [HFR.out]
              rw [e11, e20]
              clear e11 e20
              have HWD := Lib.hid (rngW hB.2.1)
              clear hB
              refine wpList_load_wordIn rfl (.tmp 36) rfl b2 (o2 + k * 6 + 1) q.2.1 rfl HWD.out ?_
              show K _ _
              have := H.out _ (Ext.refl _)
              rw [HFR.out] at this
              obtain ⟨u11, u20⟩ := HU.out
              rw [u11, u20] at this
              exact this
            · rintro L A W K hL hC hW ⟨V, rfl, HV, s0⟩ hK
              have e11 : V 11 = .bool false := HV 11 _ rfl (hW 11 rfl)
              have e16 : V 16 = wv p.2.1 := HV 16 _ rfl (hW 16 rfl)
              have e21 : V 21 = wv q.2.1 := HV 21 _ rfl (hW 21 rfl)
              have hB := s0
              have H := Lib.hid (show ∀ W', Ext W W' → K (fr (upd V 22 (.bool false))) W' from fun W' he => hK _ _ ⟨upd V 22 (.bool false), rfl, HV.up 22 _ (fun x hx => Option.some.inj hx), ScJ.ext s0 he⟩)
              have HU := Lib.hid (show (upd V 22 (.bool false)) 11 = .bool false ∧ (upd V 22 (.bool false)) 16 = wv p.2.1 ∧ (upd V 22 (.bool false)) 21 = wv q.2.1 from ⟨e11, e16, e21⟩)
              clear hK hC hW hL HV s0
              rw [HFR.out]
              rw [e11, e16, e21]
              clear e11 e16 e21
              clear hB
              refine wpList_neq_word rfl (.tmp 32) (.tmp 37) rfl p.2.1 q.2.1 HW1.out HW2.out rfl rfl ?_
              rw [HQ2.out]
              show K _ _
              have := H.out _ (Ext.refl _)
              rw [HFR.out] at this
              obtain ⟨u11, u16, u21⟩ := HU.out
              rw [u11, u16, u21] at this
              exact this
            · rintro L A W K hL hC hW ⟨V, rfl, HV, s0⟩ hK
              have e11 : V 11 = .bool false := HV 11 _ rfl (hW 11 rfl)
              have e22 : V 22 = .bool false := HV 22 _ rfl (hW 22 rfl)
              have H := Lib.hid (show ∀ W', Ext W W' → K (fr (upd V 23 (.bool false))) W' from fun W' he => hK _ _ ⟨upd V 23 (.bool false), rfl, HV.up 23 _ (fun x hx => Option.some.inj hx), ScJ.ext s0 he⟩)
              have HU := Lib.hid (show (upd V 23 (.bool false)) 11 = .bool false ∧ (upd V 23 (.bool false)) 22 = .bool false from ⟨e11, e22⟩)
              clear hK hC hW hL HV s0
              rw [HFR.out]
              rw [e11, e22]
              clear e11 e22
              go_wp2_with fail
              show K _ _
              have := H.out _ (Ext.refl _)
              rw [HFR.out] at this
              obtain ⟨u11, u22⟩ := HU.out
              rw [u11, u22] at this
              exact this
            · rintro L A W K hL hC hW ⟨V, rfl, HV, s0⟩ hK
              have e23 : V 23 = .bool false := HV 23 _ rfl (hW 23 rfl)
              have H := Lib.hid (show ∀ W', Ext W W' → K (fr (upd V 24 (.bool false))) W' from fun W' he => hK _ _ ⟨upd V 24 (.bool false), rfl, HV.up 24 _ (fun x hx => Option.some.inj hx), ScJ.ext s0 he⟩)
              have HU := Lib.hid (show (upd V 24 (.bool false)) 23 = .bool false from e23)
              clear hK hC hW hL HV s0
              rw [HFR.out]
              rw [e23]
              clear e23
              go_wp2_with fail
              show K _ _
              have := H.out _ (Ext.refl _)
              rw [HFR.out] at this
              obtain u23 := HU.out
              rw [u23] at this
              exact this
            · rintro L A W K hL hC hW ⟨V, rfl, HV, s0⟩ hK
              have e24 : V 24 = .bool false := HV 24 _ rfl (hW 24 rfl)
              have H := Lib.hid (show ∀ W', Ext W W' → K (fr (upd V 25 (.slice (some ⟨b1, o1, none⟩) a.length c))) W' from fun W' he => hK _ _ ⟨upd V 25 (.slice (some ⟨b1, o1, none⟩) a.length c), rfl, HV.up 25 _ (fun x hx => Option.some.inj hx), ScJ.ext s0 he⟩)
              have HU := Lib.hid (show (upd V 25 (.slice (some ⟨b1, o1, none⟩) a.length c)) 24 = .bool false from e24)
              clear hK hC hW hL HV s0
              rw [HFR.out]
              rw [e24]
              clear e24
              go_wp2_with fail
              show K _ _
              have := H.out _ (Ext.refl _)
              rw [HFR.out] at this
              obtain u24 := HU.out
              rw [u24] at this
              exact this
            · rintro L A W K hL hC hW ⟨V, rfl, HV, s0⟩ hK
              have e24 : V 24 = .bool false := HV 24 _ rfl (hW 24 rfl)
              have H := Lib.hid (show ∀ W', Ext W W' → K (fr (upd V 26 (.int .i64 (k : Nat)))) W' from fun W' he => hK _ _ ⟨upd V 26 (.int .i64 (k : Nat)), rfl, HV.up 26 _ (fun x hx => Option.some.inj hx), ScJ.ext s0 he⟩)
              have HU := Lib.hid (show (upd V 26 (.int .i64 (k : Nat))) 24 = .bool false from e24)
              clear hK hC hW hL HV s0
              rw [HFR.out]
              rw [e24]
              clear e24
              go_wp2_with fail
              show K _ _
              have := H.out _ (Ext.refl _)
              rw [HFR.out] at this
              obtain u24 := HU.out
              rw [u24] at this
              exact this
            · rintro L A W K hL hC hW ⟨V, rfl, HV, s0⟩ hK
              have e24 : V 24 = .bool false := HV 24 _ rfl (hW 24 rfl)
              have e25 : V 25 = .slice (some ⟨b1, o1, none⟩) a.length c := HV 25 _ rfl (hW 25 rfl)
              have e26 : V 26 = .int .i64 (k : Nat) := HV 26 _ rfl (hW 26 rfl)
              have H := Lib.hid (show ∀ W', Ext W W' → K (fr (upd V 27 (.pointer (some ⟨b1, o1 + k * 6, none⟩)))) W' from fun W' he => hK _ _ ⟨upd V 27 (.pointer (some ⟨b1, o1 + k * 6, none⟩)), rfl, HV.up 27 _ (fun x hx => Option.some.inj hx), ScJ.ext s0 he⟩)
              have HU := Lib.hid (show (upd V 27 (.pointer (some ⟨b1, o1 + k * 6, none⟩))) 24 = .bool false ∧ (upd V 27 (.pointer (some ⟨b1, o1 + k * 6, none⟩))) 25 = .slice (some ⟨b1, o1, none⟩) a.length c ∧ (upd V 27 (.pointer (some ⟨b1, o1 + k * 6, none⟩))) 26 = .int .i64 (k : Nat) from ⟨e24, e25, e26⟩)
              clear hK hC hW hL HV s0
              rw [HFR.out]
              rw [e24, e25, e26]
              clear e24 e25 e26
              go_wp2_with fail
              show K _ _
              have := H.out _ (Ext.refl _)
              rw [HFR.out] at this
              obtain ⟨u24, u25, u26⟩ := HU.out
              rw [u24, u25, u26] at this
              exact this
            · rintro L A W K hL hC hW ⟨V, rfl, HV, s0⟩ hK
              have e24 : V 24 = .bool false := HV 24 _ rfl (hW 24 rfl)
              have e27 : V 27 = .pointer (some ⟨b1, o1 + k * 6, none⟩) := HV 27 _ rfl (hW 27 rfl)
              have H := Lib.hid (show ∀ W', Ext W W' → K (fr (upd V 28 (.pointer (some ⟨b1, o1 + k * 6 + 5, none⟩)))) W' from fun W' he => hK _ _ ⟨upd V 28 (.pointer (some ⟨b1, o1 + k * 6 + 5, none⟩)), rfl, HV.up 28 _ (fun x hx => Option.some.inj hx), ScJ.ext s0 he⟩)
              have HU := Lib.hid (show (upd V 28 (.pointer (some ⟨b1, o1 + k * 6 + 5, none⟩))) 24 = .bool false ∧ (upd V 28 (.pointer (some ⟨b1, o1 + k * 6 + 5, none⟩))) 27 = .pointer (some ⟨b1, o1 + k * 6, none⟩) from ⟨e24, e27⟩)
              clear hK hC hW hL HV s0
              rw [HFR.out]
              rw [e24, e27]
              clear e24 e27
              go_wp2_with fail
              show K _ _
              have := H.out _ (Ext.refl _)
              rw [HFR.out] at this
              obtain ⟨u24, u27⟩ := HU.out
              rw [u24, u27] at this
              exact this
            · rintro L A W K hL hC hW ⟨V, rfl, HV, s0⟩ hK
              have e24 : V 24 = .bool false := HV 24 _ rfl (hW 24 rfl)
              have e28 : V 28 = .pointer (some ⟨b1, o1 + k * 6 + 5, none⟩) := HV 28 _ rfl (hW 28 rfl)
              have hB := s0
              have H := Lib.hid (show ∀ W', Ext W W' → K (fr (upd V 29 (u1))) W' from fun W' he => hK _ _ ⟨upd V 29 (u1), rfl, HV.up 29 _ (fun x hx => Option.some.inj hx), ScJ.ext s0 he⟩)
              have HU := Lib.hid (show (upd V 29 (u1)) 24 = .bool false ∧ (upd V 29 (u1)) 28 = .pointer (some ⟨b1, o1 + k * 6 + 5, none⟩) from ⟨e24, e28⟩)
              clear hK hC hW hL HV s0
              rw [HFR.out]
              rw [e24, e28]
              clear e24 e28
              have hcl := rng5 hB.1
              clear hB
              go_wp2_with fail
              show K _ _
              have := H.out _ (Ext.refl _)
              rw [HFR.out] at this
              obtain ⟨u24, u28⟩ := HU.out
              rw [u24, u28] at this
              exact this
            · rintro L A W K hL hC hW ⟨V, rfl, HV, s0⟩ hK
              have e24 : V 24 = .bool false := HV 24 _ rfl (hW 24 rfl)
              have H := Lib.hid (show ∀ W', Ext W W' → K (fr (upd V 30 (.slice (some ⟨b2, o2, none⟩) b.length c'))) W' from fun W' he => hK _ _ ⟨upd V 30 (.slice (some ⟨b2, o2, none⟩) b.length c'), rfl, HV.up 30 _ (fun x hx => Option.some.inj hx), ScJ.ext s0 he⟩)
              have HU := Lib.hid (show (upd V 30 (.slice (some ⟨b2, o2, none⟩) b.length c')) 24 = .bool false from e24)
              clear hK hC hW hL HV s0
              rw [HFR.out]
              rw [e24]
              clear e24
              go_wp2_with fail
              show K _ _
              have := H.out _ (Ext.refl _)
              rw [HFR.out] at this
              obtain u24 := HU.out
              rw [u24] at this
              exact this
            · rintro L A W K hL hC hW ⟨V, rfl, HV, s0⟩ hK
              have e24 : V 24 = .bool false := HV 24 _ rfl (hW 24 rfl)
              have H := Lib.hid (show ∀ W', Ext W W' → K (fr (upd V 31 (.int .i64 (k : Nat)))) W' from fun W' he => hK _ _ ⟨upd V 31 (.int .i64 (k : Nat)), rfl, HV.up 31 _ (fun x hx => Option.some.inj hx), ScJ.ext s0 he⟩)
              have HU := Lib.hid (show (upd V 31 (.int .i64 (k : Nat))) 24 = .bool false from e24)
              clear hK hC hW hL HV s0
              rw [HFR.out]
              rw [e24]
              clear e24
              go_wp2_with fail
              show K _ _
              have := H.out _ (Ext.refl _)
              rw [HFR.out] at this
              obtain u24 := HU.out
              rw [u24] at this
              exact this
            · rintro L A W K hL hC hW ⟨V, rfl, HV, s0⟩ hK
              have e24 : V 24 = .bool false := HV 24 _ rfl (hW 24 rfl)
              have e30 : V 30 = .slice (some ⟨b2, o2, none⟩) b.length c' := HV 30 _ rfl (hW 30 rfl)
              have e31 : V 31 = .int .i64 (k : Nat) := HV 31 _ rfl (hW 31 rfl)
              have H := Lib.hid (show ∀ W', Ext W W' → K (fr (upd V 32 (.pointer (some ⟨b2, o2 + k * 6, none⟩)))) W' from fun W' he => hK _ _ ⟨upd V 32 (.pointer (some ⟨b2, o2 + k * 6, none⟩)), rfl, HV.up 32 _ (fun x hx => Option.some.inj hx), ScJ.ext s0 he⟩)
              have HU := Lib.hid (show (upd V 32 (.pointer (some ⟨b2, o2 + k * 6, none⟩))) 24 = .bool false ∧ (upd V 32 (.pointer (some ⟨b2, o2 + k * 6, none⟩))) 30 = .slice (some ⟨b2, o2, none⟩) b.length c' ∧ (upd V 32 (.pointer (some ⟨b2, o2 + k * 6, none⟩))) 31 = .int .i64 (k : Nat) from ⟨e24, e30, e31⟩)
              clear hK hC hW hL HV s0
              rw [HFR.out]
              rw [e24, e30, e31]
              clear e24 e30 e31
              go_wp2_with fail
              show K _ _
              have := H.out _ (Ext.refl _)
              rw [HFR.out] at this
              obtain ⟨u24, u30, u31⟩ := HU.out
              rw [u24, u30, u31] at this
              exact this
            · rintro L A W K hL hC hW ⟨V, rfl, HV, s0⟩ hK
              have e24 : V 24 = .bool false := HV 24 _ rfl (hW 24 rfl)
              have e32 : V 32 = .pointer (some ⟨b2, o2 + k * 6, none⟩) := HV 32 _ rfl (hW 32 rfl)
              have H := Lib.hid (show ∀ W', Ext W W' → K (fr (upd V 33 (.pointer (some ⟨b2, o2 + k * 6 + 5, none⟩)))) W' from fun W' he => hK _ _ ⟨upd V 33 (.pointer (some ⟨b2, o2 + k * 6 + 5, none⟩)), rfl, HV.up 33 _ (fun x hx => Option.some.inj hx), ScJ.ext s0 he⟩)
              have HU := Lib.hid (show (upd V 33 (.pointer (some ⟨b2, o2 + k * 6 + 5, none⟩))) 24 = .bool false ∧ (upd V 33 (.pointer (some ⟨b2, o2 + k * 6 + 5, none⟩))) 32 = .pointer (some ⟨b2, o2 + k * 6, none⟩) from ⟨e24, e32⟩)
              clear hK hC hW hL HV s0
              rw [HFR.out]
              rw [e24, e32]
              clear e24 e32
              go_wp2_with fail
              show K _ _
              have := H.out _ (Ext.refl _)
              rw [HFR.out] at this
              obtain ⟨u24, u32⟩ := HU.out
              rw [u24, u32] at this
              exact this
            · rintro L A W K hL hC hW ⟨V, rfl, HV, s0⟩ hK
              have e24 : V 24 = .bool false := HV 24 _ rfl (hW 24 rfl)
              have e33 : V 33 = .pointer (some ⟨b2, o2 + k * 6 + 5, none⟩) := HV 33 _ rfl (hW 33 rfl)
              have hB := s0
              have H := Lib.hid (show ∀ W', Ext W W' → K (fr (upd V 34 (u2))) W' from fun W' he => hK _ _ ⟨upd V 34 (u2), rfl, HV.up 34 _ (fun x hx => Option.some.inj hx), ScJ.ext s0 he⟩)
              have HU := Lib.hid (show (upd V 34 (u2)) 24 = .bool false ∧ (upd V 34 (u2)) 33 = .pointer (some ⟨b2, o2 + k * 6 + 5, none⟩) from ⟨e24, e33⟩)
              clear hK hC hW hL HV s0
              rw [HFR.out]
              rw [e24, e33]
              clear e24 e33
              have hcl := rng5 hB.2.1
              clear hB
              go_wp2_with fail
              show K _ _
              have := H.out _ (Ext.refl _)
              rw [HFR.out] at this
              obtain ⟨u24, u33⟩ := HU.out
              rw [u24, u33] at this
              exact this
            · rintro L A W K hL hC hW ⟨V, rfl, HV, s0⟩ hK
              have e24 : V 24 = .bool false := HV 24 _ rfl (hW 24 rfl)
              have e29 : V 29 = u1 := HV 29 _ rfl (hW 29 rfl)
              have e34 : V 34 = u2 := HV 34 _ rfl (hW 34 rfl)
              have hB := s0
              have H := Lib.hid (show ∀ W', Ext W W' → K (fr (upd V 35 (.bool r))) W' from fun W' he => hK _ _ ⟨upd V 35 (.bool r), rfl, HV.up 35 _ (fun x hx => Option.some.inj hx), ScJ.ext s0 he⟩)
              have HU := Lib.hid (show (upd V 35 (.bool r)) 24 = .bool false ∧ (upd V 35 (.bool r)) 29 = u1 ∧ (upd V 35 (.bool r)) 34 = u2 from ⟨e24, e29, e34⟩)
              clear hK hC hW hL HV s0
              rw [HFR.out]
              rw [e24, e29, e34]
              clear e24 e29 e34
              have HB := Lib.hid hB
              clear hB
              go_wp2_with fail
              refine (refSame4_any u1 u2 p.2.2 q.2.2 _ HB.out.2.2.1 HB.out.2.2.2.1).mono ?_
              rintro e wx ⟨rfl, he⟩
              rw [HRR.out]
              have := H.out _ he
              clear H
              go_wp2_with fail
              show K _ _
              rw [HFR.out] at this
              obtain ⟨u24, u29, u34⟩ := HU.out
              rw [u24, u29, u34] at this
              exact this
            · rintro L A W K hL hC hW ⟨V, rfl, HV, s0⟩ hK
              have e24 : V 24 = .bool false := HV 24 _ rfl (hW 24 rfl)
              have e35 : V 35 = .bool r := HV 35 _ rfl (hW 35 rfl)
              have H := Lib.hid (show ∀ W', Ext W W' → K (fr (upd V 36 (.bool (!r)))) W' from fun W' he => hK _ _ ⟨upd V 36 (.bool (!r)), rfl, HV.up 36 _ (fun x hx => Option.some.inj hx), ScJ.ext s0 he⟩)
              have HU := Lib.hid (show (upd V 36 (.bool (!r))) 24 = .bool false ∧ (upd V 36 (.bool (!r))) 35 = .bool r from ⟨e24, e35⟩)
              clear hK hC hW hL HV s0
              rw [HFR.out]
              rw [e24, e35]
              clear e24 e35
              go_wp2_with fail
              show K _ _
              have := H.out _ (Ext.refl _)
              rw [HFR.out] at this
              obtain ⟨u24, u35⟩ := HU.out
              rw [u24, u35] at this
              exact this
            · rintro L A W K hL hC hW ⟨V, rfl, HV, s0⟩ hK
              have e24 : V 24 = .bool false := HV 24 _ rfl (hW 24 rfl)
              have e36 : V 36 = .bool (!r) := HV 36 _ rfl (hW 36 rfl)
              have H := Lib.hid (show ∀ W', Ext W W' → K (fr (upd V 37 (.bool (!r)))) W' from fun W' he => hK _ _ ⟨upd V 37 (.bool (!r)), rfl, HV.up 37 _ (fun x hx => Option.some.inj hx), ScJ.ext s0 he⟩)
              have HU := Lib.hid (show (upd V 37 (.bool (!r))) 24 = .bool false ∧ (upd V 37 (.bool (!r))) 36 = .bool (!r) from ⟨e24, e36⟩)
              clear hK hC hW hL HV s0
              rw [HFR.out]
              rw [e24, e36]
              clear e24 e36
              go_wp2_with fail
              show K _ _
              have := H.out _ (Ext.refl _)
              rw [HFR.out] at this
              obtain ⟨u24, u36⟩ := HU.out
              rw [u24, u36] at this
              exact this
            · rintro L A W hL ⟨V, rfl, HV, s0⟩
              have e0 : V 0 = .slice (some ⟨b1, o1, none⟩) a.length c := HV 0 _ rfl (hL 0 (by simp))
              have e1 : V 1 = .int .i64 (k : Nat) := HV 1 _ rfl (hL 1 (by simp))
              have e2 : V 2 = .pointer (some ⟨b1, o1 + k * 6, none⟩) := HV 2 _ rfl (hL 2 (by simp))
              have e3 : V 3 = .pointer (some ⟨b1, o1 + k * 6, none⟩) := HV 3 _ rfl (hL 3 (by simp))
              have e4 : V 4 = .bool p.1 := HV 4 _ rfl (hL 4 (by simp))
              have e5 : V 5 = .slice (some ⟨b2, o2, none⟩) b.length c' := HV 5 _ rfl (hL 5 (by simp))
              have e6 : V 6 = .int .i64 (k : Nat) := HV 6 _ rfl (hL 6 (by simp))
              have e7 : V 7 = .pointer (some ⟨b2, o2 + k * 6, none⟩) := HV 7 _ rfl (hL 7 (by simp))
              have e8 : V 8 = .pointer (some ⟨b2, o2 + k * 6, none⟩) := HV 8 _ rfl (hL 8 (by simp))
              have e9 : V 9 = .bool q.1 := HV 9 _ rfl (hL 9 (by simp))
              have e10 : V 10 = .bool false := HV 10 _ rfl (hL 10 (by simp))
              have e11 : V 11 = .bool false := HV 11 _ rfl (hL 11 (by simp))
              have e12 : V 12 = .slice (some ⟨b1, o1, none⟩) a.length c := HV 12 _ rfl (hL 12 (by simp))
              have e13 : V 13 = .int .i64 (k : Nat) := HV 13 _ rfl (hL 13 (by simp))
              have e14 : V 14 = .pointer (some ⟨b1, o1 + k * 6, none⟩) := HV 14 _ rfl (hL 14 (by simp))
              have e15 : V 15 = .pointer (some ⟨b1, o1 + k * 6 + 1, none⟩) := HV 15 _ rfl (hL 15 (by simp))
              have e16 : V 16 = wv p.2.1 := HV 16 _ rfl (hL 16 (by simp))
              have e17 : V 17 = .slice (some ⟨b2, o2, none⟩) b.length c' := HV 17 _ rfl (hL 17 (by simp))
              have e18 : V 18 = .int .i64 (k : Nat) := HV 18 _ rfl (hL 18 (by simp))
              have e19 : V 19 = .pointer (some ⟨b2, o2 + k * 6, none⟩) := HV 19 _ rfl (hL 19 (by simp))
              have e20 : V 20 = .pointer (some ⟨b2, o2 + k * 6 + 1, none⟩) := HV 20 _ rfl (hL 20 (by simp))
              have e21 : V 21 = wv q.2.1 := HV 21 _ rfl (hL 21 (by simp))
              have e22 : V 22 = .bool false := HV 22 _ rfl (hL 22 (by simp))
              have e23 : V 23 = .bool false := HV 23 _ rfl (hL 23 (by simp))
              have e24 : V 24 = .bool false := HV 24 _ rfl (hL 24 (by simp))
              have e25 : V 25 = .slice (some ⟨b1, o1, none⟩) a.length c := HV 25 _ rfl (hL 25 (by simp))
              have e26 : V 26 = .int .i64 (k : Nat) := HV 26 _ rfl (hL 26 (by simp))
              have e27 : V 27 = .pointer (some ⟨b1, o1 + k * 6, none⟩) := HV 27 _ rfl (hL 27 (by simp))
              have e28 : V 28 = .pointer (some ⟨b1, o1 + k * 6 + 5, none⟩) := HV 28 _ rfl (hL 28 (by simp))
              have e29 : V 29 = u1 := HV 29 _ rfl (hL 29 (by simp))
              have e30 : V 30 = .slice (some ⟨b2, o2, none⟩) b.length c' := HV 30 _ rfl (hL 30 (by simp))
              have e31 : V 31 = .int .i64 (k : Nat) := HV 31 _ rfl (hL 31 (by simp))
              have e32 : V 32 = .pointer (some ⟨b2, o2 + k * 6, none⟩) := HV 32 _ rfl (hL 32 (by simp))
              have e33 : V 33 = .pointer (some ⟨b2, o2 + k * 6 + 5, none⟩) := HV 33 _ rfl (hL 33 (by simp))
              have e34 : V 34 = u2 := HV 34 _ rfl (hL 34 (by simp))
              have e35 : V 35 = .bool r := HV 35 _ rfl (hL 35 (by simp))
              have e36 : V 36 = .bool (!r) := HV 36 _ rfl (hL 36 (by simp))
              have e37 : V 37 = .bool (!r) := HV 37 _ rfl (hL 37 (by simp))
              have hA := s0
              rw [HFR.out]
              rw [e0, e1, e2, e3, e4, e5, e6, e7, e8, e9, e10, e11, e12, e13, e14, e15, e16, e17, e18, e19, e20, e21, e22, e23, e24, e25, e26, e27, e28, e29, e30, e31, e32, e33, e34, e35, e36, e37]
              clear hL HV HFR e0 e1 e2 e3 e4 e5 e6 e7 e8 e9 e10 e11 e12 e13 e14 e15 e16 e17 e18 e19 e20 e21 e22 e23 e24 e25 e26 e27 e28 e29 e30 e31 e32 e33 e34 e35 e36 e37 s0
              have HEJ := Lib.hid hA.2.2.2.2
              clear hA
              cases r with
              | true =>
                have HN := Lib.hid (HNX.out (by rw [HPQ.out, HRR.out]))
                go_wp2_with fail
                exact ⟨⟨k + 1, by omega, by go_num, HN, HEJ⟩, by simp [intOf]; omega⟩
              | false =>
                have HF := Lib.hid (HNK.out (by rw [HPQ.out, HRR.out]))
                go_wp2_with fail
                go_ret
                exact ⟨by rw [HF.out]; rfl, HEJ.out⟩
      · obtain rfl : k = a.length := by omega
        have HF := Lib.hid (HEQ.out HS.out)
        go_wp2_with fail
        go_ret
        exact ⟨by rw [HF.out]; rfl, HE.out⟩
  · have hd : ((a.length : Int) != (b.length : Int)) = true := by simp; omega
    have HF := Lib.hid (show (a == b) = false from by
      rw [beq_eq_false_iff_ne]
      rintro rfl
      exact hl rfl)
    go_enter Try.func21, Try.ntmps21
    go_wp2_with fail
    go_ret
    exact ⟨by rw [HF.out]; rfl, Ext.refl _⟩
end Go.Proofs.Ytdlllihfibjabaa
