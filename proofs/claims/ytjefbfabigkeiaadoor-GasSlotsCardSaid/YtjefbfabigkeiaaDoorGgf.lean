/- GasSlots: what slots and calls cost is as the document says. No condition: whatever rows of both. -/
import Derived.Test.YtjefbfabigkeiaaDoorGgm
namespace Go.Proofs.YtjefbfabigkeiaaDoor
open Go.ChangeShapes Go.WideShapes Go.ChangeAt Go.RowKit Go.Shelf

/-- A saving, a calling lies there. -/
def SlS (w : World) (g : Nat) (q : Nat × Nat × Bool) (W : World) : Prop := Svb W g q ∧ Ext w W
set_option maxRecDepth 100000 in
theorem SlS.ext {w : World} {g : Nat} {q : Nat × Nat × Bool} {W W' : World} (h : SlS w g q W) (he : Ext W W') : SlS w g q W' := ⟨h.1.ext he, h.2.trans he⟩
def ClS (w : World) (g : Nat) (q : Bool × Bool × Bool) (W : World) : Prop := Clb W g q ∧ Ext w W
set_option maxRecDepth 100000 in
theorem ClS.ext {w : World} {g : Nat} {q : Bool × Bool × Bool} {W W' : World} (h : ClS w g q W) (he : Ext W W') : ClS w g q W' := ⟨h.1.ext he, h.2.trans he⟩
set_option maxRecDepth 100000 in
theorem refFarG_any (c : Bool) (w : World) : Calls Tryd.prog 34 #[clv c false false] w fun e w' => e = .returned (.int .u64 (farG c : Nat)) ∧ Ext w w' :=
  (refCallG_any c false false w).mono fun _ _ h => by
    have e : callG c false false = farG c := by cases c <;> rfl
    rw [← e]
    exact h
set_option maxRecDepth 100000 in
set_option maxHeartbeats 4000000 in
theorem slots_any (v0 v1 : Value) (l : List (Nat × Nat × Bool)) (ll : List (Bool × Bool × Bool)) (w : World) (hT : Tb w) (hv : Svs w v0 l) (hu : Cls w v1 ll) : Calls Tryd.prog 5 #[v0, v1] w (RetT w) := by
  obtain ⟨A, cp, rfl, h1, h2⟩ := hv.len
  obtain ⟨A', cp', rfl, h1', h2'⟩ := hu.len
  have HV := Lib.hid hv
  have HU0 := Lib.hid hu
  have HT := Lib.hid hT
  have hlen : l.length ≤ 9223372036854775807 := by unfold maxLen at h2; omega
  have hlen' : ll.length ≤ 9223372036854775807 := by unfold maxLen at h2'; omega
  clear h1 h2 h1' h2' hT hv hu
  go_enter Tryd.func5, Tryd.ntmps5
  go_wp2_with fail
  refine (wakes_G w HT.out).mono ?_
  rintro e w1 ⟨rfl, hE1⟩
  have HE1 := Lib.hid hE1
  clear hE1
  go_upto_region 13 with fail
  go_loopw [14] (fun iv wr => ∃ k : Nat, k ≤ l.length ∧ k ≤ 20 ∧ iv = .int .i64 k ∧ Hid (Ext w wr)) (fun iv _ => l.length - (intOf iv).toNat)
  case atStart => exact ⟨0, Nat.zero_le _, Nat.zero_le _, rfl, HE1⟩
  case round =>
    clear HE1
    obtain ⟨k, hk, hk3, rfl, HX⟩ := hrel
    by_cases hlt : k < l.length
    · obtain ⟨b, o, ⟨x, y, c⟩, rfl, hr, hR⟩ := (HV.out.ext HX.out).at k hlt
      have HXM := Lib.hid hR.1.1
      have HYM := Lib.hid hR.1.2
      clear hR
      have hd : decide ((k : Int) < l.length) = true := decide_eq_true (by omega)
      have hcs : Cs (wr.alloc (.cells #[.int .u64 0, .int .u64 0, .int .u64 0, .int .u64 0, .int .u64 0, .int .u64 0, .int .u64 0, .int .u64 0, .bool false] 44)) wr.heap.size 44 #[.int .u64 0, .int .u64 0, .int .u64 0, .int .u64 0, .int .u64 0, .int .u64 0, .int .u64 0, .int .u64 0, .bool false] := Cs.new _ _ _ _ rfl
      have HX7 := Lib.hid (HX.out.alloc (.cells #[.int .u64 0, .int .u64 0, .int .u64 0, .int .u64 0, .int .u64 0, .int .u64 0, .int .u64 0, .int .u64 0, .bool false] 44))
      by_cases h300 : k = 20
      · have hb : ((k : Int) == 20) = true := by rw [h300]; rfl
        clear h300
        go_upto_region 13 with (first | ((with_reducible refine wpList_load_Svb ?_ (.tmp 17) ?_ b (o + k * 9) (x, y, c) ?_ hr ?_); (exact rfl); (exact rfl); (exact rfl)) | ((with_reducible refine wpList_store_Svb ?_ ?_ (.tmp 6) (.tmp 18) ?_ wr.heap.size #[.int .u64 0, .int .u64 0, .int .u64 0, .int .u64 0, .int .u64 0, .int .u64 0, .int .u64 0, .int .u64 0, .bool false] (x, y, c) ?_ ?_ hcs rfl ?_); (exact rfl); (exact rfl); (exact rfl); (exact rfl); (exact rfl); (intro w8 hw8 hg8; have HX := Lib.hid (show SlS w wr.heap.size (x, y, c) w8 from ⟨hw8, HX7.out.grown hg8 HX.out.size⟩); clear hw8 hg8 hcs HX7)))
        have HE1 := Lib.hid HX.out.2
        clear HX hb hd hr HXM HYM hlt hk hk3
        go_wp2_with fail
        go_loopw [38] (fun iv wr => ∃ k : Nat, k ≤ ll.length ∧ k ≤ 20 ∧ iv = .int .i64 k ∧ Hid (Ext w wr)) (fun iv _ => ll.length - (intOf iv).toNat)
        case atStart => exact ⟨0, Nat.zero_le _, Nat.zero_le _, rfl, HE1⟩
        case round =>
          clear HE1
          obtain ⟨k, hk, hk3, rfl, HX⟩ := hrel
          by_cases hlt : k < ll.length
          · obtain ⟨b, o, ⟨c, v, n⟩, rfl, hr, _⟩ := (HU0.out.ext HX.out).at k hlt
            have hd : decide ((k : Int) < ll.length) = true := decide_eq_true (by omega)
            have hcs : Cs (wr.alloc (.cells #[.bool false, .bool false, .bool false] 48)) wr.heap.size 48 #[.bool false, .bool false, .bool false] := Cs.new _ _ _ _ rfl
            have HX7 := Lib.hid (HX.out.alloc (.cells #[.bool false, .bool false, .bool false] 48))
            by_cases h300 : k = 20
            · have hb : ((k : Int) == 20) = true := by rw [h300]; rfl
              clear h300
              go_wp2_with (first | ((with_reducible refine wpList_load_Clb ?_ (.tmp 41) ?_ b (o + k * 3) (c, v, n) ?_ hr ?_); (exact rfl); (exact rfl); (exact rfl)) | ((with_reducible refine wpList_store_Clb ?_ ?_ (.tmp 9) (.tmp 42) ?_ wr.heap.size #[.bool false, .bool false, .bool false] (c, v, n) ?_ ?_ hcs rfl ?_); (exact rfl); (exact rfl); (exact rfl); (exact rfl); (exact rfl); (intro w8 hw8 hg8; have HX := Lib.hid (show ClS w wr.heap.size (c, v, n) w8 from ⟨hw8, HX7.out.grown hg8 HX.out.size⟩); clear hw8 hg8 hcs HX7)))
              go_ret
              exact ⟨rfl, HX.out.2⟩
            · have hb : ((k : Int) == 20) = false := by simp; omega
              go_upto_region 17 with (first | ((with_reducible refine wpList_load_Clb ?_ (.tmp 41) ?_ b (o + k * 3) (c, v, n) ?_ hr ?_); (exact rfl); (exact rfl); (exact rfl)) | ((with_reducible refine wpList_store_Clb ?_ ?_ (.tmp 9) (.tmp 42) ?_ wr.heap.size #[.bool false, .bool false, .bool false] (c, v, n) ?_ ?_ hcs rfl ?_); (exact rfl); (exact rfl); (exact rfl); (exact rfl); (exact rfl); (intro w8 hw8 hg8; have HX := Lib.hid (show ClS w wr.heap.size (c, v, n) w8 from ⟨hw8, HX7.out.grown hg8 HX.out.size⟩); clear hw8 hg8 hcs HX7)))
              obtain ⟨g9, hg9⟩ : ∃ g, wr.heap.size = g := ⟨_, rfl⟩
              rw [hg9] at HX ⊢
              clear hg9 hr hd hb
              refine wp_named fun a0 ha0 => ?_
              obtain ⟨fr, hfr⟩ : ∃ fr : (Nat → Value) → Act, ∀ V, fr V = (((((((((((((((a0.put (some 45) (V 0)).put (some 46) (V 1)).put (some 47) (V 2)).put (some 48) (V 3)).put (some 49) (V 4)).put (some 50) (V 5)).put (some 51) (V 6)).put (some 52) (V 7)).put (some 53) (V 8)).put (some 54) (V 9)).put (some 55) (V 10)).put (some 56) (V 11)).put (some 57) (V 12)).put (some 58) (V 13)).put (some 59) (V 14)) := ⟨fun V => (((((((((((((((a0.put (some 45) (V 0)).put (some 46) (V 1)).put (some 47) (V 2)).put (some 48) (V 3)).put (some 49) (V 4)).put (some 50) (V 5)).put (some 51) (V 6)).put (some 52) (V 7)).put (some 53) (V 8)).put (some 54) (V 9)).put (some 55) (V 10)).put (some 56) (V 11)).put (some 57) (V 12)).put (some 58) (V 13)).put (some 59) (V 14)), fun _ => rfl⟩
              rw [ha0] at hfr
              simp only [Act.put, List.setIfInBounds_toArray, List.set_cons_zero, List.set_cons_succ] at hfr
              have HFR := Lib.hid hfr
              clear hfr
              refine wp_region_inv (by kernel_rfl) (by kernel_rfl) (fun L A W => ∃ V : Nat → Value, A = fr V ∧ Vals (fun j => ([some (clv c v n), some (.int .u64 (callG c v n : Nat)), some (clv c v n), some (.int .u64 (callG c v n : Nat)), some (.bool false), some (.bool false), some (.pointer (some ⟨g9, 0, none⟩)), some (.bool c), some (.int .u64 (farG c : Nat)), some (.pointer (some ⟨g9, 0, none⟩)), some (.bool c), some (clv c false false), some (.int .u64 (farG c : Nat)), some (.bool false), some (.bool false)] : List (Option Value)).getD j none) L V ∧ (ClS w g9 (c, v, n) W)) ?_ ⟨?_, ?_, ?_, ?_, ?_, ?_, ?_, ?_, ?_, ?_, ?_, ?_, ?_, ?_, ?_, trivial⟩ ?_
              · refine ⟨fun j => a0.tmps.getD (([45, 46, 47, 48, 49, 50, 51, 52, 53, 54, 55, 56, 57, 58, 59] : List Nat).getD j 0) undef, ?_, Vals.no _ _ _ (far_none _ _ rfl), HX.out.ext ((Ext.refl _).drew)⟩
                rw [HFR.out, ha0]
                rfl
              all_goals clear ha0
              · rintro L A W K hL hC hW ⟨V, rfl, HV, s0⟩ hK
                have hB := s0
                have H := Lib.hid (show ∀ W', Ext W W' → K (fr (upd V 0 (clv c v n))) W' from fun W' he => hK _ _ ⟨upd V 0 (clv c v n), rfl, HV.up 0 _ (fun x hx => Option.some.inj hx), ClS.ext s0 he⟩)
                clear hK hC hW hL HV s0
                rw [HFR.out]
                have k1 := hB.1.rg
                clear hB
                go_wp2_with ((with_reducible refine wpList_load_Clb ?_ (.tmp 9) ?_ g9 0 (c, v, n) ?_ k1 ?_); (exact rfl); (exact rfl); (exact rfl))
                show K _ _
                have := H.out _ (Ext.refl _)
                rw [HFR.out] at this
                exact this
              · rintro L A W K hL hC hW ⟨V, rfl, HV, s0⟩ hK
                have e0 : V 0 = clv c v n := HV 0 _ rfl (hW 0 rfl)
                have hB := s0
                have H := Lib.hid (show ∀ W', Ext W W' → K (fr (upd V 1 (.int .u64 (callG c v n : Nat)))) W' from fun W' he => hK _ _ ⟨upd V 1 (.int .u64 (callG c v n : Nat)), rfl, HV.up 1 _ (fun x hx => Option.some.inj hx), ClS.ext s0 he⟩)
                have HU := Lib.hid (show (upd V 1 (.int .u64 (callG c v n : Nat))) 0 = clv c v n from e0)
                clear hK hC hW hL HV s0
                rw [HFR.out]
                rw [e0]
                clear e0
                clear hB
                go_wp2_with fail
                refine (callG_any c v n _).mono ?_
                rintro e wx ⟨rfl, he⟩
                have := H.out _ he
                clear H
                go_wp2_with fail
                show K _ _
                rw [HFR.out] at this
                obtain u0 := HU.out
                rw [u0] at this
                exact this
              · rintro L A W K hL hC hW ⟨V, rfl, HV, s0⟩ hK
                have hB := s0
                have H := Lib.hid (show ∀ W', Ext W W' → K (fr (upd V 2 (clv c v n))) W' from fun W' he => hK _ _ ⟨upd V 2 (clv c v n), rfl, HV.up 2 _ (fun x hx => Option.some.inj hx), ClS.ext s0 he⟩)
                clear hK hC hW hL HV s0
                rw [HFR.out]
                have k1 := hB.1.rg
                clear hB
                go_wp2_with ((with_reducible refine wpList_load_Clb ?_ (.tmp 9) ?_ g9 0 (c, v, n) ?_ k1 ?_); (exact rfl); (exact rfl); (exact rfl))
                show K _ _
                have := H.out _ (Ext.refl _)
                rw [HFR.out] at this
                exact this
              · rintro L A W K hL hC hW ⟨V, rfl, HV, s0⟩ hK
                have e2 : V 2 = clv c v n := HV 2 _ rfl (hW 2 rfl)
                have hB := s0
                have H := Lib.hid (show ∀ W', Ext W W' → K (fr (upd V 3 (.int .u64 (callG c v n : Nat)))) W' from fun W' he => hK _ _ ⟨upd V 3 (.int .u64 (callG c v n : Nat)), rfl, HV.up 3 _ (fun x hx => Option.some.inj hx), ClS.ext s0 he⟩)
                have HU := Lib.hid (show (upd V 3 (.int .u64 (callG c v n : Nat))) 2 = clv c v n from e2)
                clear hK hC hW hL HV s0
                rw [HFR.out]
                rw [e2]
                clear e2
                clear hB
                go_wp2_with fail
                refine (refCallG_any c v n _).mono ?_
                rintro e wx ⟨rfl, he⟩
                have := H.out _ he
                clear H
                go_wp2_with fail
                show K _ _
                rw [HFR.out] at this
                obtain u2 := HU.out
                rw [u2] at this
                exact this
              · rintro L A W K hL hC hW ⟨V, rfl, HV, s0⟩ hK
                have e1 : V 1 = .int .u64 (callG c v n : Nat) := HV 1 _ rfl (hW 1 rfl)
                have e3 : V 3 = .int .u64 (callG c v n : Nat) := HV 3 _ rfl (hW 3 rfl)
                have H := Lib.hid (show ∀ W', Ext W W' → K (fr (upd V 4 (.bool false))) W' from fun W' he => hK _ _ ⟨upd V 4 (.bool false), rfl, HV.up 4 _ (fun x hx => Option.some.inj hx), ClS.ext s0 he⟩)
                have HU := Lib.hid (show (upd V 4 (.bool false)) 1 = .int .u64 (callG c v n : Nat) ∧ (upd V 4 (.bool false)) 3 = .int .u64 (callG c v n : Nat) from ⟨e1, e3⟩)
                clear hK hC hW hL HV s0
                rw [HFR.out]
                rw [e1, e3]
                clear e1 e3
                go_wp2_with fail
                show K _ _
                have := H.out _ (Ext.refl _)
                rw [HFR.out] at this
                obtain ⟨u1, u3⟩ := HU.out
                rw [u1, u3] at this
                exact this
              · rintro L A W K hL hC hW ⟨V, rfl, HV, s0⟩ hK
                have e4 : V 4 = .bool false := HV 4 _ rfl (hW 4 rfl)
                have H := Lib.hid (show ∀ W', Ext W W' → K (fr (upd V 5 (.bool false))) W' from fun W' he => hK _ _ ⟨upd V 5 (.bool false), rfl, HV.up 5 _ (fun x hx => Option.some.inj hx), ClS.ext s0 he⟩)
                have HU := Lib.hid (show (upd V 5 (.bool false)) 4 = .bool false from e4)
                clear hK hC hW hL HV s0
                rw [HFR.out]
                rw [e4]
                clear e4
                go_wp2_with fail
                show K _ _
                have := H.out _ (Ext.refl _)
                rw [HFR.out] at this
                obtain u4 := HU.out
                rw [u4] at this
                exact this
              · rintro L A W K hL hC hW ⟨V, rfl, HV, s0⟩ hK
                have e5 : V 5 = .bool false := HV 5 _ rfl (hW 5 rfl)
                have H := Lib.hid (show ∀ W', Ext W W' → K (fr (upd V 6 (.pointer (some ⟨g9, 0, none⟩)))) W' from fun W' he => hK _ _ ⟨upd V 6 (.pointer (some ⟨g9, 0, none⟩)), rfl, HV.up 6 _ (fun x hx => Option.some.inj hx), ClS.ext s0 he⟩)
                have HU := Lib.hid (show (upd V 6 (.pointer (some ⟨g9, 0, none⟩))) 5 = .bool false from e5)
                clear hK hC hW hL HV s0
                rw [HFR.out]
                rw [e5]
                clear e5
                go_wp2_with fail
                show K _ _
                have := H.out _ (Ext.refl _)
                rw [HFR.out] at this
                obtain u5 := HU.out
                rw [u5] at this
                exact this
              · rintro L A W K hL hC hW ⟨V, rfl, HV, s0⟩ hK
                have e5 : V 5 = .bool false := HV 5 _ rfl (hW 5 rfl)
                have e6 : V 6 = .pointer (some ⟨g9, 0, none⟩) := HV 6 _ rfl (hW 6 rfl)
                have hB := s0
                have H := Lib.hid (show ∀ W', Ext W W' → K (fr (upd V 7 (.bool c))) W' from fun W' he => hK _ _ ⟨upd V 7 (.bool c), rfl, HV.up 7 _ (fun x hx => Option.some.inj hx), ClS.ext s0 he⟩)
                have HU := Lib.hid (show (upd V 7 (.bool c)) 5 = .bool false ∧ (upd V 7 (.bool c)) 6 = .pointer (some ⟨g9, 0, none⟩) from ⟨e5, e6⟩)
                clear hK hC hW hL HV s0
                rw [HFR.out]
                rw [e5, e6]
                clear e5 e6
                have qq : W.cell? ⟨g9, 0, none⟩ = some (.bool c) := hB.1.cell 0 _ rfl
                clear hB
                go_wp2_with fail
                show K _ _
                have := H.out _ (Ext.refl _)
                rw [HFR.out] at this
                obtain ⟨u5, u6⟩ := HU.out
                rw [u5, u6] at this
                exact this
              · rintro L A W K hL hC hW ⟨V, rfl, HV, s0⟩ hK
                have e5 : V 5 = .bool false := HV 5 _ rfl (hW 5 rfl)
                have e7 : V 7 = .bool c := HV 7 _ rfl (hW 7 rfl)
                have hB := s0
                have H := Lib.hid (show ∀ W', Ext W W' → K (fr (upd V 8 (.int .u64 (farG c : Nat)))) W' from fun W' he => hK _ _ ⟨upd V 8 (.int .u64 (farG c : Nat)), rfl, HV.up 8 _ (fun x hx => Option.some.inj hx), ClS.ext s0 he⟩)
                have HU := Lib.hid (show (upd V 8 (.int .u64 (farG c : Nat))) 5 = .bool false ∧ (upd V 8 (.int .u64 (farG c : Nat))) 7 = .bool c from ⟨e5, e7⟩)
                clear hK hC hW hL HV s0
                rw [HFR.out]
                rw [e5, e7]
                clear e5 e7
                clear hB
                go_wp2_with fail
                refine (farG_any c _).mono ?_
                rintro e wx ⟨rfl, rfl⟩
                have := H.out _ (Ext.refl _)
                clear H
                go_wp2_with fail
                show K _ _
                rw [HFR.out] at this
                obtain ⟨u5, u7⟩ := HU.out
                rw [u5, u7] at this
                exact this
              · rintro L A W K hL hC hW ⟨V, rfl, HV, s0⟩ hK
                have e5 : V 5 = .bool false := HV 5 _ rfl (hW 5 rfl)
                have H := Lib.hid (show ∀ W', Ext W W' → K (fr (upd V 9 (.pointer (some ⟨g9, 0, none⟩)))) W' from fun W' he => hK _ _ ⟨upd V 9 (.pointer (some ⟨g9, 0, none⟩)), rfl, HV.up 9 _ (fun x hx => Option.some.inj hx), ClS.ext s0 he⟩)
                have HU := Lib.hid (show (upd V 9 (.pointer (some ⟨g9, 0, none⟩))) 5 = .bool false from e5)
                clear hK hC hW hL HV s0
                rw [HFR.out]
                rw [e5]
                clear e5
                go_wp2_with fail
                show K _ _
                have := H.out _ (Ext.refl _)
                rw [HFR.out] at this
                obtain u5 := HU.out
                rw [u5] at this
                exact this
              · rintro L A W K hL hC hW ⟨V, rfl, HV, s0⟩ hK
                have e5 : V 5 = .bool false := HV 5 _ rfl (hW 5 rfl)
                have e9 : V 9 = .pointer (some ⟨g9, 0, none⟩) := HV 9 _ rfl (hW 9 rfl)
                have hB := s0
                have H := Lib.hid (show ∀ W', Ext W W' → K (fr (upd V 10 (.bool c))) W' from fun W' he => hK _ _ ⟨upd V 10 (.bool c), rfl, HV.up 10 _ (fun x hx => Option.some.inj hx), ClS.ext s0 he⟩)
                have HU := Lib.hid (show (upd V 10 (.bool c)) 5 = .bool false ∧ (upd V 10 (.bool c)) 9 = .pointer (some ⟨g9, 0, none⟩) from ⟨e5, e9⟩)
                clear hK hC hW hL HV s0
                rw [HFR.out]
                rw [e5, e9]
                clear e5 e9
                have qq : W.cell? ⟨g9, 0, none⟩ = some (.bool c) := hB.1.cell 0 _ rfl
                clear hB
                go_wp2_with fail
                show K _ _
                have := H.out _ (Ext.refl _)
                rw [HFR.out] at this
                obtain ⟨u5, u9⟩ := HU.out
                rw [u5, u9] at this
                exact this
              · rintro L A W K hL hC hW ⟨V, rfl, HV, s0⟩ hK
                have e5 : V 5 = .bool false := HV 5 _ rfl (hW 5 rfl)
                have e10 : V 10 = .bool c := HV 10 _ rfl (hW 10 rfl)
                have H := Lib.hid (show ∀ W', Ext W W' → K (fr (upd V 11 (clv c false false))) W' from fun W' he => hK _ _ ⟨upd V 11 (clv c false false), rfl, HV.up 11 _ (fun x hx => Option.some.inj hx), ClS.ext s0 he⟩)
                have HU := Lib.hid (show (upd V 11 (clv c false false)) 5 = .bool false ∧ (upd V 11 (clv c false false)) 10 = .bool c from ⟨e5, e10⟩)
                clear hK hC hW hL HV s0
                rw [HFR.out]
                rw [e5, e10]
                clear e5 e10
                go_wp2_with fail
                show K _ _
                have := H.out _ (Ext.refl _)
                rw [HFR.out] at this
                obtain ⟨u5, u10⟩ := HU.out
                rw [u5, u10] at this
                exact this
              · rintro L A W K hL hC hW ⟨V, rfl, HV, s0⟩ hK
                have e5 : V 5 = .bool false := HV 5 _ rfl (hW 5 rfl)
                have e11 : V 11 = clv c false false := HV 11 _ rfl (hW 11 rfl)
                have hB := s0
                have H := Lib.hid (show ∀ W', Ext W W' → K (fr (upd V 12 (.int .u64 (farG c : Nat)))) W' from fun W' he => hK _ _ ⟨upd V 12 (.int .u64 (farG c : Nat)), rfl, HV.up 12 _ (fun x hx => Option.some.inj hx), ClS.ext s0 he⟩)
                have HU := Lib.hid (show (upd V 12 (.int .u64 (farG c : Nat))) 5 = .bool false ∧ (upd V 12 (.int .u64 (farG c : Nat))) 11 = clv c false false from ⟨e5, e11⟩)
                clear hK hC hW hL HV s0
                rw [HFR.out]
                rw [e5, e11]
                clear e5 e11
                clear hB
                go_wp2_with fail
                refine (refFarG_any c _).mono ?_
                rintro e wx ⟨rfl, he⟩
                have := H.out _ he
                clear H
                go_wp2_with fail
                show K _ _
                rw [HFR.out] at this
                obtain ⟨u5, u11⟩ := HU.out
                rw [u5, u11] at this
                exact this
              · rintro L A W K hL hC hW ⟨V, rfl, HV, s0⟩ hK
                have e5 : V 5 = .bool false := HV 5 _ rfl (hW 5 rfl)
                have e8 : V 8 = .int .u64 (farG c : Nat) := HV 8 _ rfl (hW 8 rfl)
                have e12 : V 12 = .int .u64 (farG c : Nat) := HV 12 _ rfl (hW 12 rfl)
                have H := Lib.hid (show ∀ W', Ext W W' → K (fr (upd V 13 (.bool false))) W' from fun W' he => hK _ _ ⟨upd V 13 (.bool false), rfl, HV.up 13 _ (fun x hx => Option.some.inj hx), ClS.ext s0 he⟩)
                have HU := Lib.hid (show (upd V 13 (.bool false)) 5 = .bool false ∧ (upd V 13 (.bool false)) 8 = .int .u64 (farG c : Nat) ∧ (upd V 13 (.bool false)) 12 = .int .u64 (farG c : Nat) from ⟨e5, e8, e12⟩)
                clear hK hC hW hL HV s0
                rw [HFR.out]
                rw [e5, e8, e12]
                clear e5 e8 e12
                go_wp2_with fail
                show K _ _
                have := H.out _ (Ext.refl _)
                rw [HFR.out] at this
                obtain ⟨u5, u8, u12⟩ := HU.out
                rw [u5, u8, u12] at this
                exact this
              · rintro L A W K hL hC hW ⟨V, rfl, HV, s0⟩ hK
                have e5 : V 5 = .bool false := HV 5 _ rfl (hW 5 rfl)
                have e13 : V 13 = .bool false := HV 13 _ rfl (hW 13 rfl)
                have H := Lib.hid (show ∀ W', Ext W W' → K (fr (upd V 14 (.bool false))) W' from fun W' he => hK _ _ ⟨upd V 14 (.bool false), rfl, HV.up 14 _ (fun x hx => Option.some.inj hx), ClS.ext s0 he⟩)
                have HU := Lib.hid (show (upd V 14 (.bool false)) 5 = .bool false ∧ (upd V 14 (.bool false)) 13 = .bool false from ⟨e5, e13⟩)
                clear hK hC hW hL HV s0
                rw [HFR.out]
                rw [e5, e13]
                clear e5 e13
                go_wp2_with fail
                show K _ _
                have := H.out _ (Ext.refl _)
                rw [HFR.out] at this
                obtain ⟨u5, u13⟩ := HU.out
                rw [u5, u13] at this
                exact this
              · rintro L A W hL ⟨V, rfl, HV, s0⟩
                have e0 : V 0 = clv c v n := HV 0 _ rfl (hL 0 (by simp))
                have e1 : V 1 = .int .u64 (callG c v n : Nat) := HV 1 _ rfl (hL 1 (by simp))
                have e2 : V 2 = clv c v n := HV 2 _ rfl (hL 2 (by simp))
                have e3 : V 3 = .int .u64 (callG c v n : Nat) := HV 3 _ rfl (hL 3 (by simp))
                have e4 : V 4 = .bool false := HV 4 _ rfl (hL 4 (by simp))
                have e5 : V 5 = .bool false := HV 5 _ rfl (hL 5 (by simp))
                have e6 : V 6 = .pointer (some ⟨g9, 0, none⟩) := HV 6 _ rfl (hL 6 (by simp))
                have e7 : V 7 = .bool c := HV 7 _ rfl (hL 7 (by simp))
                have e8 : V 8 = .int .u64 (farG c : Nat) := HV 8 _ rfl (hL 8 (by simp))
                have e9 : V 9 = .pointer (some ⟨g9, 0, none⟩) := HV 9 _ rfl (hL 9 (by simp))
                have e10 : V 10 = .bool c := HV 10 _ rfl (hL 10 (by simp))
                have e11 : V 11 = clv c false false := HV 11 _ rfl (hL 11 (by simp))
                have e12 : V 12 = .int .u64 (farG c : Nat) := HV 12 _ rfl (hL 12 (by simp))
                have e13 : V 13 = .bool false := HV 13 _ rfl (hL 13 (by simp))
                have e14 : V 14 = .bool false := HV 14 _ rfl (hL 14 (by simp))
                have hA := s0
                rw [HFR.out]
                rw [e0, e1, e2, e3, e4, e5, e6, e7, e8, e9, e10, e11, e12, e13, e14]
                clear hL HV HFR e0 e1 e2 e3 e4 e5 e6 e7 e8 e9 e10 e11 e12 e13 e14 s0
                go_wp2
                exact ⟨⟨k + 1, by omega, by omega, rfl, Lib.hid hA.2⟩, by simp [intOf]; omega⟩
          · have hd : decide ((k : Int) < ll.length) = false := decide_eq_false (by omega)
            go_wp2
            go_ret
            exact ⟨rfl, HX.out⟩
      · have hb : ((k : Int) == 20) = false := by simp; omega
        go_upto_region 8 with (first | ((with_reducible refine wpList_load_Svb ?_ (.tmp 17) ?_ b (o + k * 9) (x, y, c) ?_ hr ?_); (exact rfl); (exact rfl); (exact rfl)) | ((with_reducible refine wpList_store_Svb ?_ ?_ (.tmp 6) (.tmp 18) ?_ wr.heap.size #[.int .u64 0, .int .u64 0, .int .u64 0, .int .u64 0, .int .u64 0, .int .u64 0, .int .u64 0, .int .u64 0, .bool false] (x, y, c) ?_ ?_ hcs rfl ?_); (exact rfl); (exact rfl); (exact rfl); (exact rfl); (exact rfl); (intro w8 hw8 hg8; have HX := Lib.hid (show SlS w wr.heap.size (x, y, c) w8 from ⟨hw8, HX7.out.grown hg8 HX.out.size⟩); clear hw8 hg8 hcs HX7)))
        obtain ⟨g6, hg6⟩ : ∃ g, wr.heap.size = g := ⟨_, rfl⟩
        rw [hg6] at HX ⊢
        clear hg6 hr hd hb
        have h8 : w8.cell? ⟨g6, 8, none⟩ = some (.bool c) := HX.out.1.cell 8 _ rfl
        cases c
        · go_upto_region 10 with fail
          clear h8
          refine wp_named fun a0 ha0 => ?_
          obtain ⟨fr, hfr⟩ : ∃ fr : (Nat → Value) → Act, ∀ V, fr V = ((((((((((((a0.put (some 23) (V 0)).put (some 24) (V 1)).put (some 25) (V 2)).put (some 26) (V 3)).put (some 27) (V 4)).put (some 28) (V 5)).put (some 29) (V 6)).put (some 30) (V 7)).put (some 31) (V 8)).put (some 32) (V 9)).put (some 33) (V 10)).put (some 34) (V 11)) := ⟨fun V => ((((((((((((a0.put (some 23) (V 0)).put (some 24) (V 1)).put (some 25) (V 2)).put (some 26) (V 3)).put (some 27) (V 4)).put (some 28) (V 5)).put (some 29) (V 6)).put (some 30) (V 7)).put (some 31) (V 8)).put (some 32) (V 9)).put (some 33) (V 10)).put (some 34) (V 11)), fun _ => rfl⟩
          rw [ha0] at hfr
          simp only [Act.put, List.setIfInBounds_toArray, List.set_cons_zero, List.set_cons_succ] at hfr
          have HFR := Lib.hid hfr
          clear hfr
          refine wp_region_inv (by kernel_rfl) (by kernel_rfl) (fun L A W => ∃ V : Nat → Value, A = fr V ∧ Vals (fun j => ([some (svv x y false), some (.int .u64 (saveG x y false : Nat)), some (svv x y false), some (.int .u64 (saveG x y false : Nat)), some (.bool false), some (.bool false), some (.pointer (some ⟨g6, 8, none⟩)), some (.bool false), some (.int .u64 10), some (.int .u64 10), some (.bool false), some (.bool false)] : List (Option Value)).getD j none) L V ∧ (SlS w g6 (x, y, false) W)) ?_ ⟨?_, ?_, ?_, ?_, ?_, ?_, ?_, ?_, ?_, ?_, ?_, ?_, trivial⟩ ?_
          · refine ⟨fun j => a0.tmps.getD (([23, 24, 25, 26, 27, 28, 29, 30, 31, 32, 33, 34] : List Nat).getD j 0) undef, ?_, Vals.no _ _ _ (far_none _ _ rfl), HX.out.ext ((Ext.refl _).drew)⟩
            rw [HFR.out, ha0]
            rfl
          all_goals clear ha0
          · rintro L A W K hL hC hW ⟨V, rfl, HV, s0⟩ hK
            have hB := s0
            have H := Lib.hid (show ∀ W', Ext W W' → K (fr (upd V 0 (svv x y false))) W' from fun W' he => hK _ _ ⟨upd V 0 (svv x y false), rfl, HV.up 0 _ (fun x hx => Option.some.inj hx), SlS.ext s0 he⟩)
            clear hK hC hW hL HV s0
            rw [HFR.out]
            have k1 := hB.1.rg
            clear hB
            go_wp2_with ((with_reducible refine wpList_load_Svb ?_ (.tmp 6) ?_ g6 0 (x, y, false) ?_ k1 ?_); (exact rfl); (exact rfl); (exact rfl))
            show K _ _
            have := H.out _ (Ext.refl _)
            rw [HFR.out] at this
            exact this
          · rintro L A W K hL hC hW ⟨V, rfl, HV, s0⟩ hK
            have e0 : V 0 = svv x y false := HV 0 _ rfl (hW 0 rfl)
            have hB := s0
            have H := Lib.hid (show ∀ W', Ext W W' → K (fr (upd V 1 (.int .u64 (saveG x y false : Nat)))) W' from fun W' he => hK _ _ ⟨upd V 1 (.int .u64 (saveG x y false : Nat)), rfl, HV.up 1 _ (fun x hx => Option.some.inj hx), SlS.ext s0 he⟩)
            have HU := Lib.hid (show (upd V 1 (.int .u64 (saveG x y false : Nat))) 0 = svv x y false from e0)
            clear hK hC hW hL HV s0
            rw [HFR.out]
            rw [e0]
            clear e0
            clear hB
            go_wp2_with fail
            refine (saveG_any x y false _ HXM.out HYM.out).mono ?_
            rintro e wx ⟨rfl, he⟩
            have := H.out _ he
            clear H
            go_wp2_with fail
            show K _ _
            rw [HFR.out] at this
            obtain u0 := HU.out
            rw [u0] at this
            exact this
          · rintro L A W K hL hC hW ⟨V, rfl, HV, s0⟩ hK
            have hB := s0
            have H := Lib.hid (show ∀ W', Ext W W' → K (fr (upd V 2 (svv x y false))) W' from fun W' he => hK _ _ ⟨upd V 2 (svv x y false), rfl, HV.up 2 _ (fun x hx => Option.some.inj hx), SlS.ext s0 he⟩)
            clear hK hC hW hL HV s0
            rw [HFR.out]
            have k1 := hB.1.rg
            clear hB
            go_wp2_with ((with_reducible refine wpList_load_Svb ?_ (.tmp 6) ?_ g6 0 (x, y, false) ?_ k1 ?_); (exact rfl); (exact rfl); (exact rfl))
            show K _ _
            have := H.out _ (Ext.refl _)
            rw [HFR.out] at this
            exact this
          · rintro L A W K hL hC hW ⟨V, rfl, HV, s0⟩ hK
            have e2 : V 2 = svv x y false := HV 2 _ rfl (hW 2 rfl)
            have hB := s0
            have H := Lib.hid (show ∀ W', Ext W W' → K (fr (upd V 3 (.int .u64 (saveG x y false : Nat)))) W' from fun W' he => hK _ _ ⟨upd V 3 (.int .u64 (saveG x y false : Nat)), rfl, HV.up 3 _ (fun x hx => Option.some.inj hx), SlS.ext s0 he⟩)
            have HU := Lib.hid (show (upd V 3 (.int .u64 (saveG x y false : Nat))) 2 = svv x y false from e2)
            clear hK hC hW hL HV s0
            rw [HFR.out]
            rw [e2]
            clear e2
            clear hB
            go_wp2_with fail
            refine (refSaveG_any x y false _ HXM.out HYM.out).mono ?_
            rintro e wx ⟨rfl, he⟩
            have := H.out _ he
            clear H
            go_wp2_with fail
            show K _ _
            rw [HFR.out] at this
            obtain u2 := HU.out
            rw [u2] at this
            exact this
          · rintro L A W K hL hC hW ⟨V, rfl, HV, s0⟩ hK
            have e1 : V 1 = .int .u64 (saveG x y false : Nat) := HV 1 _ rfl (hW 1 rfl)
            have e3 : V 3 = .int .u64 (saveG x y false : Nat) := HV 3 _ rfl (hW 3 rfl)
            have H := Lib.hid (show ∀ W', Ext W W' → K (fr (upd V 4 (.bool false))) W' from fun W' he => hK _ _ ⟨upd V 4 (.bool false), rfl, HV.up 4 _ (fun x hx => Option.some.inj hx), SlS.ext s0 he⟩)
            have HU := Lib.hid (show (upd V 4 (.bool false)) 1 = .int .u64 (saveG x y false : Nat) ∧ (upd V 4 (.bool false)) 3 = .int .u64 (saveG x y false : Nat) from ⟨e1, e3⟩)
            clear hK hC hW hL HV s0
            rw [HFR.out]
            rw [e1, e3]
            clear e1 e3
            go_wp2_with fail
            show K _ _
            have := H.out _ (Ext.refl _)
            rw [HFR.out] at this
            obtain ⟨u1, u3⟩ := HU.out
            rw [u1, u3] at this
            exact this
          · rintro L A W K hL hC hW ⟨V, rfl, HV, s0⟩ hK
            have e4 : V 4 = .bool false := HV 4 _ rfl (hW 4 rfl)
            have H := Lib.hid (show ∀ W', Ext W W' → K (fr (upd V 5 (.bool false))) W' from fun W' he => hK _ _ ⟨upd V 5 (.bool false), rfl, HV.up 5 _ (fun x hx => Option.some.inj hx), SlS.ext s0 he⟩)
            have HU := Lib.hid (show (upd V 5 (.bool false)) 4 = .bool false from e4)
            clear hK hC hW hL HV s0
            rw [HFR.out]
            rw [e4]
            clear e4
            go_wp2_with fail
            show K _ _
            have := H.out _ (Ext.refl _)
            rw [HFR.out] at this
            obtain u4 := HU.out
            rw [u4] at this
            exact this
          · rintro L A W K hL hC hW ⟨V, rfl, HV, s0⟩ hK
            have e5 : V 5 = .bool false := HV 5 _ rfl (hW 5 rfl)
            have H := Lib.hid (show ∀ W', Ext W W' → K (fr (upd V 6 (.pointer (some ⟨g6, 8, none⟩)))) W' from fun W' he => hK _ _ ⟨upd V 6 (.pointer (some ⟨g6, 8, none⟩)), rfl, HV.up 6 _ (fun x hx => Option.some.inj hx), SlS.ext s0 he⟩)
            have HU := Lib.hid (show (upd V 6 (.pointer (some ⟨g6, 8, none⟩))) 5 = .bool false from e5)
            clear hK hC hW hL HV s0
            rw [HFR.out]
            rw [e5]
            clear e5
            go_wp2_with fail
            show K _ _
            have := H.out _ (Ext.refl _)
            rw [HFR.out] at this
            obtain u5 := HU.out
            rw [u5] at this
            exact this
          · rintro L A W K hL hC hW ⟨V, rfl, HV, s0⟩ hK
            have e5 : V 5 = .bool false := HV 5 _ rfl (hW 5 rfl)
            have e6 : V 6 = .pointer (some ⟨g6, 8, none⟩) := HV 6 _ rfl (hW 6 rfl)
            have hB := s0
            have H := Lib.hid (show ∀ W', Ext W W' → K (fr (upd V 7 (.bool false))) W' from fun W' he => hK _ _ ⟨upd V 7 (.bool false), rfl, HV.up 7 _ (fun x hx => Option.some.inj hx), SlS.ext s0 he⟩)
            have HU := Lib.hid (show (upd V 7 (.bool false)) 5 = .bool false ∧ (upd V 7 (.bool false)) 6 = .pointer (some ⟨g6, 8, none⟩) from ⟨e5, e6⟩)
            clear hK hC hW hL HV s0
            rw [HFR.out]
            rw [e5, e6]
            clear e5 e6
            have qq : W.cell? ⟨g6, 8, none⟩ = some (.bool false) := hB.1.cell 8 _ rfl
            clear hB
            go_wp2_with fail
            show K _ _
            have := H.out _ (Ext.refl _)
            rw [HFR.out] at this
            obtain ⟨u5, u6⟩ := HU.out
            rw [u5, u6] at this
            exact this
          · rintro L A W K hL hC hW ⟨V, rfl, HV, s0⟩ hK
            have e5 : V 5 = .bool false := HV 5 _ rfl (hW 5 rfl)
            have e7 : V 7 = .bool false := HV 7 _ rfl (hW 7 rfl)
            have hB := s0
            have H := Lib.hid (show ∀ W', Ext W W' → K (fr (upd V 8 (.int .u64 10))) W' from fun W' he => hK _ _ ⟨upd V 8 (.int .u64 10), rfl, HV.up 8 _ (fun x hx => Option.some.inj hx), SlS.ext s0 he⟩)
            have HU := Lib.hid (show (upd V 8 (.int .u64 10)) 5 = .bool false ∧ (upd V 8 (.int .u64 10)) 7 = .bool false from ⟨e5, e7⟩)
            clear hK hC hW hL HV s0
            rw [HFR.out]
            rw [e5, e7]
            clear e5 e7
            clear hB
            go_wp2_with fail
            refine (loadG_any false _).mono ?_
            rintro e wx ⟨rfl, rfl⟩
            have := H.out _ (Ext.refl _)
            clear H
            go_wp2_with fail
            show K _ _
            rw [HFR.out] at this
            obtain ⟨u5, u7⟩ := HU.out
            rw [u5, u7] at this
            exact this
          · rintro L A W K hL hC hW ⟨V, rfl, HV, s0⟩ hK
            have e5 : V 5 = .bool false := HV 5 _ rfl (hW 5 rfl)
            have H := Lib.hid (show ∀ W', Ext W W' → K (fr (upd V 9 (.int .u64 10))) W' from fun W' he => hK _ _ ⟨upd V 9 (.int .u64 10), rfl, HV.up 9 _ (fun x hx => Option.some.inj hx), SlS.ext s0 he⟩)
            have HU := Lib.hid (show (upd V 9 (.int .u64 10)) 5 = .bool false from e5)
            clear hK hC hW hL HV s0
            rw [HFR.out]
            rw [e5]
            clear e5
            go_wp2_with fail
            show K _ _
            have := H.out _ (Ext.refl _)
            rw [HFR.out] at this
            obtain u5 := HU.out
            rw [u5] at this
            exact this
          · rintro L A W K hL hC hW ⟨V, rfl, HV, s0⟩ hK
            have e5 : V 5 = .bool false := HV 5 _ rfl (hW 5 rfl)
            have e8 : V 8 = .int .u64 10 := HV 8 _ rfl (hW 8 rfl)
            have e9 : V 9 = .int .u64 10 := HV 9 _ rfl (hW 9 rfl)
            have H := Lib.hid (show ∀ W', Ext W W' → K (fr (upd V 10 (.bool false))) W' from fun W' he => hK _ _ ⟨upd V 10 (.bool false), rfl, HV.up 10 _ (fun x hx => Option.some.inj hx), SlS.ext s0 he⟩)
            have HU := Lib.hid (show (upd V 10 (.bool false)) 5 = .bool false ∧ (upd V 10 (.bool false)) 8 = .int .u64 10 ∧ (upd V 10 (.bool false)) 9 = .int .u64 10 from ⟨e5, e8, e9⟩)
            clear hK hC hW hL HV s0
            rw [HFR.out]
            rw [e5, e8, e9]
            clear e5 e8 e9
            go_wp2_with fail
            show K _ _
            have := H.out _ (Ext.refl _)
            rw [HFR.out] at this
            obtain ⟨u5, u8, u9⟩ := HU.out
            rw [u5, u8, u9] at this
            exact this
          · rintro L A W K hL hC hW ⟨V, rfl, HV, s0⟩ hK
            have e5 : V 5 = .bool false := HV 5 _ rfl (hW 5 rfl)
            have e10 : V 10 = .bool false := HV 10 _ rfl (hW 10 rfl)
            have H := Lib.hid (show ∀ W', Ext W W' → K (fr (upd V 11 (.bool false))) W' from fun W' he => hK _ _ ⟨upd V 11 (.bool false), rfl, HV.up 11 _ (fun x hx => Option.some.inj hx), SlS.ext s0 he⟩)
            have HU := Lib.hid (show (upd V 11 (.bool false)) 5 = .bool false ∧ (upd V 11 (.bool false)) 10 = .bool false from ⟨e5, e10⟩)
            clear hK hC hW hL HV s0
            rw [HFR.out]
            rw [e5, e10]
            clear e5 e10
            go_wp2_with fail
            show K _ _
            have := H.out _ (Ext.refl _)
            rw [HFR.out] at this
            obtain ⟨u5, u10⟩ := HU.out
            rw [u5, u10] at this
            exact this
          · rintro L A W hL ⟨V, rfl, HV, s0⟩
            have e0 : V 0 = svv x y false := HV 0 _ rfl (hL 0 (by simp))
            have e1 : V 1 = .int .u64 (saveG x y false : Nat) := HV 1 _ rfl (hL 1 (by simp))
            have e2 : V 2 = svv x y false := HV 2 _ rfl (hL 2 (by simp))
            have e3 : V 3 = .int .u64 (saveG x y false : Nat) := HV 3 _ rfl (hL 3 (by simp))
            have e4 : V 4 = .bool false := HV 4 _ rfl (hL 4 (by simp))
            have e5 : V 5 = .bool false := HV 5 _ rfl (hL 5 (by simp))
            have e6 : V 6 = .pointer (some ⟨g6, 8, none⟩) := HV 6 _ rfl (hL 6 (by simp))
            have e7 : V 7 = .bool false := HV 7 _ rfl (hL 7 (by simp))
            have e8 : V 8 = .int .u64 10 := HV 8 _ rfl (hL 8 (by simp))
            have e9 : V 9 = .int .u64 10 := HV 9 _ rfl (hL 9 (by simp))
            have e10 : V 10 = .bool false := HV 10 _ rfl (hL 10 (by simp))
            have e11 : V 11 = .bool false := HV 11 _ rfl (hL 11 (by simp))
            have hA := s0
            rw [HFR.out]
            rw [e0, e1, e2, e3, e4, e5, e6, e7, e8, e9, e10, e11]
            clear hL HV HFR e0 e1 e2 e3 e4 e5 e6 e7 e8 e9 e10 e11 s0
            go_wp2
            exact ⟨⟨k + 1, by omega, by omega, rfl, Lib.hid hA.2⟩, by simp [intOf]; omega⟩
        · go_upto_region 10 with fail
          clear h8
          refine wp_named fun a0 ha0 => ?_
          obtain ⟨fr, hfr⟩ : ∃ fr : (Nat → Value) → Act, ∀ V, fr V = ((((((((((((a0.put (some 23) (V 0)).put (some 24) (V 1)).put (some 25) (V 2)).put (some 26) (V 3)).put (some 27) (V 4)).put (some 28) (V 5)).put (some 29) (V 6)).put (some 30) (V 7)).put (some 31) (V 8)).put (some 32) (V 9)).put (some 33) (V 10)).put (some 34) (V 11)) := ⟨fun V => ((((((((((((a0.put (some 23) (V 0)).put (some 24) (V 1)).put (some 25) (V 2)).put (some 26) (V 3)).put (some 27) (V 4)).put (some 28) (V 5)).put (some 29) (V 6)).put (some 30) (V 7)).put (some 31) (V 8)).put (some 32) (V 9)).put (some 33) (V 10)).put (some 34) (V 11)), fun _ => rfl⟩
          rw [ha0] at hfr
          simp only [Act.put, List.setIfInBounds_toArray, List.set_cons_zero, List.set_cons_succ] at hfr
          have HFR := Lib.hid hfr
          clear hfr
          refine wp_region_inv (by kernel_rfl) (by kernel_rfl) (fun L A W => ∃ V : Nat → Value, A = fr V ∧ Vals (fun j => ([some (svv x y true), some (.int .u64 (saveG x y true : Nat)), some (svv x y true), some (.int .u64 (saveG x y true : Nat)), some (.bool false), some (.bool false), some (.pointer (some ⟨g6, 8, none⟩)), some (.bool true), some (.int .u64 210), some (.int .u64 210), some (.bool false), some (.bool false)] : List (Option Value)).getD j none) L V ∧ (SlS w g6 (x, y, true) W)) ?_ ⟨?_, ?_, ?_, ?_, ?_, ?_, ?_, ?_, ?_, ?_, ?_, ?_, trivial⟩ ?_
          · refine ⟨fun j => a0.tmps.getD (([23, 24, 25, 26, 27, 28, 29, 30, 31, 32, 33, 34] : List Nat).getD j 0) undef, ?_, Vals.no _ _ _ (far_none _ _ rfl), HX.out.ext ((Ext.refl _).drew)⟩
            rw [HFR.out, ha0]
            rfl
          all_goals clear ha0
          · rintro L A W K hL hC hW ⟨V, rfl, HV, s0⟩ hK
            have hB := s0
            have H := Lib.hid (show ∀ W', Ext W W' → K (fr (upd V 0 (svv x y true))) W' from fun W' he => hK _ _ ⟨upd V 0 (svv x y true), rfl, HV.up 0 _ (fun x hx => Option.some.inj hx), SlS.ext s0 he⟩)
            clear hK hC hW hL HV s0
            rw [HFR.out]
            have k1 := hB.1.rg
            clear hB
            go_wp2_with ((with_reducible refine wpList_load_Svb ?_ (.tmp 6) ?_ g6 0 (x, y, true) ?_ k1 ?_); (exact rfl); (exact rfl); (exact rfl))
            show K _ _
            have := H.out _ (Ext.refl _)
            rw [HFR.out] at this
            exact this
          · rintro L A W K hL hC hW ⟨V, rfl, HV, s0⟩ hK
            have e0 : V 0 = svv x y true := HV 0 _ rfl (hW 0 rfl)
            have hB := s0
            have H := Lib.hid (show ∀ W', Ext W W' → K (fr (upd V 1 (.int .u64 (saveG x y true : Nat)))) W' from fun W' he => hK _ _ ⟨upd V 1 (.int .u64 (saveG x y true : Nat)), rfl, HV.up 1 _ (fun x hx => Option.some.inj hx), SlS.ext s0 he⟩)
            have HU := Lib.hid (show (upd V 1 (.int .u64 (saveG x y true : Nat))) 0 = svv x y true from e0)
            clear hK hC hW hL HV s0
            rw [HFR.out]
            rw [e0]
            clear e0
            clear hB
            go_wp2_with fail
            refine (saveG_any x y true _ HXM.out HYM.out).mono ?_
            rintro e wx ⟨rfl, he⟩
            have := H.out _ he
            clear H
            go_wp2_with fail
            show K _ _
            rw [HFR.out] at this
            obtain u0 := HU.out
            rw [u0] at this
            exact this
          · rintro L A W K hL hC hW ⟨V, rfl, HV, s0⟩ hK
            have hB := s0
            have H := Lib.hid (show ∀ W', Ext W W' → K (fr (upd V 2 (svv x y true))) W' from fun W' he => hK _ _ ⟨upd V 2 (svv x y true), rfl, HV.up 2 _ (fun x hx => Option.some.inj hx), SlS.ext s0 he⟩)
            clear hK hC hW hL HV s0
            rw [HFR.out]
            have k1 := hB.1.rg
            clear hB
            go_wp2_with ((with_reducible refine wpList_load_Svb ?_ (.tmp 6) ?_ g6 0 (x, y, true) ?_ k1 ?_); (exact rfl); (exact rfl); (exact rfl))
            show K _ _
            have := H.out _ (Ext.refl _)
            rw [HFR.out] at this
            exact this
          · rintro L A W K hL hC hW ⟨V, rfl, HV, s0⟩ hK
            have e2 : V 2 = svv x y true := HV 2 _ rfl (hW 2 rfl)
            have hB := s0
            have H := Lib.hid (show ∀ W', Ext W W' → K (fr (upd V 3 (.int .u64 (saveG x y true : Nat)))) W' from fun W' he => hK _ _ ⟨upd V 3 (.int .u64 (saveG x y true : Nat)), rfl, HV.up 3 _ (fun x hx => Option.some.inj hx), SlS.ext s0 he⟩)
            have HU := Lib.hid (show (upd V 3 (.int .u64 (saveG x y true : Nat))) 2 = svv x y true from e2)
            clear hK hC hW hL HV s0
            rw [HFR.out]
            rw [e2]
            clear e2
            clear hB
            go_wp2_with fail
            refine (refSaveG_any x y true _ HXM.out HYM.out).mono ?_
            rintro e wx ⟨rfl, he⟩
            have := H.out _ he
            clear H
            go_wp2_with fail
            show K _ _
            rw [HFR.out] at this
            obtain u2 := HU.out
            rw [u2] at this
            exact this
          · rintro L A W K hL hC hW ⟨V, rfl, HV, s0⟩ hK
            have e1 : V 1 = .int .u64 (saveG x y true : Nat) := HV 1 _ rfl (hW 1 rfl)
            have e3 : V 3 = .int .u64 (saveG x y true : Nat) := HV 3 _ rfl (hW 3 rfl)
            have H := Lib.hid (show ∀ W', Ext W W' → K (fr (upd V 4 (.bool false))) W' from fun W' he => hK _ _ ⟨upd V 4 (.bool false), rfl, HV.up 4 _ (fun x hx => Option.some.inj hx), SlS.ext s0 he⟩)
            have HU := Lib.hid (show (upd V 4 (.bool false)) 1 = .int .u64 (saveG x y true : Nat) ∧ (upd V 4 (.bool false)) 3 = .int .u64 (saveG x y true : Nat) from ⟨e1, e3⟩)
            clear hK hC hW hL HV s0
            rw [HFR.out]
            rw [e1, e3]
            clear e1 e3
            go_wp2_with fail
            show K _ _
            have := H.out _ (Ext.refl _)
            rw [HFR.out] at this
            obtain ⟨u1, u3⟩ := HU.out
            rw [u1, u3] at this
            exact this
          · rintro L A W K hL hC hW ⟨V, rfl, HV, s0⟩ hK
            have e4 : V 4 = .bool false := HV 4 _ rfl (hW 4 rfl)
            have H := Lib.hid (show ∀ W', Ext W W' → K (fr (upd V 5 (.bool false))) W' from fun W' he => hK _ _ ⟨upd V 5 (.bool false), rfl, HV.up 5 _ (fun x hx => Option.some.inj hx), SlS.ext s0 he⟩)
            have HU := Lib.hid (show (upd V 5 (.bool false)) 4 = .bool false from e4)
            clear hK hC hW hL HV s0
            rw [HFR.out]
            rw [e4]
            clear e4
            go_wp2_with fail
            show K _ _
            have := H.out _ (Ext.refl _)
            rw [HFR.out] at this
            obtain u4 := HU.out
            rw [u4] at this
            exact this
          · rintro L A W K hL hC hW ⟨V, rfl, HV, s0⟩ hK
            have e5 : V 5 = .bool false := HV 5 _ rfl (hW 5 rfl)
            have H := Lib.hid (show ∀ W', Ext W W' → K (fr (upd V 6 (.pointer (some ⟨g6, 8, none⟩)))) W' from fun W' he => hK _ _ ⟨upd V 6 (.pointer (some ⟨g6, 8, none⟩)), rfl, HV.up 6 _ (fun x hx => Option.some.inj hx), SlS.ext s0 he⟩)
            have HU := Lib.hid (show (upd V 6 (.pointer (some ⟨g6, 8, none⟩))) 5 = .bool false from e5)
            clear hK hC hW hL HV s0
            rw [HFR.out]
            rw [e5]
            clear e5
            go_wp2_with fail
            show K _ _
            have := H.out _ (Ext.refl _)
            rw [HFR.out] at this
            obtain u5 := HU.out
            rw [u5] at this
            exact this
          · rintro L A W K hL hC hW ⟨V, rfl, HV, s0⟩ hK
            have e5 : V 5 = .bool false := HV 5 _ rfl (hW 5 rfl)
            have e6 : V 6 = .pointer (some ⟨g6, 8, none⟩) := HV 6 _ rfl (hW 6 rfl)
            have hB := s0
            have H := Lib.hid (show ∀ W', Ext W W' → K (fr (upd V 7 (.bool true))) W' from fun W' he => hK _ _ ⟨upd V 7 (.bool true), rfl, HV.up 7 _ (fun x hx => Option.some.inj hx), SlS.ext s0 he⟩)
            have HU := Lib.hid (show (upd V 7 (.bool true)) 5 = .bool false ∧ (upd V 7 (.bool true)) 6 = .pointer (some ⟨g6, 8, none⟩) from ⟨e5, e6⟩)
            clear hK hC hW hL HV s0
            rw [HFR.out]
            rw [e5, e6]
            clear e5 e6
            have qq : W.cell? ⟨g6, 8, none⟩ = some (.bool true) := hB.1.cell 8 _ rfl
            clear hB
            go_wp2_with fail
            show K _ _
            have := H.out _ (Ext.refl _)
            rw [HFR.out] at this
            obtain ⟨u5, u6⟩ := HU.out
            rw [u5, u6] at this
            exact this
          · rintro L A W K hL hC hW ⟨V, rfl, HV, s0⟩ hK
            have e5 : V 5 = .bool false := HV 5 _ rfl (hW 5 rfl)
            have e7 : V 7 = .bool true := HV 7 _ rfl (hW 7 rfl)
            have hB := s0
            have H := Lib.hid (show ∀ W', Ext W W' → K (fr (upd V 8 (.int .u64 210))) W' from fun W' he => hK _ _ ⟨upd V 8 (.int .u64 210), rfl, HV.up 8 _ (fun x hx => Option.some.inj hx), SlS.ext s0 he⟩)
            have HU := Lib.hid (show (upd V 8 (.int .u64 210)) 5 = .bool false ∧ (upd V 8 (.int .u64 210)) 7 = .bool true from ⟨e5, e7⟩)
            clear hK hC hW hL HV s0
            rw [HFR.out]
            rw [e5, e7]
            clear e5 e7
            clear hB
            go_wp2_with fail
            refine (loadG_any true _).mono ?_
            rintro e wx ⟨rfl, rfl⟩
            have := H.out _ (Ext.refl _)
            clear H
            go_wp2_with fail
            show K _ _
            rw [HFR.out] at this
            obtain ⟨u5, u7⟩ := HU.out
            rw [u5, u7] at this
            exact this
          · rintro L A W K hL hC hW ⟨V, rfl, HV, s0⟩ hK
            have e5 : V 5 = .bool false := HV 5 _ rfl (hW 5 rfl)
            have H := Lib.hid (show ∀ W', Ext W W' → K (fr (upd V 9 (.int .u64 210))) W' from fun W' he => hK _ _ ⟨upd V 9 (.int .u64 210), rfl, HV.up 9 _ (fun x hx => Option.some.inj hx), SlS.ext s0 he⟩)
            have HU := Lib.hid (show (upd V 9 (.int .u64 210)) 5 = .bool false from e5)
            clear hK hC hW hL HV s0
            rw [HFR.out]
            rw [e5]
            clear e5
            go_wp2_with fail
            show K _ _
            have := H.out _ (Ext.refl _)
            rw [HFR.out] at this
            obtain u5 := HU.out
            rw [u5] at this
            exact this
          · rintro L A W K hL hC hW ⟨V, rfl, HV, s0⟩ hK
            have e5 : V 5 = .bool false := HV 5 _ rfl (hW 5 rfl)
            have e8 : V 8 = .int .u64 210 := HV 8 _ rfl (hW 8 rfl)
            have e9 : V 9 = .int .u64 210 := HV 9 _ rfl (hW 9 rfl)
            have H := Lib.hid (show ∀ W', Ext W W' → K (fr (upd V 10 (.bool false))) W' from fun W' he => hK _ _ ⟨upd V 10 (.bool false), rfl, HV.up 10 _ (fun x hx => Option.some.inj hx), SlS.ext s0 he⟩)
            have HU := Lib.hid (show (upd V 10 (.bool false)) 5 = .bool false ∧ (upd V 10 (.bool false)) 8 = .int .u64 210 ∧ (upd V 10 (.bool false)) 9 = .int .u64 210 from ⟨e5, e8, e9⟩)
            clear hK hC hW hL HV s0
            rw [HFR.out]
            rw [e5, e8, e9]
            clear e5 e8 e9
            go_wp2_with fail
            show K _ _
            have := H.out _ (Ext.refl _)
            rw [HFR.out] at this
            obtain ⟨u5, u8, u9⟩ := HU.out
            rw [u5, u8, u9] at this
            exact this
          · rintro L A W K hL hC hW ⟨V, rfl, HV, s0⟩ hK
            have e5 : V 5 = .bool false := HV 5 _ rfl (hW 5 rfl)
            have e10 : V 10 = .bool false := HV 10 _ rfl (hW 10 rfl)
            have H := Lib.hid (show ∀ W', Ext W W' → K (fr (upd V 11 (.bool false))) W' from fun W' he => hK _ _ ⟨upd V 11 (.bool false), rfl, HV.up 11 _ (fun x hx => Option.some.inj hx), SlS.ext s0 he⟩)
            have HU := Lib.hid (show (upd V 11 (.bool false)) 5 = .bool false ∧ (upd V 11 (.bool false)) 10 = .bool false from ⟨e5, e10⟩)
            clear hK hC hW hL HV s0
            rw [HFR.out]
            rw [e5, e10]
            clear e5 e10
            go_wp2_with fail
            show K _ _
            have := H.out _ (Ext.refl _)
            rw [HFR.out] at this
            obtain ⟨u5, u10⟩ := HU.out
            rw [u5, u10] at this
            exact this
          · rintro L A W hL ⟨V, rfl, HV, s0⟩
            have e0 : V 0 = svv x y true := HV 0 _ rfl (hL 0 (by simp))
            have e1 : V 1 = .int .u64 (saveG x y true : Nat) := HV 1 _ rfl (hL 1 (by simp))
            have e2 : V 2 = svv x y true := HV 2 _ rfl (hL 2 (by simp))
            have e3 : V 3 = .int .u64 (saveG x y true : Nat) := HV 3 _ rfl (hL 3 (by simp))
            have e4 : V 4 = .bool false := HV 4 _ rfl (hL 4 (by simp))
            have e5 : V 5 = .bool false := HV 5 _ rfl (hL 5 (by simp))
            have e6 : V 6 = .pointer (some ⟨g6, 8, none⟩) := HV 6 _ rfl (hL 6 (by simp))
            have e7 : V 7 = .bool true := HV 7 _ rfl (hL 7 (by simp))
            have e8 : V 8 = .int .u64 210 := HV 8 _ rfl (hL 8 (by simp))
            have e9 : V 9 = .int .u64 210 := HV 9 _ rfl (hL 9 (by simp))
            have e10 : V 10 = .bool false := HV 10 _ rfl (hL 10 (by simp))
            have e11 : V 11 = .bool false := HV 11 _ rfl (hL 11 (by simp))
            have hA := s0
            rw [HFR.out]
            rw [e0, e1, e2, e3, e4, e5, e6, e7, e8, e9, e10, e11]
            clear hL HV HFR e0 e1 e2 e3 e4 e5 e6 e7 e8 e9 e10 e11 s0
            go_wp2
            exact ⟨⟨k + 1, by omega, by omega, rfl, Lib.hid hA.2⟩, by simp [intOf]; omega⟩
    · have hd : decide ((k : Int) < l.length) = false := decide_eq_false (by omega)
      have HE1 := Lib.hid HX.out
      clear HX
      go_upto_region 13 with fail
      clear hd hlt hk hk3
      go_wp2_with fail
      go_loopw [38] (fun iv wr => ∃ k : Nat, k ≤ ll.length ∧ k ≤ 20 ∧ iv = .int .i64 k ∧ Hid (Ext w wr)) (fun iv _ => ll.length - (intOf iv).toNat)
      case atStart => exact ⟨0, Nat.zero_le _, Nat.zero_le _, rfl, HE1⟩
      case round =>
        clear HE1
        obtain ⟨k, hk, hk3, rfl, HX⟩ := hrel
        by_cases hlt : k < ll.length
        · obtain ⟨b, o, ⟨c, v, n⟩, rfl, hr, _⟩ := (HU0.out.ext HX.out).at k hlt
          have hd : decide ((k : Int) < ll.length) = true := decide_eq_true (by omega)
          have hcs : Cs (wr.alloc (.cells #[.bool false, .bool false, .bool false] 48)) wr.heap.size 48 #[.bool false, .bool false, .bool false] := Cs.new _ _ _ _ rfl
          have HX7 := Lib.hid (HX.out.alloc (.cells #[.bool false, .bool false, .bool false] 48))
          by_cases h300 : k = 20
          · have hb : ((k : Int) == 20) = true := by rw [h300]; rfl
            clear h300
            go_wp2_with (first | ((with_reducible refine wpList_load_Clb ?_ (.tmp 41) ?_ b (o + k * 3) (c, v, n) ?_ hr ?_); (exact rfl); (exact rfl); (exact rfl)) | ((with_reducible refine wpList_store_Clb ?_ ?_ (.tmp 9) (.tmp 42) ?_ wr.heap.size #[.bool false, .bool false, .bool false] (c, v, n) ?_ ?_ hcs rfl ?_); (exact rfl); (exact rfl); (exact rfl); (exact rfl); (exact rfl); (intro w8 hw8 hg8; have HX := Lib.hid (show ClS w wr.heap.size (c, v, n) w8 from ⟨hw8, HX7.out.grown hg8 HX.out.size⟩); clear hw8 hg8 hcs HX7)))
            go_ret
            exact ⟨rfl, HX.out.2⟩
          · have hb : ((k : Int) == 20) = false := by simp; omega
            go_upto_region 17 with (first | ((with_reducible refine wpList_load_Clb ?_ (.tmp 41) ?_ b (o + k * 3) (c, v, n) ?_ hr ?_); (exact rfl); (exact rfl); (exact rfl)) | ((with_reducible refine wpList_store_Clb ?_ ?_ (.tmp 9) (.tmp 42) ?_ wr.heap.size #[.bool false, .bool false, .bool false] (c, v, n) ?_ ?_ hcs rfl ?_); (exact rfl); (exact rfl); (exact rfl); (exact rfl); (exact rfl); (intro w8 hw8 hg8; have HX := Lib.hid (show ClS w wr.heap.size (c, v, n) w8 from ⟨hw8, HX7.out.grown hg8 HX.out.size⟩); clear hw8 hg8 hcs HX7)))
            obtain ⟨g9, hg9⟩ : ∃ g, wr.heap.size = g := ⟨_, rfl⟩
            rw [hg9] at HX ⊢
            clear hg9 hr hd hb
            refine wp_named fun a0 ha0 => ?_
            obtain ⟨fr, hfr⟩ : ∃ fr : (Nat → Value) → Act, ∀ V, fr V = (((((((((((((((a0.put (some 45) (V 0)).put (some 46) (V 1)).put (some 47) (V 2)).put (some 48) (V 3)).put (some 49) (V 4)).put (some 50) (V 5)).put (some 51) (V 6)).put (some 52) (V 7)).put (some 53) (V 8)).put (some 54) (V 9)).put (some 55) (V 10)).put (some 56) (V 11)).put (some 57) (V 12)).put (some 58) (V 13)).put (some 59) (V 14)) := ⟨fun V => (((((((((((((((a0.put (some 45) (V 0)).put (some 46) (V 1)).put (some 47) (V 2)).put (some 48) (V 3)).put (some 49) (V 4)).put (some 50) (V 5)).put (some 51) (V 6)).put (some 52) (V 7)).put (some 53) (V 8)).put (some 54) (V 9)).put (some 55) (V 10)).put (some 56) (V 11)).put (some 57) (V 12)).put (some 58) (V 13)).put (some 59) (V 14)), fun _ => rfl⟩
            rw [ha0] at hfr
            simp only [Act.put, List.setIfInBounds_toArray, List.set_cons_zero, List.set_cons_succ] at hfr
            have HFR := Lib.hid hfr
            clear hfr
            refine wp_region_inv (by kernel_rfl) (by kernel_rfl) (fun L A W => ∃ V : Nat → Value, A = fr V ∧ Vals (fun j => ([some (clv c v n), some (.int .u64 (callG c v n : Nat)), some (clv c v n), some (.int .u64 (callG c v n : Nat)), some (.bool false), some (.bool false), some (.pointer (some ⟨g9, 0, none⟩)), some (.bool c), some (.int .u64 (farG c : Nat)), some (.pointer (some ⟨g9, 0, none⟩)), some (.bool c), some (clv c false false), some (.int .u64 (farG c : Nat)), some (.bool false), some (.bool false)] : List (Option Value)).getD j none) L V ∧ (ClS w g9 (c, v, n) W)) ?_ ⟨?_, ?_, ?_, ?_, ?_, ?_, ?_, ?_, ?_, ?_, ?_, ?_, ?_, ?_, ?_, trivial⟩ ?_
            · refine ⟨fun j => a0.tmps.getD (([45, 46, 47, 48, 49, 50, 51, 52, 53, 54, 55, 56, 57, 58, 59] : List Nat).getD j 0) undef, ?_, Vals.no _ _ _ (far_none _ _ rfl), HX.out.ext ((Ext.refl _).drew)⟩
              rw [HFR.out, ha0]
              rfl
            all_goals clear ha0
            · rintro L A W K hL hC hW ⟨V, rfl, HV, s0⟩ hK
              have hB := s0
              have H := Lib.hid (show ∀ W', Ext W W' → K (fr (upd V 0 (clv c v n))) W' from fun W' he => hK _ _ ⟨upd V 0 (clv c v n), rfl, HV.up 0 _ (fun x hx => Option.some.inj hx), ClS.ext s0 he⟩)
              clear hK hC hW hL HV s0
              rw [HFR.out]
              have k1 := hB.1.rg
              clear hB
              go_wp2_with ((with_reducible refine wpList_load_Clb ?_ (.tmp 9) ?_ g9 0 (c, v, n) ?_ k1 ?_); (exact rfl); (exact rfl); (exact rfl))
              show K _ _
              have := H.out _ (Ext.refl _)
              rw [HFR.out] at this
              exact this
            · rintro L A W K hL hC hW ⟨V, rfl, HV, s0⟩ hK
              have e0 : V 0 = clv c v n := HV 0 _ rfl (hW 0 rfl)
              have hB := s0
              have H := Lib.hid (show ∀ W', Ext W W' → K (fr (upd V 1 (.int .u64 (callG c v n : Nat)))) W' from fun W' he => hK _ _ ⟨upd V 1 (.int .u64 (callG c v n : Nat)), rfl, HV.up 1 _ (fun x hx => Option.some.inj hx), ClS.ext s0 he⟩)
              have HU := Lib.hid (show (upd V 1 (.int .u64 (callG c v n : Nat))) 0 = clv c v n from e0)
              clear hK hC hW hL HV s0
              rw [HFR.out]
              rw [e0]
              clear e0
              clear hB
              go_wp2_with fail
              refine (callG_any c v n _).mono ?_
              rintro e wx ⟨rfl, he⟩
              have := H.out _ he
              clear H
              go_wp2_with fail
              show K _ _
              rw [HFR.out] at this
              obtain u0 := HU.out
              rw [u0] at this
              exact this
            · rintro L A W K hL hC hW ⟨V, rfl, HV, s0⟩ hK
              have hB := s0
              have H := Lib.hid (show ∀ W', Ext W W' → K (fr (upd V 2 (clv c v n))) W' from fun W' he => hK _ _ ⟨upd V 2 (clv c v n), rfl, HV.up 2 _ (fun x hx => Option.some.inj hx), ClS.ext s0 he⟩)
              clear hK hC hW hL HV s0
              rw [HFR.out]
              have k1 := hB.1.rg
              clear hB
              go_wp2_with ((with_reducible refine wpList_load_Clb ?_ (.tmp 9) ?_ g9 0 (c, v, n) ?_ k1 ?_); (exact rfl); (exact rfl); (exact rfl))
              show K _ _
              have := H.out _ (Ext.refl _)
              rw [HFR.out] at this
              exact this
            · rintro L A W K hL hC hW ⟨V, rfl, HV, s0⟩ hK
              have e2 : V 2 = clv c v n := HV 2 _ rfl (hW 2 rfl)
              have hB := s0
              have H := Lib.hid (show ∀ W', Ext W W' → K (fr (upd V 3 (.int .u64 (callG c v n : Nat)))) W' from fun W' he => hK _ _ ⟨upd V 3 (.int .u64 (callG c v n : Nat)), rfl, HV.up 3 _ (fun x hx => Option.some.inj hx), ClS.ext s0 he⟩)
              have HU := Lib.hid (show (upd V 3 (.int .u64 (callG c v n : Nat))) 2 = clv c v n from e2)
              clear hK hC hW hL HV s0
              rw [HFR.out]
              rw [e2]
              clear e2
              clear hB
              go_wp2_with fail
              refine (refCallG_any c v n _).mono ?_
              rintro e wx ⟨rfl, he⟩
              have := H.out _ he
              clear H
              go_wp2_with fail
              show K _ _
              rw [HFR.out] at this
              obtain u2 := HU.out
              rw [u2] at this
              exact this
            · rintro L A W K hL hC hW ⟨V, rfl, HV, s0⟩ hK
              have e1 : V 1 = .int .u64 (callG c v n : Nat) := HV 1 _ rfl (hW 1 rfl)
              have e3 : V 3 = .int .u64 (callG c v n : Nat) := HV 3 _ rfl (hW 3 rfl)
              have H := Lib.hid (show ∀ W', Ext W W' → K (fr (upd V 4 (.bool false))) W' from fun W' he => hK _ _ ⟨upd V 4 (.bool false), rfl, HV.up 4 _ (fun x hx => Option.some.inj hx), ClS.ext s0 he⟩)
              have HU := Lib.hid (show (upd V 4 (.bool false)) 1 = .int .u64 (callG c v n : Nat) ∧ (upd V 4 (.bool false)) 3 = .int .u64 (callG c v n : Nat) from ⟨e1, e3⟩)
              clear hK hC hW hL HV s0
              rw [HFR.out]
              rw [e1, e3]
              clear e1 e3
              go_wp2_with fail
              show K _ _
              have := H.out _ (Ext.refl _)
              rw [HFR.out] at this
              obtain ⟨u1, u3⟩ := HU.out
              rw [u1, u3] at this
              exact this
            · rintro L A W K hL hC hW ⟨V, rfl, HV, s0⟩ hK
              have e4 : V 4 = .bool false := HV 4 _ rfl (hW 4 rfl)
              have H := Lib.hid (show ∀ W', Ext W W' → K (fr (upd V 5 (.bool false))) W' from fun W' he => hK _ _ ⟨upd V 5 (.bool false), rfl, HV.up 5 _ (fun x hx => Option.some.inj hx), ClS.ext s0 he⟩)
              have HU := Lib.hid (show (upd V 5 (.bool false)) 4 = .bool false from e4)
              clear hK hC hW hL HV s0
              rw [HFR.out]
              rw [e4]
              clear e4
              go_wp2_with fail
              show K _ _
              have := H.out _ (Ext.refl _)
              rw [HFR.out] at this
              obtain u4 := HU.out
              rw [u4] at this
              exact this
            · rintro L A W K hL hC hW ⟨V, rfl, HV, s0⟩ hK
              have e5 : V 5 = .bool false := HV 5 _ rfl (hW 5 rfl)
              have H := Lib.hid (show ∀ W', Ext W W' → K (fr (upd V 6 (.pointer (some ⟨g9, 0, none⟩)))) W' from fun W' he => hK _ _ ⟨upd V 6 (.pointer (some ⟨g9, 0, none⟩)), rfl, HV.up 6 _ (fun x hx => Option.some.inj hx), ClS.ext s0 he⟩)
              have HU := Lib.hid (show (upd V 6 (.pointer (some ⟨g9, 0, none⟩))) 5 = .bool false from e5)
              clear hK hC hW hL HV s0
              rw [HFR.out]
              rw [e5]
              clear e5
              go_wp2_with fail
              show K _ _
              have := H.out _ (Ext.refl _)
              rw [HFR.out] at this
              obtain u5 := HU.out
              rw [u5] at this
              exact this
            · rintro L A W K hL hC hW ⟨V, rfl, HV, s0⟩ hK
              have e5 : V 5 = .bool false := HV 5 _ rfl (hW 5 rfl)
              have e6 : V 6 = .pointer (some ⟨g9, 0, none⟩) := HV 6 _ rfl (hW 6 rfl)
              have hB := s0
              have H := Lib.hid (show ∀ W', Ext W W' → K (fr (upd V 7 (.bool c))) W' from fun W' he => hK _ _ ⟨upd V 7 (.bool c), rfl, HV.up 7 _ (fun x hx => Option.some.inj hx), ClS.ext s0 he⟩)
              have HU := Lib.hid (show (upd V 7 (.bool c)) 5 = .bool false ∧ (upd V 7 (.bool c)) 6 = .pointer (some ⟨g9, 0, none⟩) from ⟨e5, e6⟩)
              clear hK hC hW hL HV s0
              rw [HFR.out]
              rw [e5, e6]
              clear e5 e6
              have qq : W.cell? ⟨g9, 0, none⟩ = some (.bool c) := hB.1.cell 0 _ rfl
              clear hB
              go_wp2_with fail
              show K _ _
              have := H.out _ (Ext.refl _)
              rw [HFR.out] at this
              obtain ⟨u5, u6⟩ := HU.out
              rw [u5, u6] at this
              exact this
            · rintro L A W K hL hC hW ⟨V, rfl, HV, s0⟩ hK
              have e5 : V 5 = .bool false := HV 5 _ rfl (hW 5 rfl)
              have e7 : V 7 = .bool c := HV 7 _ rfl (hW 7 rfl)
              have hB := s0
              have H := Lib.hid (show ∀ W', Ext W W' → K (fr (upd V 8 (.int .u64 (farG c : Nat)))) W' from fun W' he => hK _ _ ⟨upd V 8 (.int .u64 (farG c : Nat)), rfl, HV.up 8 _ (fun x hx => Option.some.inj hx), ClS.ext s0 he⟩)
              have HU := Lib.hid (show (upd V 8 (.int .u64 (farG c : Nat))) 5 = .bool false ∧ (upd V 8 (.int .u64 (farG c : Nat))) 7 = .bool c from ⟨e5, e7⟩)
              clear hK hC hW hL HV s0
              rw [HFR.out]
              rw [e5, e7]
              clear e5 e7
              clear hB
              go_wp2_with fail
              refine (farG_any c _).mono ?_
              rintro e wx ⟨rfl, rfl⟩
              have := H.out _ (Ext.refl _)
              clear H
              go_wp2_with fail
              show K _ _
              rw [HFR.out] at this
              obtain ⟨u5, u7⟩ := HU.out
              rw [u5, u7] at this
              exact this
            · rintro L A W K hL hC hW ⟨V, rfl, HV, s0⟩ hK
              have e5 : V 5 = .bool false := HV 5 _ rfl (hW 5 rfl)
              have H := Lib.hid (show ∀ W', Ext W W' → K (fr (upd V 9 (.pointer (some ⟨g9, 0, none⟩)))) W' from fun W' he => hK _ _ ⟨upd V 9 (.pointer (some ⟨g9, 0, none⟩)), rfl, HV.up 9 _ (fun x hx => Option.some.inj hx), ClS.ext s0 he⟩)
              have HU := Lib.hid (show (upd V 9 (.pointer (some ⟨g9, 0, none⟩))) 5 = .bool false from e5)
              clear hK hC hW hL HV s0
              rw [HFR.out]
              rw [e5]
              clear e5
              go_wp2_with fail
              show K _ _
              have := H.out _ (Ext.refl _)
              rw [HFR.out] at this
              obtain u5 := HU.out
              rw [u5] at this
              exact this
            · rintro L A W K hL hC hW ⟨V, rfl, HV, s0⟩ hK
              have e5 : V 5 = .bool false := HV 5 _ rfl (hW 5 rfl)
              have e9 : V 9 = .pointer (some ⟨g9, 0, none⟩) := HV 9 _ rfl (hW 9 rfl)
              have hB := s0
              have H := Lib.hid (show ∀ W', Ext W W' → K (fr (upd V 10 (.bool c))) W' from fun W' he => hK _ _ ⟨upd V 10 (.bool c), rfl, HV.up 10 _ (fun x hx => Option.some.inj hx), ClS.ext s0 he⟩)
              have HU := Lib.hid (show (upd V 10 (.bool c)) 5 = .bool false ∧ (upd V 10 (.bool c)) 9 = .pointer (some ⟨g9, 0, none⟩) from ⟨e5, e9⟩)
              clear hK hC hW hL HV s0
              rw [HFR.out]
              rw [e5, e9]
              clear e5 e9
              have qq : W.cell? ⟨g9, 0, none⟩ = some (.bool c) := hB.1.cell 0 _ rfl
              clear hB
              go_wp2_with fail
              show K _ _
              have := H.out _ (Ext.refl _)
              rw [HFR.out] at this
              obtain ⟨u5, u9⟩ := HU.out
              rw [u5, u9] at this
              exact this
            · rintro L A W K hL hC hW ⟨V, rfl, HV, s0⟩ hK
              have e5 : V 5 = .bool false := HV 5 _ rfl (hW 5 rfl)
              have e10 : V 10 = .bool c := HV 10 _ rfl (hW 10 rfl)
              have H := Lib.hid (show ∀ W', Ext W W' → K (fr (upd V 11 (clv c false false))) W' from fun W' he => hK _ _ ⟨upd V 11 (clv c false false), rfl, HV.up 11 _ (fun x hx => Option.some.inj hx), ClS.ext s0 he⟩)
              have HU := Lib.hid (show (upd V 11 (clv c false false)) 5 = .bool false ∧ (upd V 11 (clv c false false)) 10 = .bool c from ⟨e5, e10⟩)
              clear hK hC hW hL HV s0
              rw [HFR.out]
              rw [e5, e10]
              clear e5 e10
              go_wp2_with fail
              show K _ _
              have := H.out _ (Ext.refl _)
              rw [HFR.out] at this
              obtain ⟨u5, u10⟩ := HU.out
              rw [u5, u10] at this
              exact this
            · rintro L A W K hL hC hW ⟨V, rfl, HV, s0⟩ hK
              have e5 : V 5 = .bool false := HV 5 _ rfl (hW 5 rfl)
              have e11 : V 11 = clv c false false := HV 11 _ rfl (hW 11 rfl)
              have hB := s0
              have H := Lib.hid (show ∀ W', Ext W W' → K (fr (upd V 12 (.int .u64 (farG c : Nat)))) W' from fun W' he => hK _ _ ⟨upd V 12 (.int .u64 (farG c : Nat)), rfl, HV.up 12 _ (fun x hx => Option.some.inj hx), ClS.ext s0 he⟩)
              have HU := Lib.hid (show (upd V 12 (.int .u64 (farG c : Nat))) 5 = .bool false ∧ (upd V 12 (.int .u64 (farG c : Nat))) 11 = clv c false false from ⟨e5, e11⟩)
              clear hK hC hW hL HV s0
              rw [HFR.out]
              rw [e5, e11]
              clear e5 e11
              clear hB
              go_wp2_with fail
              refine (refFarG_any c _).mono ?_
              rintro e wx ⟨rfl, he⟩
              have := H.out _ he
              clear H
              go_wp2_with fail
              show K _ _
              rw [HFR.out] at this
              obtain ⟨u5, u11⟩ := HU.out
              rw [u5, u11] at this
              exact this
            · rintro L A W K hL hC hW ⟨V, rfl, HV, s0⟩ hK
              have e5 : V 5 = .bool false := HV 5 _ rfl (hW 5 rfl)
              have e8 : V 8 = .int .u64 (farG c : Nat) := HV 8 _ rfl (hW 8 rfl)
              have e12 : V 12 = .int .u64 (farG c : Nat) := HV 12 _ rfl (hW 12 rfl)
              have H := Lib.hid (show ∀ W', Ext W W' → K (fr (upd V 13 (.bool false))) W' from fun W' he => hK _ _ ⟨upd V 13 (.bool false), rfl, HV.up 13 _ (fun x hx => Option.some.inj hx), ClS.ext s0 he⟩)
              have HU := Lib.hid (show (upd V 13 (.bool false)) 5 = .bool false ∧ (upd V 13 (.bool false)) 8 = .int .u64 (farG c : Nat) ∧ (upd V 13 (.bool false)) 12 = .int .u64 (farG c : Nat) from ⟨e5, e8, e12⟩)
              clear hK hC hW hL HV s0
              rw [HFR.out]
              rw [e5, e8, e12]
              clear e5 e8 e12
              go_wp2_with fail
              show K _ _
              have := H.out _ (Ext.refl _)
              rw [HFR.out] at this
              obtain ⟨u5, u8, u12⟩ := HU.out
              rw [u5, u8, u12] at this
              exact this
            · rintro L A W K hL hC hW ⟨V, rfl, HV, s0⟩ hK
              have e5 : V 5 = .bool false := HV 5 _ rfl (hW 5 rfl)
              have e13 : V 13 = .bool false := HV 13 _ rfl (hW 13 rfl)
              have H := Lib.hid (show ∀ W', Ext W W' → K (fr (upd V 14 (.bool false))) W' from fun W' he => hK _ _ ⟨upd V 14 (.bool false), rfl, HV.up 14 _ (fun x hx => Option.some.inj hx), ClS.ext s0 he⟩)
              have HU := Lib.hid (show (upd V 14 (.bool false)) 5 = .bool false ∧ (upd V 14 (.bool false)) 13 = .bool false from ⟨e5, e13⟩)
              clear hK hC hW hL HV s0
              rw [HFR.out]
              rw [e5, e13]
              clear e5 e13
              go_wp2_with fail
              show K _ _
              have := H.out _ (Ext.refl _)
              rw [HFR.out] at this
              obtain ⟨u5, u13⟩ := HU.out
              rw [u5, u13] at this
              exact this
            · rintro L A W hL ⟨V, rfl, HV, s0⟩
              have e0 : V 0 = clv c v n := HV 0 _ rfl (hL 0 (by simp))
              have e1 : V 1 = .int .u64 (callG c v n : Nat) := HV 1 _ rfl (hL 1 (by simp))
              have e2 : V 2 = clv c v n := HV 2 _ rfl (hL 2 (by simp))
              have e3 : V 3 = .int .u64 (callG c v n : Nat) := HV 3 _ rfl (hL 3 (by simp))
              have e4 : V 4 = .bool false := HV 4 _ rfl (hL 4 (by simp))
              have e5 : V 5 = .bool false := HV 5 _ rfl (hL 5 (by simp))
              have e6 : V 6 = .pointer (some ⟨g9, 0, none⟩) := HV 6 _ rfl (hL 6 (by simp))
              have e7 : V 7 = .bool c := HV 7 _ rfl (hL 7 (by simp))
              have e8 : V 8 = .int .u64 (farG c : Nat) := HV 8 _ rfl (hL 8 (by simp))
              have e9 : V 9 = .pointer (some ⟨g9, 0, none⟩) := HV 9 _ rfl (hL 9 (by simp))
              have e10 : V 10 = .bool c := HV 10 _ rfl (hL 10 (by simp))
              have e11 : V 11 = clv c false false := HV 11 _ rfl (hL 11 (by simp))
              have e12 : V 12 = .int .u64 (farG c : Nat) := HV 12 _ rfl (hL 12 (by simp))
              have e13 : V 13 = .bool false := HV 13 _ rfl (hL 13 (by simp))
              have e14 : V 14 = .bool false := HV 14 _ rfl (hL 14 (by simp))
              have hA := s0
              rw [HFR.out]
              rw [e0, e1, e2, e3, e4, e5, e6, e7, e8, e9, e10, e11, e12, e13, e14]
              clear hL HV HFR e0 e1 e2 e3 e4 e5 e6 e7 e8 e9 e10 e11 e12 e13 e14 s0
              go_wp2
              exact ⟨⟨k + 1, by omega, by omega, rfl, Lib.hid hA.2⟩, by simp [intOf]; omega⟩
        · have hd : decide ((k : Int) < ll.length) = false := decide_eq_false (by omega)
          go_wp2
          go_ret
          exact ⟨rfl, HX.out⟩
set_option maxRecDepth 100000 in
theorem slots_told (W : World) (args : Array Value) (h : Told Tryd.f5 W args) (ht : Tb W) : Calls Tryd.prog 5 args W (RetT W) := by
  obtain ⟨H, enc, base, ds, p, hval, hA⟩ := h
  rw [Tryd.params5] at hA hval
  obtain ⟨v0, v1, d0, d1, p0, p1, ha, rfl, rfl, h0, h1⟩ := trodAll_two hA
  obtain rfl : args = #[v0, v1] := by apply Array.toList_inj.1; rw [ha]
  obtain ⟨l, hl⟩ := Svs_came (hval 0 _ _ rfl rfl) h0
  obtain ⟨ll, hll⟩ := Cls_came (hval 1 _ _ rfl rfl) h1
  exact slots_any v0 v1 l ll W ht hl hll
set_option maxRecDepth 100000 in
theorem slots_spec (H : Type) : ∀ ds : List (DataW H), ds.length = Tryd.f5.params.toList.length → Rows.gasSlotsSpec.fn H ds = { results := [.lit (.bool true)], args := ds }
  | [_, _], _ => rfl
  | [], h | [_], h | _ :: _ :: _ :: _, h => by rw [Tryd.params5] at h; simp at h

set_option maxRecDepth 100000 in
theorem gasSlots_holds : Rows.GasSlotsSaid :=
  OpenClaim.holds_of_wide 5 Tryd.f5 rfl rfl rfl rfl rfl rfl rfl ⟨rfl, rfl, rfl, rfl, rfl⟩ rfl rfl rfl rfl rfl (by kernel_rfl) Tryd.func5 (by kernel_rfl)
    (of_decide_eq_true (by kernel_rfl)) (by unfold Func.isWrapper; first | (rw [if_pos (by decide +kernel)]; kernel_rfl) | (rw [if_neg (by decide +kernel)]; exact ⟨rfl, rfl⟩))
    (fun os started H enc _ => law_lifted_t started (by kernel_rfl) Tryd.func5 rfl rfl (slots_spec H) (of_decide_eq_true (by kernel_rfl))
      (ChangeSpec.witness_shaped (enc := enc) (C := Tryd.checked) (os := os) (X := fun w _ => laidMetH Tryd.prog laidS w) false (World.doorLaid Tryd.prog 400 os) #[.slice none 0 0, .slice none 0 0] 8 rfl (World.shaped_of_RefB (by kernel_rfl) (by kernel_rfl)) (by kernel_rfl) (by kernel_rfl) (by kernel_rfl) (door_met os _)) slots_told)

set_option maxRecDepth 100000 in
theorem gasSlots_card : Rows.GasSlotsCardSaid :=
  Claim7.holds_tied_plain_at .later [] [.data, .data, .data, .wider, .data] true (true, "1db432f97302d9ccf523489c3c5a307203f9cae2718eace3ef5e825b493cdc87") false
    gasSlots_holds (fun _ h => by cases h) (by kernel_rfl) (fun _ h => by cases h) gasSlots_row_tie rfl ⟨rfl, rfl⟩ (by kernel_rfl) rfl
    (fun f fn hf hfn => by
      obtain rfl : f = 5 := Option.some.inj ((show Tryd.prog.funcNamed "sheafer/sheaferlaw12.GasSlots" = some 5 by kernel_rfl).symm.trans hf) |>.symm
      obtain rfl : fn = Tryd.f5 := (Option.some.inj (Tryd.func5.symm.trans hfn)).symm
      exact ⟨by kernel_rfl, fun j t ht => by
        rw [Tryd.params5] at ht
        have hm : t ∈ [41, 42] := by simpa using Array.mem_of_getElem? ht
        have hall : ([41, 42].all fun u => !Tryd.prog.wantsStandIn u) = true := by kernel_rfl
        exact (show Tryd.prog.wantsStandIn t = false by simpa using List.all_eq_true.1 hall t hm)⟩)
    (by kernel_rfl)
end Go.Proofs.YtjefbfabigkeiaaDoor
