/- GasBytes: what bytes cost, where they end, and what is lent is as the document says. No condition: whatever rows of numbers and of pairs. -/
import Derived.Test.YtjefbfabigkeiaaDoorGgl
import Derived.Test.YtjefbfabigkeiaaDoorRbe
namespace Go.Proofs.YtjefbfabigkeiaaDoor
open Go.ChangeShapes Go.WideShapes Go.ChangeAt Go.RowKit Go.Shelf

set_option maxRecDepth 100000 in
theorem wpList_load_halfG {ops : Array Oper} {rest : List Oper} {o : Oper} {a : Act} {W : World} {Q : Exit → Act → World → Prop} (hgd : Region.wanted o (yielded ops a.tmps) = true) (x : Operand) (ho : o.op = .load 36 x) (g off n : Nat) (hx : a.eval x = .pointer (some ⟨g, off, none⟩))
    (hr : W.rangeAt g off (wc n).toList) (h : wpList Tryd.prog ops Q rest (a.put o.dst (wv n)) W) : wpList Tryd.prog ops Q (o :: rest) a W := by
  refine wpList_step fun K hK => ?_
  rw [if_pos hgd]
  refine wp_load_mid 36 x ho g off hx (wc n).toList _ hr Tryd.underlying36 rfl winfo ?_
  exact hK _ _ h
set_option maxRecDepth 100000 in
theorem pairinfo : (Tryd.prog.info? 37).map (·.size) = some 8 := by kernel_rfl
set_option maxRecDepth 100000 in
theorem wpList_load_pairG {ops : Array Oper} {rest : List Oper} {o : Oper} {a : Act} {W : World} {Q : Exit → Act → World → Prop} (hgd : Region.wanted o (yielded ops a.tmps) = true) (x : Operand) (ho : o.op = .load 37 x) (g off m n : Nat) (hx : a.eval x = .pointer (some ⟨g, off, none⟩))
    (hr : W.rangeAt g off (pcs m n).toList) (h : wpList Tryd.prog ops Q rest (a.put o.dst (.agg (pcs m n))) W) : wpList Tryd.prog ops Q (o :: rest) a W := by
  refine wpList_step fun K hK => ?_
  rw [if_pos hgd]
  refine wp_load_mid 37 x ho g off hx (pcs m n).toList _ hr Tryd.underlying37 rfl pairinfo ?_
  exact hK _ _ h
set_option maxRecDepth 100000 in
theorem wpList_store_pairG {ops : Array Oper} {rest : List Oper} {o : Oper} {a : Act} {W : World} {Q : Exit → Act → World → Prop} (hgd : o.guard = none) (hd : o.dst = none) (x y : Operand) (ho : o.op = .store 37 x y) (g m n : Nat)
    (hx : a.eval x = .pointer (some ⟨g, 0, none⟩)) (hy : a.eval y = .agg (pcs m n)) (hg : Cs W g 37 #[.int .u64 0, .int .u64 0, .int .u64 0, .int .u64 0, .int .u64 0, .int .u64 0, .int .u64 0, .int .u64 0])
    (h : ∀ W', Cs W' g 37 (pcs m n) → W.grownBy W' (some g) → wpList Tryd.prog ops Q rest a W') : wpList Tryd.prog ops Q (o :: rest) a W := by
  have h' : ∀ W', Cs W' g 37 (pcs m n) → W.grownBy W' (some g) → wpList Tryd.prog ops Q rest (a.put o.dst undef) W' := by rw [hd]; exact h
  refine wpList_store_row hgd 37 x y ho g (pcs m n) hx hy 37 _ hg pairinfo rfl (pcs_one m n) (h' _ ?_ ?_)
  · exact setRow_heap W g _ _ 37 (0, 0) hg
  · exact ⟨rfl, rfl, rfl, by simp [World.setRow], fun k _ hk => setRow_other W g k _ (fun e => hk (by simp [e]))⟩
/-- A pair lies there. -/
def PgS (w : World) (g x y : Nat) (W : World) : Prop := Cs W g 37 (pcs x y) ∧ Ext w W
set_option maxRecDepth 100000 in
theorem PgS.ext {w : World} {g x y : Nat} {W W' : World} (h : PgS w g x y W) (he : Ext W W') : PgS w g x y W' := ⟨Cs.ext h.1 he, h.2.trans he⟩
set_option maxRecDepth 100000 in
theorem rg_ext {W W' : World} {b o : Nat} {l : List Value} (he : Ext W W') (h : W.rangeAt b o l) : W'.rangeAt b o l := fun j v hj => he.cell (h j v hj)
set_option maxRecDepth 100000 in
theorem Ps.el {W : World} {A : Option Addr} {n c : Nat} {l : List (Nat × Nat)} (h : Ps W (.slice A n c) l) (i : Nat) (hi : i < l.length) : ∃ b o x y : Nat, A = some ⟨b, o, none⟩ ∧ W.rangeAt b (o + i * 8) (pcs x y).toList ∧ x < M256 ∧ y < M256 := by
  obtain ⟨hm, A', c', e, _, _, h3⟩ := h
  injection e with e1 e2 e3
  obtain ⟨b, o, hA, hc⟩ := h3 (by omega)
  have hp := List.getElem?_eq_getElem hi
  have hb := hm _ (List.getElem_mem hi)
  exact ⟨b, o, _, _, e1.trans hA, hc i _ hp, hb.1, hb.2⟩
set_option maxRecDepth 100000 in
theorem Gs.el {W : World} {A : Option Addr} {n c : Nat} {l : List Nat} (h : Gs W (.slice A n c) l) (i : Nat) (hi : i < l.length) : ∃ b o, A = some ⟨b, o, none⟩ ∧ W.cell? ⟨b, o + i, none⟩ = some (.int .u64 (l.getD i 0 : Nat)) ∧ l.getD i 0 < 18446744073709551616 := by
  obtain ⟨A', c', e, _, _, h3⟩ := h
  injection e with e1 e2 e3
  obtain ⟨b, o, hA, hc⟩ := h3 (by omega)
  exact ⟨b, o, e1.trans hA, hc i hi⟩
set_option maxRecDepth 100000 in
set_option maxHeartbeats 2000000 in
theorem bytes_G (v0 v1 : Value) (l : List Nat) (ll : List (Nat × Nat)) (w : World) (hT : Tb w) (hv : Gs w v0 l) (hu : Ps w v1 ll) : Calls Tryd.prog 4 #[v0, v1] w (RetT w) := by
  obtain ⟨A, cp, rfl, h1, h2, _⟩ := id hv
  obtain ⟨_, A', cp', rfl, h1', h2', _⟩ := id hu
  have HV := Lib.hid hv
  have HU0 := Lib.hid hu
  have HT := Lib.hid hT
  have hlen : l.length ≤ 9223372036854775807 := by unfold maxLen at h2; omega
  have hlen' : ll.length ≤ 9223372036854775807 := by unfold maxLen at h2'; omega
  clear h2 h1' h2' hT hv hu
  go_enter Tryd.func4, Tryd.ntmps4
  go_wp2_with fail
  refine (wakes_G w HT.out).mono ?_
  rintro e w1 ⟨rfl, hE1⟩
  have HE1 := Lib.hid hE1
  clear hE1
  go_upto_region 18 with fail
  go_loopw [15] (fun iv wr => ∃ k : Nat, k ≤ l.length ∧ k ≤ 20 ∧ iv = .int .i64 k ∧ Hid (Ext w wr)) (fun iv _ => l.length - (intOf iv).toNat)
  case atStart => exact ⟨0, Nat.zero_le _, Nat.zero_le _, rfl, HE1⟩
  case round =>
    clear HE1
    obtain ⟨k, hk, hk3, rfl, HX⟩ := hrel
    by_cases hlt : k < l.length
    · obtain ⟨b, o, rfl, hck, hnl⟩ := HV.out.el k hlt
      replace hck := HX.out.cell hck
      generalize l.getD k 0 = n at *
      by_cases h300 : k = 20
      · have hb : ((k : Int) == 20) = true := by rw [h300]; rfl
        clear h300
        go_upto_region 18 with fail
        have HE1 := Lib.hid HX.out
        clear HX hb hlt hk hk3 hck hnl
        go_wp2_with fail
        go_loopw [83] (fun iv wr => ∃ k : Nat, k ≤ ll.length ∧ k ≤ 20 ∧ iv = .int .i64 k ∧ Hid (Ext w wr)) (fun iv _ => ll.length - (intOf iv).toNat)
        case atStart => exact ⟨0, Nat.zero_le _, Nat.zero_le _, rfl, HE1⟩
        case round =>
          clear HE1
          obtain ⟨k, hk, hk3, rfl, HX⟩ := hrel
          by_cases hlt : k < ll.length
          · obtain ⟨b, o, x, y, rfl, hr0, hxm, hym⟩ := HU0.out.el k hlt
            have hr := rg_ext HX.out hr0
            have HXM := Lib.hid hxm
            have HYM := Lib.hid hym
            have HLB := Lib.hid (lb_lt x 0)
            clear hxm hym hr0
            have hcs : Cs (wr.alloc (.cells #[.int .u64 0, .int .u64 0, .int .u64 0, .int .u64 0, .int .u64 0, .int .u64 0, .int .u64 0, .int .u64 0] 37)) wr.heap.size 37 #[.int .u64 0, .int .u64 0, .int .u64 0, .int .u64 0, .int .u64 0, .int .u64 0, .int .u64 0, .int .u64 0] := Cs.new _ _ _ _ rfl
            have HX7 := Lib.hid (HX.out.alloc (.cells #[.int .u64 0, .int .u64 0, .int .u64 0, .int .u64 0, .int .u64 0, .int .u64 0, .int .u64 0, .int .u64 0] 37))
            by_cases h300 : k = 20
            · have hb : ((k : Int) == 20) = true := by rw [h300]; rfl
              clear h300
              go_wp2_with (first | ((with_reducible refine wpList_load_pairG ?_ (.tmp 86) ?_ b (o + k * 8) x y ?_ hr ?_); (exact rfl); (exact rfl); (exact rfl)) | ((with_reducible refine wpList_store_pairG ?_ ?_ (.tmp 10) (.tmp 87) ?_ wr.heap.size x y ?_ ?_ hcs ?_); (exact rfl); (exact rfl); (exact rfl); (exact rfl); (exact rfl); (intro w8 hw8 hg8; have HX := Lib.hid (show PgS w wr.heap.size x y w8 from ⟨hw8, HX7.out.grown hg8 HX.out.size⟩); clear hw8 hg8 hcs HX7)))
              go_ret
              exact ⟨rfl, HX.out.2⟩
            · have hb : ((k : Int) == 20) = false := by simp; omega
              go_upto_region 22 with (first | ((with_reducible refine wpList_load_pairG ?_ (.tmp 86) ?_ b (o + k * 8) x y ?_ hr ?_); (exact rfl); (exact rfl); (exact rfl)) | ((with_reducible refine wpList_store_pairG ?_ ?_ (.tmp 10) (.tmp 87) ?_ wr.heap.size x y ?_ ?_ hcs ?_); (exact rfl); (exact rfl); (exact rfl); (exact rfl); (exact rfl); (intro w8 hw8 hg8; have HX := Lib.hid (show PgS w wr.heap.size x y w8 from ⟨hw8, HX7.out.grown hg8 HX.out.size⟩); clear hw8 hg8 hcs HX7)))
              obtain ⟨g, hg⟩ : ∃ g, wr.heap.size = g := ⟨_, rfl⟩
              rw [hg] at HX ⊢
              clear hg hr hb
              refine wp_named fun a0 ha0 => ?_
              obtain ⟨fr, hfr⟩ : ∃ fr : (Nat → Value) → Act, ∀ V, fr V = ((((((((((((((((((((((((((a0.put (some 90) (V 0)).put (some 91) (V 1)).put (some 92) (V 2)).put (some 93) (V 3)).put (some 94) (V 4)).put (some 95) (V 5)).put (some 96) (V 6)).put (some 97) (V 7)).put (some 98) (V 8)).put (some 99) (V 9)).put (some 100) (V 10)).put (some 101) (V 11)).put (some 102) (V 12)).put (some 103) (V 13)).put (some 104) (V 14)).put (some 105) (V 15)).put (some 106) (V 16)).put (some 107) (V 17)).put (some 108) (V 18)).put (some 109) (V 19)).put (some 110) (V 20)).put (some 111) (V 21)).put (some 112) (V 22)).put (some 113) (V 23)).put (some 114) (V 24)).put (some 115) (V 25)) := ⟨fun V => ((((((((((((((((((((((((((a0.put (some 90) (V 0)).put (some 91) (V 1)).put (some 92) (V 2)).put (some 93) (V 3)).put (some 94) (V 4)).put (some 95) (V 5)).put (some 96) (V 6)).put (some 97) (V 7)).put (some 98) (V 8)).put (some 99) (V 9)).put (some 100) (V 10)).put (some 101) (V 11)).put (some 102) (V 12)).put (some 103) (V 13)).put (some 104) (V 14)).put (some 105) (V 15)).put (some 106) (V 16)).put (some 107) (V 17)).put (some 108) (V 18)).put (some 109) (V 19)).put (some 110) (V 20)).put (some 111) (V 21)).put (some 112) (V 22)).put (some 113) (V 23)).put (some 114) (V 24)).put (some 115) (V 25)), fun _ => rfl⟩
              rw [ha0] at hfr
              simp only [Act.put, List.setIfInBounds_toArray, List.set_cons_zero, List.set_cons_succ] at hfr
              have HFR := Lib.hid hfr
              clear hfr
              refine wp_region_inv (by kernel_rfl) (by kernel_rfl) (fun L A W => ∃ V : Nat → Value, A = fr V ∧ Vals (fun j => ([some (.pointer (some ⟨g, 0, none⟩)), some (wv x), some (.pointer (some ⟨g, 4, none⟩)), some (wv y), some (.int .u64 (endG x y : Nat)), some (.pointer (some ⟨g, 0, none⟩)), some (wv x), some (.pointer (some ⟨g, 4, none⟩)), some (wv y), some (.int .u64 (endG x y : Nat)), some (.bool false), some (.bool false), some (.pointer (some ⟨g, 0, none⟩)), some (.pointer (some ⟨g, 0, none⟩)), some (.int .u64 (lb x 0 : Nat)), some (.pointer (some ⟨g, 4, none⟩)), some (wv y), some (.int .u64 (lendG (lb x 0) y : Nat)), some (.pointer (some ⟨g, 0, none⟩)), some (.pointer (some ⟨g, 0, none⟩)), some (.int .u64 (lb x 0 : Nat)), some (.pointer (some ⟨g, 4, none⟩)), some (wv y), some (.int .u64 (lendG (lb x 0) y : Nat)), some (.bool false), some (.bool false)] : List (Option Value)).getD j none) L V ∧ (PgS w g x y W)) ?_ ⟨?_, ?_, ?_, ?_, ?_, ?_, ?_, ?_, ?_, ?_, ?_, ?_, ?_, ?_, ?_, ?_, ?_, ?_, ?_, ?_, ?_, ?_, ?_, ?_, ?_, ?_, trivial⟩ ?_
              · refine ⟨fun j => a0.tmps.getD (([90, 91, 92, 93, 94, 95, 96, 97, 98, 99, 100, 101, 102, 103, 104, 105, 106, 107, 108, 109, 110, 111, 112, 113, 114, 115] : List Nat).getD j 0) undef, ?_, Vals.no _ _ _ (far_none _ _ rfl), HX.out.ext ((Ext.refl _).drew)⟩
                rw [HFR.out, ha0]
                rfl
              all_goals clear ha0
              · rintro L A W K hL hC hW ⟨V, rfl, HV, s0⟩ hK
                have H := Lib.hid (show ∀ W', Ext W W' → K (fr (upd V 0 (.pointer (some ⟨g, 0, none⟩)))) W' from fun W' he => hK _ _ ⟨upd V 0 (.pointer (some ⟨g, 0, none⟩)), rfl, HV.up 0 _ (fun x hx => Option.some.inj hx), PgS.ext s0 he⟩)
                clear hK hC hW hL HV s0
                rw [HFR.out]
                go_wp2_with fail
                show K _ _
                have := H.out _ (Ext.refl _)
                rw [HFR.out] at this
                exact this
              · rintro L A W K hL hC hW ⟨V, rfl, HV, s0⟩ hK
                have e0 : V 0 = .pointer (some ⟨g, 0, none⟩) := HV 0 _ rfl (hW 0 rfl)
                have hB := s0
                have H := Lib.hid (show ∀ W', Ext W W' → K (fr (upd V 1 (wv x))) W' from fun W' he => hK _ _ ⟨upd V 1 (wv x), rfl, HV.up 1 _ (fun x hx => Option.some.inj hx), PgS.ext s0 he⟩)
                have HU := Lib.hid (show (upd V 1 (wv x)) 0 = .pointer (some ⟨g, 0, none⟩) from e0)
                clear hK hC hW hL HV s0
                rw [HFR.out]
                rw [e0]
                clear e0
                have k1 := pcs_fst hB.1
                clear hB
                go_wp2_with ((with_reducible refine wpList_load_halfG ?_ (.tmp 90) ?_ g 0 x ?_ k1 ?_); (exact rfl); (exact rfl); (exact rfl))
                show K _ _
                have := H.out _ (Ext.refl _)
                rw [HFR.out] at this
                obtain u0 := HU.out
                rw [u0] at this
                exact this
              · rintro L A W K hL hC hW ⟨V, rfl, HV, s0⟩ hK
                have H := Lib.hid (show ∀ W', Ext W W' → K (fr (upd V 2 (.pointer (some ⟨g, 4, none⟩)))) W' from fun W' he => hK _ _ ⟨upd V 2 (.pointer (some ⟨g, 4, none⟩)), rfl, HV.up 2 _ (fun x hx => Option.some.inj hx), PgS.ext s0 he⟩)
                clear hK hC hW hL HV s0
                rw [HFR.out]
                go_wp2_with fail
                show K _ _
                have := H.out _ (Ext.refl _)
                rw [HFR.out] at this
                exact this
              · rintro L A W K hL hC hW ⟨V, rfl, HV, s0⟩ hK
                have e2 : V 2 = .pointer (some ⟨g, 4, none⟩) := HV 2 _ rfl (hW 2 rfl)
                have hB := s0
                have H := Lib.hid (show ∀ W', Ext W W' → K (fr (upd V 3 (wv y))) W' from fun W' he => hK _ _ ⟨upd V 3 (wv y), rfl, HV.up 3 _ (fun x hx => Option.some.inj hx), PgS.ext s0 he⟩)
                have HU := Lib.hid (show (upd V 3 (wv y)) 2 = .pointer (some ⟨g, 4, none⟩) from e2)
                clear hK hC hW hL HV s0
                rw [HFR.out]
                rw [e2]
                clear e2
                have k1 := pcs_snd hB.1
                clear hB
                go_wp2_with ((with_reducible refine wpList_load_halfG ?_ (.tmp 92) ?_ g 4 y ?_ k1 ?_); (exact rfl); (exact rfl); (exact rfl))
                show K _ _
                have := H.out _ (Ext.refl _)
                rw [HFR.out] at this
                obtain u2 := HU.out
                rw [u2] at this
                exact this
              · rintro L A W K hL hC hW ⟨V, rfl, HV, s0⟩ hK
                have e1 : V 1 = wv x := HV 1 _ rfl (hW 1 rfl)
                have e3 : V 3 = wv y := HV 3 _ rfl (hW 3 rfl)
                have hB := s0
                have H := Lib.hid (show ∀ W', Ext W W' → K (fr (upd V 4 (.int .u64 (endG x y : Nat)))) W' from fun W' he => hK _ _ ⟨upd V 4 (.int .u64 (endG x y : Nat)), rfl, HV.up 4 _ (fun x hx => Option.some.inj hx), PgS.ext s0 he⟩)
                have HU := Lib.hid (show (upd V 4 (.int .u64 (endG x y : Nat))) 1 = wv x ∧ (upd V 4 (.int .u64 (endG x y : Nat))) 3 = wv y from ⟨e1, e3⟩)
                clear hK hC hW hL HV s0
                rw [HFR.out]
                rw [e1, e3]
                clear e1 e3
                clear hB
                go_wp2_with fail
                refine (endG_any x y _ HXM.out HYM.out).mono ?_
                rintro e wx ⟨rfl, he⟩
                have := H.out _ he
                clear H
                go_wp2_with fail
                show K _ _
                rw [HFR.out] at this
                obtain ⟨u1, u3⟩ := HU.out
                rw [u1, u3] at this
                exact this
              · rintro L A W K hL hC hW ⟨V, rfl, HV, s0⟩ hK
                have H := Lib.hid (show ∀ W', Ext W W' → K (fr (upd V 5 (.pointer (some ⟨g, 0, none⟩)))) W' from fun W' he => hK _ _ ⟨upd V 5 (.pointer (some ⟨g, 0, none⟩)), rfl, HV.up 5 _ (fun x hx => Option.some.inj hx), PgS.ext s0 he⟩)
                clear hK hC hW hL HV s0
                rw [HFR.out]
                go_wp2_with fail
                show K _ _
                have := H.out _ (Ext.refl _)
                rw [HFR.out] at this
                exact this
              · rintro L A W K hL hC hW ⟨V, rfl, HV, s0⟩ hK
                have e5 : V 5 = .pointer (some ⟨g, 0, none⟩) := HV 5 _ rfl (hW 5 rfl)
                have hB := s0
                have H := Lib.hid (show ∀ W', Ext W W' → K (fr (upd V 6 (wv x))) W' from fun W' he => hK _ _ ⟨upd V 6 (wv x), rfl, HV.up 6 _ (fun x hx => Option.some.inj hx), PgS.ext s0 he⟩)
                have HU := Lib.hid (show (upd V 6 (wv x)) 5 = .pointer (some ⟨g, 0, none⟩) from e5)
                clear hK hC hW hL HV s0
                rw [HFR.out]
                rw [e5]
                clear e5
                have k1 := pcs_fst hB.1
                clear hB
                go_wp2_with ((with_reducible refine wpList_load_halfG ?_ (.tmp 95) ?_ g 0 x ?_ k1 ?_); (exact rfl); (exact rfl); (exact rfl))
                show K _ _
                have := H.out _ (Ext.refl _)
                rw [HFR.out] at this
                obtain u5 := HU.out
                rw [u5] at this
                exact this
              · rintro L A W K hL hC hW ⟨V, rfl, HV, s0⟩ hK
                have H := Lib.hid (show ∀ W', Ext W W' → K (fr (upd V 7 (.pointer (some ⟨g, 4, none⟩)))) W' from fun W' he => hK _ _ ⟨upd V 7 (.pointer (some ⟨g, 4, none⟩)), rfl, HV.up 7 _ (fun x hx => Option.some.inj hx), PgS.ext s0 he⟩)
                clear hK hC hW hL HV s0
                rw [HFR.out]
                go_wp2_with fail
                show K _ _
                have := H.out _ (Ext.refl _)
                rw [HFR.out] at this
                exact this
              · rintro L A W K hL hC hW ⟨V, rfl, HV, s0⟩ hK
                have e7 : V 7 = .pointer (some ⟨g, 4, none⟩) := HV 7 _ rfl (hW 7 rfl)
                have hB := s0
                have H := Lib.hid (show ∀ W', Ext W W' → K (fr (upd V 8 (wv y))) W' from fun W' he => hK _ _ ⟨upd V 8 (wv y), rfl, HV.up 8 _ (fun x hx => Option.some.inj hx), PgS.ext s0 he⟩)
                have HU := Lib.hid (show (upd V 8 (wv y)) 7 = .pointer (some ⟨g, 4, none⟩) from e7)
                clear hK hC hW hL HV s0
                rw [HFR.out]
                rw [e7]
                clear e7
                have k1 := pcs_snd hB.1
                clear hB
                go_wp2_with ((with_reducible refine wpList_load_halfG ?_ (.tmp 97) ?_ g 4 y ?_ k1 ?_); (exact rfl); (exact rfl); (exact rfl))
                show K _ _
                have := H.out _ (Ext.refl _)
                rw [HFR.out] at this
                obtain u7 := HU.out
                rw [u7] at this
                exact this
              · rintro L A W K hL hC hW ⟨V, rfl, HV, s0⟩ hK
                have e6 : V 6 = wv x := HV 6 _ rfl (hW 6 rfl)
                have e8 : V 8 = wv y := HV 8 _ rfl (hW 8 rfl)
                have hB := s0
                have H := Lib.hid (show ∀ W', Ext W W' → K (fr (upd V 9 (.int .u64 (endG x y : Nat)))) W' from fun W' he => hK _ _ ⟨upd V 9 (.int .u64 (endG x y : Nat)), rfl, HV.up 9 _ (fun x hx => Option.some.inj hx), PgS.ext s0 he⟩)
                have HU := Lib.hid (show (upd V 9 (.int .u64 (endG x y : Nat))) 6 = wv x ∧ (upd V 9 (.int .u64 (endG x y : Nat))) 8 = wv y from ⟨e6, e8⟩)
                clear hK hC hW hL HV s0
                rw [HFR.out]
                rw [e6, e8]
                clear e6 e8
                clear hB
                go_wp2_with fail
                refine (refEndG_any x y _ HXM.out HYM.out).mono ?_
                rintro e wx ⟨rfl, he⟩
                have := H.out _ he
                clear H
                go_wp2_with fail
                show K _ _
                rw [HFR.out] at this
                obtain ⟨u6, u8⟩ := HU.out
                rw [u6, u8] at this
                exact this
              · rintro L A W K hL hC hW ⟨V, rfl, HV, s0⟩ hK
                have e4 : V 4 = .int .u64 (endG x y : Nat) := HV 4 _ rfl (hW 4 rfl)
                have e9 : V 9 = .int .u64 (endG x y : Nat) := HV 9 _ rfl (hW 9 rfl)
                have H := Lib.hid (show ∀ W', Ext W W' → K (fr (upd V 10 (.bool false))) W' from fun W' he => hK _ _ ⟨upd V 10 (.bool false), rfl, HV.up 10 _ (fun x hx => Option.some.inj hx), PgS.ext s0 he⟩)
                have HU := Lib.hid (show (upd V 10 (.bool false)) 4 = .int .u64 (endG x y : Nat) ∧ (upd V 10 (.bool false)) 9 = .int .u64 (endG x y : Nat) from ⟨e4, e9⟩)
                clear hK hC hW hL HV s0
                rw [HFR.out]
                rw [e4, e9]
                clear e4 e9
                go_wp2_with fail
                show K _ _
                have := H.out _ (Ext.refl _)
                rw [HFR.out] at this
                obtain ⟨u4, u9⟩ := HU.out
                rw [u4, u9] at this
                exact this
              · rintro L A W K hL hC hW ⟨V, rfl, HV, s0⟩ hK
                have e10 : V 10 = .bool false := HV 10 _ rfl (hW 10 rfl)
                have H := Lib.hid (show ∀ W', Ext W W' → K (fr (upd V 11 (.bool false))) W' from fun W' he => hK _ _ ⟨upd V 11 (.bool false), rfl, HV.up 11 _ (fun x hx => Option.some.inj hx), PgS.ext s0 he⟩)
                have HU := Lib.hid (show (upd V 11 (.bool false)) 10 = .bool false from e10)
                clear hK hC hW hL HV s0
                rw [HFR.out]
                rw [e10]
                clear e10
                go_wp2_with fail
                show K _ _
                have := H.out _ (Ext.refl _)
                rw [HFR.out] at this
                obtain u10 := HU.out
                rw [u10] at this
                exact this
              · rintro L A W K hL hC hW ⟨V, rfl, HV, s0⟩ hK
                have e11 : V 11 = .bool false := HV 11 _ rfl (hW 11 rfl)
                have H := Lib.hid (show ∀ W', Ext W W' → K (fr (upd V 12 (.pointer (some ⟨g, 0, none⟩)))) W' from fun W' he => hK _ _ ⟨upd V 12 (.pointer (some ⟨g, 0, none⟩)), rfl, HV.up 12 _ (fun x hx => Option.some.inj hx), PgS.ext s0 he⟩)
                have HU := Lib.hid (show (upd V 12 (.pointer (some ⟨g, 0, none⟩))) 11 = .bool false from e11)
                clear hK hC hW hL HV s0
                rw [HFR.out]
                rw [e11]
                clear e11
                go_wp2_with fail
                show K _ _
                have := H.out _ (Ext.refl _)
                rw [HFR.out] at this
                obtain u11 := HU.out
                rw [u11] at this
                exact this
              · rintro L A W K hL hC hW ⟨V, rfl, HV, s0⟩ hK
                have e11 : V 11 = .bool false := HV 11 _ rfl (hW 11 rfl)
                have e12 : V 12 = .pointer (some ⟨g, 0, none⟩) := HV 12 _ rfl (hW 12 rfl)
                have H := Lib.hid (show ∀ W', Ext W W' → K (fr (upd V 13 (.pointer (some ⟨g, 0, none⟩)))) W' from fun W' he => hK _ _ ⟨upd V 13 (.pointer (some ⟨g, 0, none⟩)), rfl, HV.up 13 _ (fun x hx => Option.some.inj hx), PgS.ext s0 he⟩)
                have HU := Lib.hid (show (upd V 13 (.pointer (some ⟨g, 0, none⟩))) 11 = .bool false ∧ (upd V 13 (.pointer (some ⟨g, 0, none⟩))) 12 = .pointer (some ⟨g, 0, none⟩) from ⟨e11, e12⟩)
                clear hK hC hW hL HV s0
                rw [HFR.out]
                rw [e11, e12]
                clear e11 e12
                go_wp2_with fail
                show K _ _
                have := H.out _ (Ext.refl _)
                rw [HFR.out] at this
                obtain ⟨u11, u12⟩ := HU.out
                rw [u11, u12] at this
                exact this
              · rintro L A W K hL hC hW ⟨V, rfl, HV, s0⟩ hK
                have e11 : V 11 = .bool false := HV 11 _ rfl (hW 11 rfl)
                have e13 : V 13 = .pointer (some ⟨g, 0, none⟩) := HV 13 _ rfl (hW 13 rfl)
                have hB := s0
                have H := Lib.hid (show ∀ W', Ext W W' → K (fr (upd V 14 (.int .u64 (lb x 0 : Nat)))) W' from fun W' he => hK _ _ ⟨upd V 14 (.int .u64 (lb x 0 : Nat)), rfl, HV.up 14 _ (fun x hx => Option.some.inj hx), PgS.ext s0 he⟩)
                have HU := Lib.hid (show (upd V 14 (.int .u64 (lb x 0 : Nat))) 11 = .bool false ∧ (upd V 14 (.int .u64 (lb x 0 : Nat))) 13 = .pointer (some ⟨g, 0, none⟩) from ⟨e11, e13⟩)
                clear hK hC hW hL HV s0
                rw [HFR.out]
                rw [e11, e13]
                clear e11 e13
                have qq : W.cell? ⟨g, 0, none⟩ = some (.int .u64 (lb x 0 : Nat)) := hB.1.cell 0 _ rfl
                clear hB
                go_wp2_with fail
                show K _ _
                have := H.out _ (Ext.refl _)
                rw [HFR.out] at this
                obtain ⟨u11, u13⟩ := HU.out
                rw [u11, u13] at this
                exact this
              · rintro L A W K hL hC hW ⟨V, rfl, HV, s0⟩ hK
                have e11 : V 11 = .bool false := HV 11 _ rfl (hW 11 rfl)
                have H := Lib.hid (show ∀ W', Ext W W' → K (fr (upd V 15 (.pointer (some ⟨g, 4, none⟩)))) W' from fun W' he => hK _ _ ⟨upd V 15 (.pointer (some ⟨g, 4, none⟩)), rfl, HV.up 15 _ (fun x hx => Option.some.inj hx), PgS.ext s0 he⟩)
                have HU := Lib.hid (show (upd V 15 (.pointer (some ⟨g, 4, none⟩))) 11 = .bool false from e11)
                clear hK hC hW hL HV s0
                rw [HFR.out]
                rw [e11]
                clear e11
                go_wp2_with fail
                show K _ _
                have := H.out _ (Ext.refl _)
                rw [HFR.out] at this
                obtain u11 := HU.out
                rw [u11] at this
                exact this
              · rintro L A W K hL hC hW ⟨V, rfl, HV, s0⟩ hK
                have e11 : V 11 = .bool false := HV 11 _ rfl (hW 11 rfl)
                have e15 : V 15 = .pointer (some ⟨g, 4, none⟩) := HV 15 _ rfl (hW 15 rfl)
                have hB := s0
                have H := Lib.hid (show ∀ W', Ext W W' → K (fr (upd V 16 (wv y))) W' from fun W' he => hK _ _ ⟨upd V 16 (wv y), rfl, HV.up 16 _ (fun x hx => Option.some.inj hx), PgS.ext s0 he⟩)
                have HU := Lib.hid (show (upd V 16 (wv y)) 11 = .bool false ∧ (upd V 16 (wv y)) 15 = .pointer (some ⟨g, 4, none⟩) from ⟨e11, e15⟩)
                clear hK hC hW hL HV s0
                rw [HFR.out]
                rw [e11, e15]
                clear e11 e15
                have k1 := pcs_snd hB.1
                clear hB
                go_wp2_with ((with_reducible refine wpList_load_halfG ?_ (.tmp 105) ?_ g 4 y ?_ k1 ?_); (exact rfl); (exact rfl); (exact rfl))
                show K _ _
                have := H.out _ (Ext.refl _)
                rw [HFR.out] at this
                obtain ⟨u11, u15⟩ := HU.out
                rw [u11, u15] at this
                exact this
              · rintro L A W K hL hC hW ⟨V, rfl, HV, s0⟩ hK
                have e11 : V 11 = .bool false := HV 11 _ rfl (hW 11 rfl)
                have e14 : V 14 = .int .u64 (lb x 0 : Nat) := HV 14 _ rfl (hW 14 rfl)
                have e16 : V 16 = wv y := HV 16 _ rfl (hW 16 rfl)
                have hB := s0
                have H := Lib.hid (show ∀ W', Ext W W' → K (fr (upd V 17 (.int .u64 (lendG (lb x 0) y : Nat)))) W' from fun W' he => hK _ _ ⟨upd V 17 (.int .u64 (lendG (lb x 0) y : Nat)), rfl, HV.up 17 _ (fun x hx => Option.some.inj hx), PgS.ext s0 he⟩)
                have HU := Lib.hid (show (upd V 17 (.int .u64 (lendG (lb x 0) y : Nat))) 11 = .bool false ∧ (upd V 17 (.int .u64 (lendG (lb x 0) y : Nat))) 14 = .int .u64 (lb x 0 : Nat) ∧ (upd V 17 (.int .u64 (lendG (lb x 0) y : Nat))) 16 = wv y from ⟨e11, e14, e16⟩)
                clear hK hC hW hL HV s0
                rw [HFR.out]
                rw [e11, e14, e16]
                clear e11 e14 e16
                clear hB
                go_wp2_with fail
                refine (lendG_any (lb x 0) y _ HLB.out HYM.out).mono ?_
                rintro e wx ⟨rfl, he⟩
                have := H.out _ he
                clear H
                go_wp2_with fail
                show K _ _
                rw [HFR.out] at this
                obtain ⟨u11, u14, u16⟩ := HU.out
                rw [u11, u14, u16] at this
                exact this
              · rintro L A W K hL hC hW ⟨V, rfl, HV, s0⟩ hK
                have e11 : V 11 = .bool false := HV 11 _ rfl (hW 11 rfl)
                have H := Lib.hid (show ∀ W', Ext W W' → K (fr (upd V 18 (.pointer (some ⟨g, 0, none⟩)))) W' from fun W' he => hK _ _ ⟨upd V 18 (.pointer (some ⟨g, 0, none⟩)), rfl, HV.up 18 _ (fun x hx => Option.some.inj hx), PgS.ext s0 he⟩)
                have HU := Lib.hid (show (upd V 18 (.pointer (some ⟨g, 0, none⟩))) 11 = .bool false from e11)
                clear hK hC hW hL HV s0
                rw [HFR.out]
                rw [e11]
                clear e11
                go_wp2_with fail
                show K _ _
                have := H.out _ (Ext.refl _)
                rw [HFR.out] at this
                obtain u11 := HU.out
                rw [u11] at this
                exact this
              · rintro L A W K hL hC hW ⟨V, rfl, HV, s0⟩ hK
                have e11 : V 11 = .bool false := HV 11 _ rfl (hW 11 rfl)
                have e18 : V 18 = .pointer (some ⟨g, 0, none⟩) := HV 18 _ rfl (hW 18 rfl)
                have H := Lib.hid (show ∀ W', Ext W W' → K (fr (upd V 19 (.pointer (some ⟨g, 0, none⟩)))) W' from fun W' he => hK _ _ ⟨upd V 19 (.pointer (some ⟨g, 0, none⟩)), rfl, HV.up 19 _ (fun x hx => Option.some.inj hx), PgS.ext s0 he⟩)
                have HU := Lib.hid (show (upd V 19 (.pointer (some ⟨g, 0, none⟩))) 11 = .bool false ∧ (upd V 19 (.pointer (some ⟨g, 0, none⟩))) 18 = .pointer (some ⟨g, 0, none⟩) from ⟨e11, e18⟩)
                clear hK hC hW hL HV s0
                rw [HFR.out]
                rw [e11, e18]
                clear e11 e18
                go_wp2_with fail
                show K _ _
                have := H.out _ (Ext.refl _)
                rw [HFR.out] at this
                obtain ⟨u11, u18⟩ := HU.out
                rw [u11, u18] at this
                exact this
              · rintro L A W K hL hC hW ⟨V, rfl, HV, s0⟩ hK
                have e11 : V 11 = .bool false := HV 11 _ rfl (hW 11 rfl)
                have e19 : V 19 = .pointer (some ⟨g, 0, none⟩) := HV 19 _ rfl (hW 19 rfl)
                have hB := s0
                have H := Lib.hid (show ∀ W', Ext W W' → K (fr (upd V 20 (.int .u64 (lb x 0 : Nat)))) W' from fun W' he => hK _ _ ⟨upd V 20 (.int .u64 (lb x 0 : Nat)), rfl, HV.up 20 _ (fun x hx => Option.some.inj hx), PgS.ext s0 he⟩)
                have HU := Lib.hid (show (upd V 20 (.int .u64 (lb x 0 : Nat))) 11 = .bool false ∧ (upd V 20 (.int .u64 (lb x 0 : Nat))) 19 = .pointer (some ⟨g, 0, none⟩) from ⟨e11, e19⟩)
                clear hK hC hW hL HV s0
                rw [HFR.out]
                rw [e11, e19]
                clear e11 e19
                have qq : W.cell? ⟨g, 0, none⟩ = some (.int .u64 (lb x 0 : Nat)) := hB.1.cell 0 _ rfl
                clear hB
                go_wp2_with fail
                show K _ _
                have := H.out _ (Ext.refl _)
                rw [HFR.out] at this
                obtain ⟨u11, u19⟩ := HU.out
                rw [u11, u19] at this
                exact this
              · rintro L A W K hL hC hW ⟨V, rfl, HV, s0⟩ hK
                have e11 : V 11 = .bool false := HV 11 _ rfl (hW 11 rfl)
                have H := Lib.hid (show ∀ W', Ext W W' → K (fr (upd V 21 (.pointer (some ⟨g, 4, none⟩)))) W' from fun W' he => hK _ _ ⟨upd V 21 (.pointer (some ⟨g, 4, none⟩)), rfl, HV.up 21 _ (fun x hx => Option.some.inj hx), PgS.ext s0 he⟩)
                have HU := Lib.hid (show (upd V 21 (.pointer (some ⟨g, 4, none⟩))) 11 = .bool false from e11)
                clear hK hC hW hL HV s0
                rw [HFR.out]
                rw [e11]
                clear e11
                go_wp2_with fail
                show K _ _
                have := H.out _ (Ext.refl _)
                rw [HFR.out] at this
                obtain u11 := HU.out
                rw [u11] at this
                exact this
              · rintro L A W K hL hC hW ⟨V, rfl, HV, s0⟩ hK
                have e11 : V 11 = .bool false := HV 11 _ rfl (hW 11 rfl)
                have e21 : V 21 = .pointer (some ⟨g, 4, none⟩) := HV 21 _ rfl (hW 21 rfl)
                have hB := s0
                have H := Lib.hid (show ∀ W', Ext W W' → K (fr (upd V 22 (wv y))) W' from fun W' he => hK _ _ ⟨upd V 22 (wv y), rfl, HV.up 22 _ (fun x hx => Option.some.inj hx), PgS.ext s0 he⟩)
                have HU := Lib.hid (show (upd V 22 (wv y)) 11 = .bool false ∧ (upd V 22 (wv y)) 21 = .pointer (some ⟨g, 4, none⟩) from ⟨e11, e21⟩)
                clear hK hC hW hL HV s0
                rw [HFR.out]
                rw [e11, e21]
                clear e11 e21
                have k1 := pcs_snd hB.1
                clear hB
                go_wp2_with ((with_reducible refine wpList_load_halfG ?_ (.tmp 111) ?_ g 4 y ?_ k1 ?_); (exact rfl); (exact rfl); (exact rfl))
                show K _ _
                have := H.out _ (Ext.refl _)
                rw [HFR.out] at this
                obtain ⟨u11, u21⟩ := HU.out
                rw [u11, u21] at this
                exact this
              · rintro L A W K hL hC hW ⟨V, rfl, HV, s0⟩ hK
                have e11 : V 11 = .bool false := HV 11 _ rfl (hW 11 rfl)
                have e20 : V 20 = .int .u64 (lb x 0 : Nat) := HV 20 _ rfl (hW 20 rfl)
                have e22 : V 22 = wv y := HV 22 _ rfl (hW 22 rfl)
                have hB := s0
                have H := Lib.hid (show ∀ W', Ext W W' → K (fr (upd V 23 (.int .u64 (lendG (lb x 0) y : Nat)))) W' from fun W' he => hK _ _ ⟨upd V 23 (.int .u64 (lendG (lb x 0) y : Nat)), rfl, HV.up 23 _ (fun x hx => Option.some.inj hx), PgS.ext s0 he⟩)
                have HU := Lib.hid (show (upd V 23 (.int .u64 (lendG (lb x 0) y : Nat))) 11 = .bool false ∧ (upd V 23 (.int .u64 (lendG (lb x 0) y : Nat))) 20 = .int .u64 (lb x 0 : Nat) ∧ (upd V 23 (.int .u64 (lendG (lb x 0) y : Nat))) 22 = wv y from ⟨e11, e20, e22⟩)
                clear hK hC hW hL HV s0
                rw [HFR.out]
                rw [e11, e20, e22]
                clear e11 e20 e22
                clear hB
                go_wp2_with fail
                refine (refLendG_any (lb x 0) y _ HLB.out HYM.out).mono ?_
                rintro e wx ⟨rfl, he⟩
                have := H.out _ he
                clear H
                go_wp2_with fail
                show K _ _
                rw [HFR.out] at this
                obtain ⟨u11, u20, u22⟩ := HU.out
                rw [u11, u20, u22] at this
                exact this
              · rintro L A W K hL hC hW ⟨V, rfl, HV, s0⟩ hK
                have e11 : V 11 = .bool false := HV 11 _ rfl (hW 11 rfl)
                have e17 : V 17 = .int .u64 (lendG (lb x 0) y : Nat) := HV 17 _ rfl (hW 17 rfl)
                have e23 : V 23 = .int .u64 (lendG (lb x 0) y : Nat) := HV 23 _ rfl (hW 23 rfl)
                have H := Lib.hid (show ∀ W', Ext W W' → K (fr (upd V 24 (.bool false))) W' from fun W' he => hK _ _ ⟨upd V 24 (.bool false), rfl, HV.up 24 _ (fun x hx => Option.some.inj hx), PgS.ext s0 he⟩)
                have HU := Lib.hid (show (upd V 24 (.bool false)) 11 = .bool false ∧ (upd V 24 (.bool false)) 17 = .int .u64 (lendG (lb x 0) y : Nat) ∧ (upd V 24 (.bool false)) 23 = .int .u64 (lendG (lb x 0) y : Nat) from ⟨e11, e17, e23⟩)
                clear hK hC hW hL HV s0
                rw [HFR.out]
                rw [e11, e17, e23]
                clear e11 e17 e23
                go_wp2_with fail
                show K _ _
                have := H.out _ (Ext.refl _)
                rw [HFR.out] at this
                obtain ⟨u11, u17, u23⟩ := HU.out
                rw [u11, u17, u23] at this
                exact this
              · rintro L A W K hL hC hW ⟨V, rfl, HV, s0⟩ hK
                have e11 : V 11 = .bool false := HV 11 _ rfl (hW 11 rfl)
                have e24 : V 24 = .bool false := HV 24 _ rfl (hW 24 rfl)
                have H := Lib.hid (show ∀ W', Ext W W' → K (fr (upd V 25 (.bool false))) W' from fun W' he => hK _ _ ⟨upd V 25 (.bool false), rfl, HV.up 25 _ (fun x hx => Option.some.inj hx), PgS.ext s0 he⟩)
                have HU := Lib.hid (show (upd V 25 (.bool false)) 11 = .bool false ∧ (upd V 25 (.bool false)) 24 = .bool false from ⟨e11, e24⟩)
                clear hK hC hW hL HV s0
                rw [HFR.out]
                rw [e11, e24]
                clear e11 e24
                go_wp2_with fail
                show K _ _
                have := H.out _ (Ext.refl _)
                rw [HFR.out] at this
                obtain ⟨u11, u24⟩ := HU.out
                rw [u11, u24] at this
                exact this
              · rintro L A W hL ⟨V, rfl, HV, s0⟩
                have e0 : V 0 = .pointer (some ⟨g, 0, none⟩) := HV 0 _ rfl (hL 0 (by simp))
                have e1 : V 1 = wv x := HV 1 _ rfl (hL 1 (by simp))
                have e2 : V 2 = .pointer (some ⟨g, 4, none⟩) := HV 2 _ rfl (hL 2 (by simp))
                have e3 : V 3 = wv y := HV 3 _ rfl (hL 3 (by simp))
                have e4 : V 4 = .int .u64 (endG x y : Nat) := HV 4 _ rfl (hL 4 (by simp))
                have e5 : V 5 = .pointer (some ⟨g, 0, none⟩) := HV 5 _ rfl (hL 5 (by simp))
                have e6 : V 6 = wv x := HV 6 _ rfl (hL 6 (by simp))
                have e7 : V 7 = .pointer (some ⟨g, 4, none⟩) := HV 7 _ rfl (hL 7 (by simp))
                have e8 : V 8 = wv y := HV 8 _ rfl (hL 8 (by simp))
                have e9 : V 9 = .int .u64 (endG x y : Nat) := HV 9 _ rfl (hL 9 (by simp))
                have e10 : V 10 = .bool false := HV 10 _ rfl (hL 10 (by simp))
                have e11 : V 11 = .bool false := HV 11 _ rfl (hL 11 (by simp))
                have e12 : V 12 = .pointer (some ⟨g, 0, none⟩) := HV 12 _ rfl (hL 12 (by simp))
                have e13 : V 13 = .pointer (some ⟨g, 0, none⟩) := HV 13 _ rfl (hL 13 (by simp))
                have e14 : V 14 = .int .u64 (lb x 0 : Nat) := HV 14 _ rfl (hL 14 (by simp))
                have e15 : V 15 = .pointer (some ⟨g, 4, none⟩) := HV 15 _ rfl (hL 15 (by simp))
                have e16 : V 16 = wv y := HV 16 _ rfl (hL 16 (by simp))
                have e17 : V 17 = .int .u64 (lendG (lb x 0) y : Nat) := HV 17 _ rfl (hL 17 (by simp))
                have e18 : V 18 = .pointer (some ⟨g, 0, none⟩) := HV 18 _ rfl (hL 18 (by simp))
                have e19 : V 19 = .pointer (some ⟨g, 0, none⟩) := HV 19 _ rfl (hL 19 (by simp))
                have e20 : V 20 = .int .u64 (lb x 0 : Nat) := HV 20 _ rfl (hL 20 (by simp))
                have e21 : V 21 = .pointer (some ⟨g, 4, none⟩) := HV 21 _ rfl (hL 21 (by simp))
                have e22 : V 22 = wv y := HV 22 _ rfl (hL 22 (by simp))
                have e23 : V 23 = .int .u64 (lendG (lb x 0) y : Nat) := HV 23 _ rfl (hL 23 (by simp))
                have e24 : V 24 = .bool false := HV 24 _ rfl (hL 24 (by simp))
                have e25 : V 25 = .bool false := HV 25 _ rfl (hL 25 (by simp))
                have hA := s0
                rw [HFR.out]
                rw [e0, e1, e2, e3, e4, e5, e6, e7, e8, e9, e10, e11, e12, e13, e14, e15, e16, e17, e18, e19, e20, e21, e22, e23, e24, e25]
                clear hL HV HFR e0 e1 e2 e3 e4 e5 e6 e7 e8 e9 e10 e11 e12 e13 e14 e15 e16 e17 e18 e19 e20 e21 e22 e23 e24 e25 s0
                go_wp2
                exact ⟨⟨k + 1, by omega, by omega, rfl, Lib.hid hA.2⟩, by simp [intOf]; omega⟩
          · go_wp2
            go_ret
            exact ⟨rfl, HX.out⟩
      · have hb : ((k : Int) == 20) = false := by simp; omega
        have hwl := wordsG_lt hnl
        have e1 : ((wordsG n : Int) != (wordsG n : Int)) = false := by simp
        have e2 : ((hashG n : Int) != (hashG n : Int)) = false := by simp
        have e3 : ((copyG n : Int) != (copyG n : Int)) = false := by simp
        have e4 : ((createG n : Int) != (createG n : Int)) = false := by simp
        have e5 : ((layG n : Int) != (layG n : Int)) = false := by simp
        have e6 : ((partG n : Int) != (partG n : Int)) = false := by simp
        go_wp2_with fail
        refine (wordsG_any n wr hnl).mono ?_
        rintro e wa1 ⟨rfl, rfl⟩
        clear hck
        go_wp2_with fail
        refine (refWordsG_any n wa1 hnl).mono ?_
        rintro e wa2 ⟨rfl, rfl⟩
        go_wp2_with fail
        refine (hashG_any n wa2 hnl).mono ?_
        rintro e wa3 ⟨rfl, hE3⟩
        have HE3 := Lib.hid (HX.out.trans hE3)
        clear hE3 HX
        go_wp2_with fail
        refine (refWordsG_any n wa3 hnl).mono ?_
        rintro e wa4 ⟨rfl, rfl⟩
        go_wp2_with fail
        refine (timesG_any (wordsG n) 6 wa4 hwl (by decide) (by decide)).mono ?_
        rintro e wa5 ⟨rfl, rfl⟩
        rw [show eachG (wordsG n) 6 = hashG n from rfl]
        go_wp2_with fail
        refine (copyG_any n wa5 hnl).mono ?_
        rintro e wa6 ⟨rfl, hE6⟩
        have HE6 := Lib.hid (HE3.out.trans hE6)
        clear hE6 HE3
        go_wp2_with fail
        refine (refWordsG_any n wa6 hnl).mono ?_
        rintro e wa7 ⟨rfl, rfl⟩
        go_wp2_with fail
        refine (timesG_any (wordsG n) 3 wa7 hwl (by decide) (by decide)).mono ?_
        rintro e wa8 ⟨rfl, rfl⟩
        rw [show eachG (wordsG n) 3 = copyG n from rfl]
        go_wp2_with fail
        refine (createG_any n wa8 hnl).mono ?_
        rintro e wa9 ⟨rfl, hE9⟩
        have HE9 := Lib.hid (HE6.out.trans hE9)
        clear hE9 HE6
        go_wp2_with fail
        refine (refCreateG_any n wa9 hnl).mono ?_
        rintro e wa10 ⟨rfl, rfl⟩
        go_wp2_with fail
        refine (layG_any n wa10 hnl).mono ?_
        rintro e wa11 ⟨rfl, hE11⟩
        have HE11 := Lib.hid (HE9.out.trans hE11)
        clear hE11 HE9
        go_wp2_with fail
        refine (timesG_any n 20 wa11 hnl (by decide) (by decide)).mono ?_
        rintro e wa12 ⟨rfl, rfl⟩
        rw [show eachG n 20 = layG n from rfl]
        go_wp2_with fail
        refine (partG_any n wa12 hnl).mono ?_
        rintro e wa13 ⟨rfl, rfl⟩
        go_wp2_with fail
        refine (refPartG_any n wa13 hnl).mono ?_
        rintro e wa14 ⟨rfl, rfl⟩
        go_upto_region 12 with fail
        clear e1 e2 e3 e4 e5 e6 hwl hb
        rw [show (min (l.length : Int) 10).toNat = min l.length 10 by omega]
        rw [show max (min (l.length : Int) 10) 0 = ((min l.length 10 : Nat) : Int) by omega]
        obtain ⟨q, hq⟩ : ∃ q, min l.length 10 = q := ⟨_, rfl⟩
        rw [hq]
        have hql : q ≤ l.length := by omega
        clear hq
        go_loopw [68] (fun iv wr => ∃ j : Nat, j ≤ q ∧ iv = .int .i64 j ∧ Hid (Ext w wr)) (fun iv _ => q - (intOf iv).toNat)
        case atStart => exact ⟨0, Nat.zero_le _, rfl, HE11⟩
        case round =>
          clear HE11
          obtain ⟨j, hj, rfl, HY⟩ := hrel
          by_cases hjt : j < q
          · obtain ⟨b2, o2, e2, hcj, hxl⟩ := HV.out.el j (by omega)
            injection e2 with e2
            injection e2 with e3 e4 _
            subst e3 e4
            replace hcj := HY.out.cell hcj
            generalize l.getD j 0 = x at *
            go_wp2_with fail
            refine (memG_any n x _ hnl hxl).mono ?_
            rintro e wb ⟨rfl, rfl⟩
            clear hcj
            go_wp2_with fail
            refine (refMemG_any n x _ hnl hxl).mono ?_
            rintro e wb ⟨rfl, rfl⟩
            have e1 : ((memG n x : Int) != (memG n x : Int)) = false := by simp
            go_wp2
            exact ⟨⟨j + 1, by omega, rfl, HY⟩, by simp [intOf]; omega⟩
          · go_wp2
            exact ⟨⟨k + 1, by omega, by omega, rfl, HY⟩, by simp [intOf]; omega⟩
    · have HE1 := Lib.hid HX.out
      clear HX
      go_upto_region 18 with fail
      clear hlt hk hk3
      go_wp2_with fail
      go_loopw [83] (fun iv wr => ∃ k : Nat, k ≤ ll.length ∧ k ≤ 20 ∧ iv = .int .i64 k ∧ Hid (Ext w wr)) (fun iv _ => ll.length - (intOf iv).toNat)
      case atStart => exact ⟨0, Nat.zero_le _, Nat.zero_le _, rfl, HE1⟩
      case round =>
        clear HE1
        obtain ⟨k, hk, hk3, rfl, HX⟩ := hrel
        by_cases hlt : k < ll.length
        · obtain ⟨b, o, x, y, rfl, hr0, hxm, hym⟩ := HU0.out.el k hlt
          have hr := rg_ext HX.out hr0
          have HXM := Lib.hid hxm
          have HYM := Lib.hid hym
          have HLB := Lib.hid (lb_lt x 0)
          clear hxm hym hr0
          have hcs : Cs (wr.alloc (.cells #[.int .u64 0, .int .u64 0, .int .u64 0, .int .u64 0, .int .u64 0, .int .u64 0, .int .u64 0, .int .u64 0] 37)) wr.heap.size 37 #[.int .u64 0, .int .u64 0, .int .u64 0, .int .u64 0, .int .u64 0, .int .u64 0, .int .u64 0, .int .u64 0] := Cs.new _ _ _ _ rfl
          have HX7 := Lib.hid (HX.out.alloc (.cells #[.int .u64 0, .int .u64 0, .int .u64 0, .int .u64 0, .int .u64 0, .int .u64 0, .int .u64 0, .int .u64 0] 37))
          by_cases h300 : k = 20
          · have hb : ((k : Int) == 20) = true := by rw [h300]; rfl
            clear h300
            go_wp2_with (first | ((with_reducible refine wpList_load_pairG ?_ (.tmp 86) ?_ b (o + k * 8) x y ?_ hr ?_); (exact rfl); (exact rfl); (exact rfl)) | ((with_reducible refine wpList_store_pairG ?_ ?_ (.tmp 10) (.tmp 87) ?_ wr.heap.size x y ?_ ?_ hcs ?_); (exact rfl); (exact rfl); (exact rfl); (exact rfl); (exact rfl); (intro w8 hw8 hg8; have HX := Lib.hid (show PgS w wr.heap.size x y w8 from ⟨hw8, HX7.out.grown hg8 HX.out.size⟩); clear hw8 hg8 hcs HX7)))
            go_ret
            exact ⟨rfl, HX.out.2⟩
          · have hb : ((k : Int) == 20) = false := by simp; omega
            go_upto_region 22 with (first | ((with_reducible refine wpList_load_pairG ?_ (.tmp 86) ?_ b (o + k * 8) x y ?_ hr ?_); (exact rfl); (exact rfl); (exact rfl)) | ((with_reducible refine wpList_store_pairG ?_ ?_ (.tmp 10) (.tmp 87) ?_ wr.heap.size x y ?_ ?_ hcs ?_); (exact rfl); (exact rfl); (exact rfl); (exact rfl); (exact rfl); (intro w8 hw8 hg8; have HX := Lib.hid (show PgS w wr.heap.size x y w8 from ⟨hw8, HX7.out.grown hg8 HX.out.size⟩); clear hw8 hg8 hcs HX7)))
            obtain ⟨g, hg⟩ : ∃ g, wr.heap.size = g := ⟨_, rfl⟩
            rw [hg] at HX ⊢
            clear hg hr hb
            refine wp_named fun a0 ha0 => ?_
            obtain ⟨fr, hfr⟩ : ∃ fr : (Nat → Value) → Act, ∀ V, fr V = ((((((((((((((((((((((((((a0.put (some 90) (V 0)).put (some 91) (V 1)).put (some 92) (V 2)).put (some 93) (V 3)).put (some 94) (V 4)).put (some 95) (V 5)).put (some 96) (V 6)).put (some 97) (V 7)).put (some 98) (V 8)).put (some 99) (V 9)).put (some 100) (V 10)).put (some 101) (V 11)).put (some 102) (V 12)).put (some 103) (V 13)).put (some 104) (V 14)).put (some 105) (V 15)).put (some 106) (V 16)).put (some 107) (V 17)).put (some 108) (V 18)).put (some 109) (V 19)).put (some 110) (V 20)).put (some 111) (V 21)).put (some 112) (V 22)).put (some 113) (V 23)).put (some 114) (V 24)).put (some 115) (V 25)) := ⟨fun V => ((((((((((((((((((((((((((a0.put (some 90) (V 0)).put (some 91) (V 1)).put (some 92) (V 2)).put (some 93) (V 3)).put (some 94) (V 4)).put (some 95) (V 5)).put (some 96) (V 6)).put (some 97) (V 7)).put (some 98) (V 8)).put (some 99) (V 9)).put (some 100) (V 10)).put (some 101) (V 11)).put (some 102) (V 12)).put (some 103) (V 13)).put (some 104) (V 14)).put (some 105) (V 15)).put (some 106) (V 16)).put (some 107) (V 17)).put (some 108) (V 18)).put (some 109) (V 19)).put (some 110) (V 20)).put (some 111) (V 21)).put (some 112) (V 22)).put (some 113) (V 23)).put (some 114) (V 24)).put (some 115) (V 25)), fun _ => rfl⟩
            rw [ha0] at hfr
            simp only [Act.put, List.setIfInBounds_toArray, List.set_cons_zero, List.set_cons_succ] at hfr
            have HFR := Lib.hid hfr
            clear hfr
            refine wp_region_inv (by kernel_rfl) (by kernel_rfl) (fun L A W => ∃ V : Nat → Value, A = fr V ∧ Vals (fun j => ([some (.pointer (some ⟨g, 0, none⟩)), some (wv x), some (.pointer (some ⟨g, 4, none⟩)), some (wv y), some (.int .u64 (endG x y : Nat)), some (.pointer (some ⟨g, 0, none⟩)), some (wv x), some (.pointer (some ⟨g, 4, none⟩)), some (wv y), some (.int .u64 (endG x y : Nat)), some (.bool false), some (.bool false), some (.pointer (some ⟨g, 0, none⟩)), some (.pointer (some ⟨g, 0, none⟩)), some (.int .u64 (lb x 0 : Nat)), some (.pointer (some ⟨g, 4, none⟩)), some (wv y), some (.int .u64 (lendG (lb x 0) y : Nat)), some (.pointer (some ⟨g, 0, none⟩)), some (.pointer (some ⟨g, 0, none⟩)), some (.int .u64 (lb x 0 : Nat)), some (.pointer (some ⟨g, 4, none⟩)), some (wv y), some (.int .u64 (lendG (lb x 0) y : Nat)), some (.bool false), some (.bool false)] : List (Option Value)).getD j none) L V ∧ (PgS w g x y W)) ?_ ⟨?_, ?_, ?_, ?_, ?_, ?_, ?_, ?_, ?_, ?_, ?_, ?_, ?_, ?_, ?_, ?_, ?_, ?_, ?_, ?_, ?_, ?_, ?_, ?_, ?_, ?_, trivial⟩ ?_
            · refine ⟨fun j => a0.tmps.getD (([90, 91, 92, 93, 94, 95, 96, 97, 98, 99, 100, 101, 102, 103, 104, 105, 106, 107, 108, 109, 110, 111, 112, 113, 114, 115] : List Nat).getD j 0) undef, ?_, Vals.no _ _ _ (far_none _ _ rfl), HX.out.ext ((Ext.refl _).drew)⟩
              rw [HFR.out, ha0]
              rfl
            all_goals clear ha0
            · rintro L A W K hL hC hW ⟨V, rfl, HV, s0⟩ hK
              have H := Lib.hid (show ∀ W', Ext W W' → K (fr (upd V 0 (.pointer (some ⟨g, 0, none⟩)))) W' from fun W' he => hK _ _ ⟨upd V 0 (.pointer (some ⟨g, 0, none⟩)), rfl, HV.up 0 _ (fun x hx => Option.some.inj hx), PgS.ext s0 he⟩)
              clear hK hC hW hL HV s0
              rw [HFR.out]
              go_wp2_with fail
              show K _ _
              have := H.out _ (Ext.refl _)
              rw [HFR.out] at this
              exact this
            · rintro L A W K hL hC hW ⟨V, rfl, HV, s0⟩ hK
              have e0 : V 0 = .pointer (some ⟨g, 0, none⟩) := HV 0 _ rfl (hW 0 rfl)
              have hB := s0
              have H := Lib.hid (show ∀ W', Ext W W' → K (fr (upd V 1 (wv x))) W' from fun W' he => hK _ _ ⟨upd V 1 (wv x), rfl, HV.up 1 _ (fun x hx => Option.some.inj hx), PgS.ext s0 he⟩)
              have HU := Lib.hid (show (upd V 1 (wv x)) 0 = .pointer (some ⟨g, 0, none⟩) from e0)
              clear hK hC hW hL HV s0
              rw [HFR.out]
              rw [e0]
              clear e0
              have k1 := pcs_fst hB.1
              clear hB
              go_wp2_with ((with_reducible refine wpList_load_halfG ?_ (.tmp 90) ?_ g 0 x ?_ k1 ?_); (exact rfl); (exact rfl); (exact rfl))
              show K _ _
              have := H.out _ (Ext.refl _)
              rw [HFR.out] at this
              obtain u0 := HU.out
              rw [u0] at this
              exact this
            · rintro L A W K hL hC hW ⟨V, rfl, HV, s0⟩ hK
              have H := Lib.hid (show ∀ W', Ext W W' → K (fr (upd V 2 (.pointer (some ⟨g, 4, none⟩)))) W' from fun W' he => hK _ _ ⟨upd V 2 (.pointer (some ⟨g, 4, none⟩)), rfl, HV.up 2 _ (fun x hx => Option.some.inj hx), PgS.ext s0 he⟩)
              clear hK hC hW hL HV s0
              rw [HFR.out]
              go_wp2_with fail
              show K _ _
              have := H.out _ (Ext.refl _)
              rw [HFR.out] at this
              exact this
            · rintro L A W K hL hC hW ⟨V, rfl, HV, s0⟩ hK
              have e2 : V 2 = .pointer (some ⟨g, 4, none⟩) := HV 2 _ rfl (hW 2 rfl)
              have hB := s0
              have H := Lib.hid (show ∀ W', Ext W W' → K (fr (upd V 3 (wv y))) W' from fun W' he => hK _ _ ⟨upd V 3 (wv y), rfl, HV.up 3 _ (fun x hx => Option.some.inj hx), PgS.ext s0 he⟩)
              have HU := Lib.hid (show (upd V 3 (wv y)) 2 = .pointer (some ⟨g, 4, none⟩) from e2)
              clear hK hC hW hL HV s0
              rw [HFR.out]
              rw [e2]
              clear e2
              have k1 := pcs_snd hB.1
              clear hB
              go_wp2_with ((with_reducible refine wpList_load_halfG ?_ (.tmp 92) ?_ g 4 y ?_ k1 ?_); (exact rfl); (exact rfl); (exact rfl))
              show K _ _
              have := H.out _ (Ext.refl _)
              rw [HFR.out] at this
              obtain u2 := HU.out
              rw [u2] at this
              exact this
            · rintro L A W K hL hC hW ⟨V, rfl, HV, s0⟩ hK
              have e1 : V 1 = wv x := HV 1 _ rfl (hW 1 rfl)
              have e3 : V 3 = wv y := HV 3 _ rfl (hW 3 rfl)
              have hB := s0
              have H := Lib.hid (show ∀ W', Ext W W' → K (fr (upd V 4 (.int .u64 (endG x y : Nat)))) W' from fun W' he => hK _ _ ⟨upd V 4 (.int .u64 (endG x y : Nat)), rfl, HV.up 4 _ (fun x hx => Option.some.inj hx), PgS.ext s0 he⟩)
              have HU := Lib.hid (show (upd V 4 (.int .u64 (endG x y : Nat))) 1 = wv x ∧ (upd V 4 (.int .u64 (endG x y : Nat))) 3 = wv y from ⟨e1, e3⟩)
              clear hK hC hW hL HV s0
              rw [HFR.out]
              rw [e1, e3]
              clear e1 e3
              clear hB
              go_wp2_with fail
              refine (endG_any x y _ HXM.out HYM.out).mono ?_
              rintro e wx ⟨rfl, he⟩
              have := H.out _ he
              clear H
              go_wp2_with fail
              show K _ _
              rw [HFR.out] at this
              obtain ⟨u1, u3⟩ := HU.out
              rw [u1, u3] at this
              exact this
            · rintro L A W K hL hC hW ⟨V, rfl, HV, s0⟩ hK
              have H := Lib.hid (show ∀ W', Ext W W' → K (fr (upd V 5 (.pointer (some ⟨g, 0, none⟩)))) W' from fun W' he => hK _ _ ⟨upd V 5 (.pointer (some ⟨g, 0, none⟩)), rfl, HV.up 5 _ (fun x hx => Option.some.inj hx), PgS.ext s0 he⟩)
              clear hK hC hW hL HV s0
              rw [HFR.out]
              go_wp2_with fail
              show K _ _
              have := H.out _ (Ext.refl _)
              rw [HFR.out] at this
              exact this
            · rintro L A W K hL hC hW ⟨V, rfl, HV, s0⟩ hK
              have e5 : V 5 = .pointer (some ⟨g, 0, none⟩) := HV 5 _ rfl (hW 5 rfl)
              have hB := s0
              have H := Lib.hid (show ∀ W', Ext W W' → K (fr (upd V 6 (wv x))) W' from fun W' he => hK _ _ ⟨upd V 6 (wv x), rfl, HV.up 6 _ (fun x hx => Option.some.inj hx), PgS.ext s0 he⟩)
              have HU := Lib.hid (show (upd V 6 (wv x)) 5 = .pointer (some ⟨g, 0, none⟩) from e5)
              clear hK hC hW hL HV s0
              rw [HFR.out]
              rw [e5]
              clear e5
              have k1 := pcs_fst hB.1
              clear hB
              go_wp2_with ((with_reducible refine wpList_load_halfG ?_ (.tmp 95) ?_ g 0 x ?_ k1 ?_); (exact rfl); (exact rfl); (exact rfl))
              show K _ _
              have := H.out _ (Ext.refl _)
              rw [HFR.out] at this
              obtain u5 := HU.out
              rw [u5] at this
              exact this
            · rintro L A W K hL hC hW ⟨V, rfl, HV, s0⟩ hK
              have H := Lib.hid (show ∀ W', Ext W W' → K (fr (upd V 7 (.pointer (some ⟨g, 4, none⟩)))) W' from fun W' he => hK _ _ ⟨upd V 7 (.pointer (some ⟨g, 4, none⟩)), rfl, HV.up 7 _ (fun x hx => Option.some.inj hx), PgS.ext s0 he⟩)
              clear hK hC hW hL HV s0
              rw [HFR.out]
              go_wp2_with fail
              show K _ _
              have := H.out _ (Ext.refl _)
              rw [HFR.out] at this
              exact this
            · rintro L A W K hL hC hW ⟨V, rfl, HV, s0⟩ hK
              have e7 : V 7 = .pointer (some ⟨g, 4, none⟩) := HV 7 _ rfl (hW 7 rfl)
              have hB := s0
              have H := Lib.hid (show ∀ W', Ext W W' → K (fr (upd V 8 (wv y))) W' from fun W' he => hK _ _ ⟨upd V 8 (wv y), rfl, HV.up 8 _ (fun x hx => Option.some.inj hx), PgS.ext s0 he⟩)
              have HU := Lib.hid (show (upd V 8 (wv y)) 7 = .pointer (some ⟨g, 4, none⟩) from e7)
              clear hK hC hW hL HV s0
              rw [HFR.out]
              rw [e7]
              clear e7
              have k1 := pcs_snd hB.1
              clear hB
              go_wp2_with ((with_reducible refine wpList_load_halfG ?_ (.tmp 97) ?_ g 4 y ?_ k1 ?_); (exact rfl); (exact rfl); (exact rfl))
              show K _ _
              have := H.out _ (Ext.refl _)
              rw [HFR.out] at this
              obtain u7 := HU.out
              rw [u7] at this
              exact this
            · rintro L A W K hL hC hW ⟨V, rfl, HV, s0⟩ hK
              have e6 : V 6 = wv x := HV 6 _ rfl (hW 6 rfl)
              have e8 : V 8 = wv y := HV 8 _ rfl (hW 8 rfl)
              have hB := s0
              have H := Lib.hid (show ∀ W', Ext W W' → K (fr (upd V 9 (.int .u64 (endG x y : Nat)))) W' from fun W' he => hK _ _ ⟨upd V 9 (.int .u64 (endG x y : Nat)), rfl, HV.up 9 _ (fun x hx => Option.some.inj hx), PgS.ext s0 he⟩)
              have HU := Lib.hid (show (upd V 9 (.int .u64 (endG x y : Nat))) 6 = wv x ∧ (upd V 9 (.int .u64 (endG x y : Nat))) 8 = wv y from ⟨e6, e8⟩)
              clear hK hC hW hL HV s0
              rw [HFR.out]
              rw [e6, e8]
              clear e6 e8
              clear hB
              go_wp2_with fail
              refine (refEndG_any x y _ HXM.out HYM.out).mono ?_
              rintro e wx ⟨rfl, he⟩
              have := H.out _ he
              clear H
              go_wp2_with fail
              show K _ _
              rw [HFR.out] at this
              obtain ⟨u6, u8⟩ := HU.out
              rw [u6, u8] at this
              exact this
            · rintro L A W K hL hC hW ⟨V, rfl, HV, s0⟩ hK
              have e4 : V 4 = .int .u64 (endG x y : Nat) := HV 4 _ rfl (hW 4 rfl)
              have e9 : V 9 = .int .u64 (endG x y : Nat) := HV 9 _ rfl (hW 9 rfl)
              have H := Lib.hid (show ∀ W', Ext W W' → K (fr (upd V 10 (.bool false))) W' from fun W' he => hK _ _ ⟨upd V 10 (.bool false), rfl, HV.up 10 _ (fun x hx => Option.some.inj hx), PgS.ext s0 he⟩)
              have HU := Lib.hid (show (upd V 10 (.bool false)) 4 = .int .u64 (endG x y : Nat) ∧ (upd V 10 (.bool false)) 9 = .int .u64 (endG x y : Nat) from ⟨e4, e9⟩)
              clear hK hC hW hL HV s0
              rw [HFR.out]
              rw [e4, e9]
              clear e4 e9
              go_wp2_with fail
              show K _ _
              have := H.out _ (Ext.refl _)
              rw [HFR.out] at this
              obtain ⟨u4, u9⟩ := HU.out
              rw [u4, u9] at this
              exact this
            · rintro L A W K hL hC hW ⟨V, rfl, HV, s0⟩ hK
              have e10 : V 10 = .bool false := HV 10 _ rfl (hW 10 rfl)
              have H := Lib.hid (show ∀ W', Ext W W' → K (fr (upd V 11 (.bool false))) W' from fun W' he => hK _ _ ⟨upd V 11 (.bool false), rfl, HV.up 11 _ (fun x hx => Option.some.inj hx), PgS.ext s0 he⟩)
              have HU := Lib.hid (show (upd V 11 (.bool false)) 10 = .bool false from e10)
              clear hK hC hW hL HV s0
              rw [HFR.out]
              rw [e10]
              clear e10
              go_wp2_with fail
              show K _ _
              have := H.out _ (Ext.refl _)
              rw [HFR.out] at this
              obtain u10 := HU.out
              rw [u10] at this
              exact this
            · rintro L A W K hL hC hW ⟨V, rfl, HV, s0⟩ hK
              have e11 : V 11 = .bool false := HV 11 _ rfl (hW 11 rfl)
              have H := Lib.hid (show ∀ W', Ext W W' → K (fr (upd V 12 (.pointer (some ⟨g, 0, none⟩)))) W' from fun W' he => hK _ _ ⟨upd V 12 (.pointer (some ⟨g, 0, none⟩)), rfl, HV.up 12 _ (fun x hx => Option.some.inj hx), PgS.ext s0 he⟩)
              have HU := Lib.hid (show (upd V 12 (.pointer (some ⟨g, 0, none⟩))) 11 = .bool false from e11)
              clear hK hC hW hL HV s0
              rw [HFR.out]
              rw [e11]
              clear e11
              go_wp2_with fail
              show K _ _
              have := H.out _ (Ext.refl _)
              rw [HFR.out] at this
              obtain u11 := HU.out
              rw [u11] at this
              exact this
            · rintro L A W K hL hC hW ⟨V, rfl, HV, s0⟩ hK
              have e11 : V 11 = .bool false := HV 11 _ rfl (hW 11 rfl)
              have e12 : V 12 = .pointer (some ⟨g, 0, none⟩) := HV 12 _ rfl (hW 12 rfl)
              have H := Lib.hid (show ∀ W', Ext W W' → K (fr (upd V 13 (.pointer (some ⟨g, 0, none⟩)))) W' from fun W' he => hK _ _ ⟨upd V 13 (.pointer (some ⟨g, 0, none⟩)), rfl, HV.up 13 _ (fun x hx => Option.some.inj hx), PgS.ext s0 he⟩)
              have HU := Lib.hid (show (upd V 13 (.pointer (some ⟨g, 0, none⟩))) 11 = .bool false ∧ (upd V 13 (.pointer (some ⟨g, 0, none⟩))) 12 = .pointer (some ⟨g, 0, none⟩) from ⟨e11, e12⟩)
              clear hK hC hW hL HV s0
              rw [HFR.out]
              rw [e11, e12]
              clear e11 e12
              go_wp2_with fail
              show K _ _
              have := H.out _ (Ext.refl _)
              rw [HFR.out] at this
              obtain ⟨u11, u12⟩ := HU.out
              rw [u11, u12] at this
              exact this
            · rintro L A W K hL hC hW ⟨V, rfl, HV, s0⟩ hK
              have e11 : V 11 = .bool false := HV 11 _ rfl (hW 11 rfl)
              have e13 : V 13 = .pointer (some ⟨g, 0, none⟩) := HV 13 _ rfl (hW 13 rfl)
              have hB := s0
              have H := Lib.hid (show ∀ W', Ext W W' → K (fr (upd V 14 (.int .u64 (lb x 0 : Nat)))) W' from fun W' he => hK _ _ ⟨upd V 14 (.int .u64 (lb x 0 : Nat)), rfl, HV.up 14 _ (fun x hx => Option.some.inj hx), PgS.ext s0 he⟩)
              have HU := Lib.hid (show (upd V 14 (.int .u64 (lb x 0 : Nat))) 11 = .bool false ∧ (upd V 14 (.int .u64 (lb x 0 : Nat))) 13 = .pointer (some ⟨g, 0, none⟩) from ⟨e11, e13⟩)
              clear hK hC hW hL HV s0
              rw [HFR.out]
              rw [e11, e13]
              clear e11 e13
              have qq : W.cell? ⟨g, 0, none⟩ = some (.int .u64 (lb x 0 : Nat)) := hB.1.cell 0 _ rfl
              clear hB
              go_wp2_with fail
              show K _ _
              have := H.out _ (Ext.refl _)
              rw [HFR.out] at this
              obtain ⟨u11, u13⟩ := HU.out
              rw [u11, u13] at this
              exact this
            · rintro L A W K hL hC hW ⟨V, rfl, HV, s0⟩ hK
              have e11 : V 11 = .bool false := HV 11 _ rfl (hW 11 rfl)
              have H := Lib.hid (show ∀ W', Ext W W' → K (fr (upd V 15 (.pointer (some ⟨g, 4, none⟩)))) W' from fun W' he => hK _ _ ⟨upd V 15 (.pointer (some ⟨g, 4, none⟩)), rfl, HV.up 15 _ (fun x hx => Option.some.inj hx), PgS.ext s0 he⟩)
              have HU := Lib.hid (show (upd V 15 (.pointer (some ⟨g, 4, none⟩))) 11 = .bool false from e11)
              clear hK hC hW hL HV s0
              rw [HFR.out]
              rw [e11]
              clear e11
              go_wp2_with fail
              show K _ _
              have := H.out _ (Ext.refl _)
              rw [HFR.out] at this
              obtain u11 := HU.out
              rw [u11] at this
              exact this
            · rintro L A W K hL hC hW ⟨V, rfl, HV, s0⟩ hK
              have e11 : V 11 = .bool false := HV 11 _ rfl (hW 11 rfl)
              have e15 : V 15 = .pointer (some ⟨g, 4, none⟩) := HV 15 _ rfl (hW 15 rfl)
              have hB := s0
              have H := Lib.hid (show ∀ W', Ext W W' → K (fr (upd V 16 (wv y))) W' from fun W' he => hK _ _ ⟨upd V 16 (wv y), rfl, HV.up 16 _ (fun x hx => Option.some.inj hx), PgS.ext s0 he⟩)
              have HU := Lib.hid (show (upd V 16 (wv y)) 11 = .bool false ∧ (upd V 16 (wv y)) 15 = .pointer (some ⟨g, 4, none⟩) from ⟨e11, e15⟩)
              clear hK hC hW hL HV s0
              rw [HFR.out]
              rw [e11, e15]
              clear e11 e15
              have k1 := pcs_snd hB.1
              clear hB
              go_wp2_with ((with_reducible refine wpList_load_halfG ?_ (.tmp 105) ?_ g 4 y ?_ k1 ?_); (exact rfl); (exact rfl); (exact rfl))
              show K _ _
              have := H.out _ (Ext.refl _)
              rw [HFR.out] at this
              obtain ⟨u11, u15⟩ := HU.out
              rw [u11, u15] at this
              exact this
            · rintro L A W K hL hC hW ⟨V, rfl, HV, s0⟩ hK
              have e11 : V 11 = .bool false := HV 11 _ rfl (hW 11 rfl)
              have e14 : V 14 = .int .u64 (lb x 0 : Nat) := HV 14 _ rfl (hW 14 rfl)
              have e16 : V 16 = wv y := HV 16 _ rfl (hW 16 rfl)
              have hB := s0
              have H := Lib.hid (show ∀ W', Ext W W' → K (fr (upd V 17 (.int .u64 (lendG (lb x 0) y : Nat)))) W' from fun W' he => hK _ _ ⟨upd V 17 (.int .u64 (lendG (lb x 0) y : Nat)), rfl, HV.up 17 _ (fun x hx => Option.some.inj hx), PgS.ext s0 he⟩)
              have HU := Lib.hid (show (upd V 17 (.int .u64 (lendG (lb x 0) y : Nat))) 11 = .bool false ∧ (upd V 17 (.int .u64 (lendG (lb x 0) y : Nat))) 14 = .int .u64 (lb x 0 : Nat) ∧ (upd V 17 (.int .u64 (lendG (lb x 0) y : Nat))) 16 = wv y from ⟨e11, e14, e16⟩)
              clear hK hC hW hL HV s0
              rw [HFR.out]
              rw [e11, e14, e16]
              clear e11 e14 e16
              clear hB
              go_wp2_with fail
              refine (lendG_any (lb x 0) y _ HLB.out HYM.out).mono ?_
              rintro e wx ⟨rfl, he⟩
              have := H.out _ he
              clear H
              go_wp2_with fail
              show K _ _
              rw [HFR.out] at this
              obtain ⟨u11, u14, u16⟩ := HU.out
              rw [u11, u14, u16] at this
              exact this
            · rintro L A W K hL hC hW ⟨V, rfl, HV, s0⟩ hK
              have e11 : V 11 = .bool false := HV 11 _ rfl (hW 11 rfl)
              have H := Lib.hid (show ∀ W', Ext W W' → K (fr (upd V 18 (.pointer (some ⟨g, 0, none⟩)))) W' from fun W' he => hK _ _ ⟨upd V 18 (.pointer (some ⟨g, 0, none⟩)), rfl, HV.up 18 _ (fun x hx => Option.some.inj hx), PgS.ext s0 he⟩)
              have HU := Lib.hid (show (upd V 18 (.pointer (some ⟨g, 0, none⟩))) 11 = .bool false from e11)
              clear hK hC hW hL HV s0
              rw [HFR.out]
              rw [e11]
              clear e11
              go_wp2_with fail
              show K _ _
              have := H.out _ (Ext.refl _)
              rw [HFR.out] at this
              obtain u11 := HU.out
              rw [u11] at this
              exact this
            · rintro L A W K hL hC hW ⟨V, rfl, HV, s0⟩ hK
              have e11 : V 11 = .bool false := HV 11 _ rfl (hW 11 rfl)
              have e18 : V 18 = .pointer (some ⟨g, 0, none⟩) := HV 18 _ rfl (hW 18 rfl)
              have H := Lib.hid (show ∀ W', Ext W W' → K (fr (upd V 19 (.pointer (some ⟨g, 0, none⟩)))) W' from fun W' he => hK _ _ ⟨upd V 19 (.pointer (some ⟨g, 0, none⟩)), rfl, HV.up 19 _ (fun x hx => Option.some.inj hx), PgS.ext s0 he⟩)
              have HU := Lib.hid (show (upd V 19 (.pointer (some ⟨g, 0, none⟩))) 11 = .bool false ∧ (upd V 19 (.pointer (some ⟨g, 0, none⟩))) 18 = .pointer (some ⟨g, 0, none⟩) from ⟨e11, e18⟩)
              clear hK hC hW hL HV s0
              rw [HFR.out]
              rw [e11, e18]
              clear e11 e18
              go_wp2_with fail
              show K _ _
              have := H.out _ (Ext.refl _)
              rw [HFR.out] at this
              obtain ⟨u11, u18⟩ := HU.out
              rw [u11, u18] at this
              exact this
            · rintro L A W K hL hC hW ⟨V, rfl, HV, s0⟩ hK
              have e11 : V 11 = .bool false := HV 11 _ rfl (hW 11 rfl)
              have e19 : V 19 = .pointer (some ⟨g, 0, none⟩) := HV 19 _ rfl (hW 19 rfl)
              have hB := s0
              have H := Lib.hid (show ∀ W', Ext W W' → K (fr (upd V 20 (.int .u64 (lb x 0 : Nat)))) W' from fun W' he => hK _ _ ⟨upd V 20 (.int .u64 (lb x 0 : Nat)), rfl, HV.up 20 _ (fun x hx => Option.some.inj hx), PgS.ext s0 he⟩)
              have HU := Lib.hid (show (upd V 20 (.int .u64 (lb x 0 : Nat))) 11 = .bool false ∧ (upd V 20 (.int .u64 (lb x 0 : Nat))) 19 = .pointer (some ⟨g, 0, none⟩) from ⟨e11, e19⟩)
              clear hK hC hW hL HV s0
              rw [HFR.out]
              rw [e11, e19]
              clear e11 e19
              have qq : W.cell? ⟨g, 0, none⟩ = some (.int .u64 (lb x 0 : Nat)) := hB.1.cell 0 _ rfl
              clear hB
              go_wp2_with fail
              show K _ _
              have := H.out _ (Ext.refl _)
              rw [HFR.out] at this
              obtain ⟨u11, u19⟩ := HU.out
              rw [u11, u19] at this
              exact this
            · rintro L A W K hL hC hW ⟨V, rfl, HV, s0⟩ hK
              have e11 : V 11 = .bool false := HV 11 _ rfl (hW 11 rfl)
              have H := Lib.hid (show ∀ W', Ext W W' → K (fr (upd V 21 (.pointer (some ⟨g, 4, none⟩)))) W' from fun W' he => hK _ _ ⟨upd V 21 (.pointer (some ⟨g, 4, none⟩)), rfl, HV.up 21 _ (fun x hx => Option.some.inj hx), PgS.ext s0 he⟩)
              have HU := Lib.hid (show (upd V 21 (.pointer (some ⟨g, 4, none⟩))) 11 = .bool false from e11)
              clear hK hC hW hL HV s0
              rw [HFR.out]
              rw [e11]
              clear e11
              go_wp2_with fail
              show K _ _
              have := H.out _ (Ext.refl _)
              rw [HFR.out] at this
              obtain u11 := HU.out
              rw [u11] at this
              exact this
            · rintro L A W K hL hC hW ⟨V, rfl, HV, s0⟩ hK
              have e11 : V 11 = .bool false := HV 11 _ rfl (hW 11 rfl)
              have e21 : V 21 = .pointer (some ⟨g, 4, none⟩) := HV 21 _ rfl (hW 21 rfl)
              have hB := s0
              have H := Lib.hid (show ∀ W', Ext W W' → K (fr (upd V 22 (wv y))) W' from fun W' he => hK _ _ ⟨upd V 22 (wv y), rfl, HV.up 22 _ (fun x hx => Option.some.inj hx), PgS.ext s0 he⟩)
              have HU := Lib.hid (show (upd V 22 (wv y)) 11 = .bool false ∧ (upd V 22 (wv y)) 21 = .pointer (some ⟨g, 4, none⟩) from ⟨e11, e21⟩)
              clear hK hC hW hL HV s0
              rw [HFR.out]
              rw [e11, e21]
              clear e11 e21
              have k1 := pcs_snd hB.1
              clear hB
              go_wp2_with ((with_reducible refine wpList_load_halfG ?_ (.tmp 111) ?_ g 4 y ?_ k1 ?_); (exact rfl); (exact rfl); (exact rfl))
              show K _ _
              have := H.out _ (Ext.refl _)
              rw [HFR.out] at this
              obtain ⟨u11, u21⟩ := HU.out
              rw [u11, u21] at this
              exact this
            · rintro L A W K hL hC hW ⟨V, rfl, HV, s0⟩ hK
              have e11 : V 11 = .bool false := HV 11 _ rfl (hW 11 rfl)
              have e20 : V 20 = .int .u64 (lb x 0 : Nat) := HV 20 _ rfl (hW 20 rfl)
              have e22 : V 22 = wv y := HV 22 _ rfl (hW 22 rfl)
              have hB := s0
              have H := Lib.hid (show ∀ W', Ext W W' → K (fr (upd V 23 (.int .u64 (lendG (lb x 0) y : Nat)))) W' from fun W' he => hK _ _ ⟨upd V 23 (.int .u64 (lendG (lb x 0) y : Nat)), rfl, HV.up 23 _ (fun x hx => Option.some.inj hx), PgS.ext s0 he⟩)
              have HU := Lib.hid (show (upd V 23 (.int .u64 (lendG (lb x 0) y : Nat))) 11 = .bool false ∧ (upd V 23 (.int .u64 (lendG (lb x 0) y : Nat))) 20 = .int .u64 (lb x 0 : Nat) ∧ (upd V 23 (.int .u64 (lendG (lb x 0) y : Nat))) 22 = wv y from ⟨e11, e20, e22⟩)
              clear hK hC hW hL HV s0
              rw [HFR.out]
              rw [e11, e20, e22]
              clear e11 e20 e22
              clear hB
              go_wp2_with fail
              refine (refLendG_any (lb x 0) y _ HLB.out HYM.out).mono ?_
              rintro e wx ⟨rfl, he⟩
              have := H.out _ he
              clear H
              go_wp2_with fail
              show K _ _
              rw [HFR.out] at this
              obtain ⟨u11, u20, u22⟩ := HU.out
              rw [u11, u20, u22] at this
              exact this
            · rintro L A W K hL hC hW ⟨V, rfl, HV, s0⟩ hK
              have e11 : V 11 = .bool false := HV 11 _ rfl (hW 11 rfl)
              have e17 : V 17 = .int .u64 (lendG (lb x 0) y : Nat) := HV 17 _ rfl (hW 17 rfl)
              have e23 : V 23 = .int .u64 (lendG (lb x 0) y : Nat) := HV 23 _ rfl (hW 23 rfl)
              have H := Lib.hid (show ∀ W', Ext W W' → K (fr (upd V 24 (.bool false))) W' from fun W' he => hK _ _ ⟨upd V 24 (.bool false), rfl, HV.up 24 _ (fun x hx => Option.some.inj hx), PgS.ext s0 he⟩)
              have HU := Lib.hid (show (upd V 24 (.bool false)) 11 = .bool false ∧ (upd V 24 (.bool false)) 17 = .int .u64 (lendG (lb x 0) y : Nat) ∧ (upd V 24 (.bool false)) 23 = .int .u64 (lendG (lb x 0) y : Nat) from ⟨e11, e17, e23⟩)
              clear hK hC hW hL HV s0
              rw [HFR.out]
              rw [e11, e17, e23]
              clear e11 e17 e23
              go_wp2_with fail
              show K _ _
              have := H.out _ (Ext.refl _)
              rw [HFR.out] at this
              obtain ⟨u11, u17, u23⟩ := HU.out
              rw [u11, u17, u23] at this
              exact this
            · rintro L A W K hL hC hW ⟨V, rfl, HV, s0⟩ hK
              have e11 : V 11 = .bool false := HV 11 _ rfl (hW 11 rfl)
              have e24 : V 24 = .bool false := HV 24 _ rfl (hW 24 rfl)
              have H := Lib.hid (show ∀ W', Ext W W' → K (fr (upd V 25 (.bool false))) W' from fun W' he => hK _ _ ⟨upd V 25 (.bool false), rfl, HV.up 25 _ (fun x hx => Option.some.inj hx), PgS.ext s0 he⟩)
              have HU := Lib.hid (show (upd V 25 (.bool false)) 11 = .bool false ∧ (upd V 25 (.bool false)) 24 = .bool false from ⟨e11, e24⟩)
              clear hK hC hW hL HV s0
              rw [HFR.out]
              rw [e11, e24]
              clear e11 e24
              go_wp2_with fail
              show K _ _
              have := H.out _ (Ext.refl _)
              rw [HFR.out] at this
              obtain ⟨u11, u24⟩ := HU.out
              rw [u11, u24] at this
              exact this
            · rintro L A W hL ⟨V, rfl, HV, s0⟩
              have e0 : V 0 = .pointer (some ⟨g, 0, none⟩) := HV 0 _ rfl (hL 0 (by simp))
              have e1 : V 1 = wv x := HV 1 _ rfl (hL 1 (by simp))
              have e2 : V 2 = .pointer (some ⟨g, 4, none⟩) := HV 2 _ rfl (hL 2 (by simp))
              have e3 : V 3 = wv y := HV 3 _ rfl (hL 3 (by simp))
              have e4 : V 4 = .int .u64 (endG x y : Nat) := HV 4 _ rfl (hL 4 (by simp))
              have e5 : V 5 = .pointer (some ⟨g, 0, none⟩) := HV 5 _ rfl (hL 5 (by simp))
              have e6 : V 6 = wv x := HV 6 _ rfl (hL 6 (by simp))
              have e7 : V 7 = .pointer (some ⟨g, 4, none⟩) := HV 7 _ rfl (hL 7 (by simp))
              have e8 : V 8 = wv y := HV 8 _ rfl (hL 8 (by simp))
              have e9 : V 9 = .int .u64 (endG x y : Nat) := HV 9 _ rfl (hL 9 (by simp))
              have e10 : V 10 = .bool false := HV 10 _ rfl (hL 10 (by simp))
              have e11 : V 11 = .bool false := HV 11 _ rfl (hL 11 (by simp))
              have e12 : V 12 = .pointer (some ⟨g, 0, none⟩) := HV 12 _ rfl (hL 12 (by simp))
              have e13 : V 13 = .pointer (some ⟨g, 0, none⟩) := HV 13 _ rfl (hL 13 (by simp))
              have e14 : V 14 = .int .u64 (lb x 0 : Nat) := HV 14 _ rfl (hL 14 (by simp))
              have e15 : V 15 = .pointer (some ⟨g, 4, none⟩) := HV 15 _ rfl (hL 15 (by simp))
              have e16 : V 16 = wv y := HV 16 _ rfl (hL 16 (by simp))
              have e17 : V 17 = .int .u64 (lendG (lb x 0) y : Nat) := HV 17 _ rfl (hL 17 (by simp))
              have e18 : V 18 = .pointer (some ⟨g, 0, none⟩) := HV 18 _ rfl (hL 18 (by simp))
              have e19 : V 19 = .pointer (some ⟨g, 0, none⟩) := HV 19 _ rfl (hL 19 (by simp))
              have e20 : V 20 = .int .u64 (lb x 0 : Nat) := HV 20 _ rfl (hL 20 (by simp))
              have e21 : V 21 = .pointer (some ⟨g, 4, none⟩) := HV 21 _ rfl (hL 21 (by simp))
              have e22 : V 22 = wv y := HV 22 _ rfl (hL 22 (by simp))
              have e23 : V 23 = .int .u64 (lendG (lb x 0) y : Nat) := HV 23 _ rfl (hL 23 (by simp))
              have e24 : V 24 = .bool false := HV 24 _ rfl (hL 24 (by simp))
              have e25 : V 25 = .bool false := HV 25 _ rfl (hL 25 (by simp))
              have hA := s0
              rw [HFR.out]
              rw [e0, e1, e2, e3, e4, e5, e6, e7, e8, e9, e10, e11, e12, e13, e14, e15, e16, e17, e18, e19, e20, e21, e22, e23, e24, e25]
              clear hL HV HFR e0 e1 e2 e3 e4 e5 e6 e7 e8 e9 e10 e11 e12 e13 e14 e15 e16 e17 e18 e19 e20 e21 e22 e23 e24 e25 s0
              go_wp2
              exact ⟨⟨k + 1, by omega, by omega, rfl, Lib.hid hA.2⟩, by simp [intOf]; omega⟩
        · go_wp2
          go_ret
          exact ⟨rfl, HX.out⟩
set_option maxRecDepth 100000 in
theorem bytes_told (W : World) (args : Array Value) (h : Told Tryd.f4 W args) (ht : Tb W) : Calls Tryd.prog 4 args W (RetT W) := by
  obtain ⟨H, enc, base, ds, p, hval, hA⟩ := h
  rw [Tryd.params4] at hA hval
  obtain ⟨v0, v1, d0, d1, p0, p1, ha, rfl, rfl, h0, h1⟩ := trodAll_two hA
  obtain rfl : args = #[v0, v1] := by apply Array.toList_inj.1; rw [ha]
  obtain ⟨l, hl⟩ := gs_came (hval 0 _ _ rfl rfl) h0
  obtain ⟨ll, hll⟩ := ps_came (hval 1 _ _ rfl rfl) h1
  exact bytes_G v0 v1 l ll W ht hl hll
set_option maxRecDepth 100000 in
theorem bytes_spec (H : Type) : ∀ ds : List (DataW H), ds.length = Tryd.f4.params.toList.length → Rows.gasBytesSpec.fn H ds = { results := [.lit (.bool true)], args := ds }
  | [_, _], _ => rfl
  | [], h | [_], h | _ :: _ :: _ :: _, h => by rw [Tryd.params4] at h; simp at h

set_option maxRecDepth 100000 in
theorem gasBytes_holds : Rows.GasBytesSaid :=
  OpenClaim.holds_of_wide 4 Tryd.f4 rfl rfl rfl rfl rfl rfl rfl ⟨rfl, rfl, rfl, rfl, rfl⟩ rfl rfl rfl rfl rfl (by kernel_rfl) Tryd.func4 (by kernel_rfl)
    (of_decide_eq_true (by kernel_rfl)) (by unfold Func.isWrapper; first | (rw [if_pos (by decide +kernel)]; kernel_rfl) | (rw [if_neg (by decide +kernel)]; exact ⟨rfl, rfl⟩))
    (fun os started H enc _ => law_lifted_t started (by kernel_rfl) Tryd.func4 rfl rfl (bytes_spec H) (of_decide_eq_true (by kernel_rfl))
      (ChangeSpec.witness_shaped (enc := enc) (C := Tryd.checked) (os := os) (X := fun w _ => laidMetH Tryd.prog laidS w) false (World.doorLaid Tryd.prog 400 os) #[.slice none 0 0, .slice none 0 0] 8 rfl (World.shaped_of_RefB (by kernel_rfl) (by kernel_rfl)) (by kernel_rfl) (by kernel_rfl) (by kernel_rfl) (door_met os _)) bytes_told)

set_option maxRecDepth 100000 in
theorem gasBytes_card : Rows.GasBytesCardSaid :=
  Claim7.holds_tied_plain_at .later [] [.data, .data, .data, .wider, .data] true (true, "1db432f97302d9ccf523489c3c5a307203f9cae2718eace3ef5e825b493cdc87") false
    gasBytes_holds (fun _ h => by cases h) (by kernel_rfl) (fun _ h => by cases h) gasBytes_row_tie rfl ⟨rfl, rfl⟩ (by kernel_rfl) rfl
    (fun f fn hf hfn => by
      obtain rfl : f = 4 := Option.some.inj ((show Tryd.prog.funcNamed "sheafer/sheaferlaw12.GasBytes" = some 4 by kernel_rfl).symm.trans hf) |>.symm
      obtain rfl : fn = Tryd.f4 := (Option.some.inj (Tryd.func4.symm.trans hfn)).symm
      exact ⟨by kernel_rfl, fun j t ht => by
        rw [Tryd.params4] at ht
        have hm : t ∈ [31, 32] := by simpa using Array.mem_of_getElem? ht
        have hall : ([31, 32].all fun u => !Tryd.prog.wantsStandIn u) = true := by kernel_rfl
        exact (show Tryd.prog.wantsStandIn t = false by simpa using List.all_eq_true.1 hall t hm)⟩)
    (by kernel_rfl)
end Go.Proofs.YtjefbfabigkeiaaDoor
