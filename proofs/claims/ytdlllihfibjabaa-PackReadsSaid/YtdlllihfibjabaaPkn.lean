/- Package pack: the document's same. Package pack: the document's Error. -/
import Derived.Test.YtdlllihfibjabaaPkl
namespace Go.Proofs.Ytdlllihfibjabaa
open Go.RowKit Go.Shelf

set_option maxRecDepth 100000 in
theorem ne_at (a b : List UInt8) (k : Nat) (hn : a.getD k 0 ≠ b.getD k 0) : (a == b) = false := by
  simp
  rintro rfl
  exact hn rfl
set_option maxRecDepth 100000 in
set_option maxHeartbeats 1000000 in
theorem refSame4_any (v1 v2 : Value) (a b : List UInt8) (w : World) (h1 : Bs w v1 a) (h2 : Bs w v2 b) : Calls Try.prog 64 #[v1, v2] w fun e w' => e = .returned (.bool (a == b)) ∧ Ext w w' := by
  obtain ⟨A, c, rfl, p1, p2, p3⟩ := h1
  obtain ⟨A', c', rfl, q1, q2, q3⟩ := h2
  unfold maxLen at p2 q2
  have HP := Lib.hid p3
  have HQ := Lib.hid q3
  clear p3 q3
  by_cases hl : a.length = b.length
  · have hd : ((a.length : Int) == (b.length : Int)) = true := by simp [hl]
    go_enter Try.func64, Try.ntmps64
    go_wp2_with fail
    go_loopw [13] (fun u wr => ∃ k : Nat, k ≤ a.length ∧ u = .int .i64 k ∧ Hid (∀ i, i < k → a.getD i 0 = b.getD i 0) ∧ Hid (Ext w wr)) (fun u _ => a.length - (intOf u).toNat)
    case atStart => exact ⟨0, by omega, rfl, Lib.hid fun i hi => absurd hi (by omega), Lib.hid (Ext.refl w)⟩
    case round =>
      obtain ⟨k, hk, rfl, HS, HE⟩ := hrel
      by_cases hlt : k < a.length
      · have hdk : decide (k < a.length) = true := decide_eq_true hlt
        obtain ⟨b1, o1, rfl, hc1⟩ := HP.out (by omega)
        obtain ⟨b2, o2, rfl, hc2⟩ := HQ.out (by omega)
        have hx := HE.out.cell (hc1 k hlt)
        have hy := HE.out.cell (hc2 k (by omega))
        unfold bv at hx hy
        clear hc1 hc2
        have HE2 := Lib.hid (HE.out.trans (Ext.refl wr).drew)
        have hmx : Try.prog.follows .mixedOrders = true := by kernel_rfl
        have hkb : k < b.length := by omega
        by_cases h0 : a.getD k 0 = b.getD k 0
        · have HN : Hid (∀ i, i < k + 1 → a.getD i 0 = b.getD i 0) := Lib.hid fun i hi => by
            by_cases h : i = k
            · rw [h]; exact h0
            · exact HS.out i (by omega)
          rw [h0] at hx
          clear h0
          generalize (b.getD k 0).toNat = y at *
          go_wp2_with fail
          go_region
          go_wp2_with fail
          exact ⟨⟨k + 1, by omega, by go_num, HN, HE2⟩, by simp [intOf]; omega⟩
        · have HF := Lib.hid (ne_at a b k h0)
          have hz : (((a.getD k 0).toNat : Int) == ((b.getD k 0).toNat : Int)) = false := by
            refine beq_eq_false_iff_ne.2 fun e => h0 (UInt8.toNat_inj.1 (by omega))
          clear h0
          generalize (a.getD k 0).toNat = x at *
          generalize (b.getD k 0).toNat = y at *
          go_wp2_with fail
          go_region
          go_wp2_with fail
          go_ret
          exact ⟨by rw [HF.out]; rfl, HE2.out⟩
      · obtain rfl : k = a.length := by omega
        have HF := Lib.hid (show (a == b) = true from by
          simp
          exact ext_getD hl HS.out)
        go_wp2_with fail
        go_ret
        exact ⟨by rw [HF.out]; rfl, HE.out⟩
  · have hd : ((a.length : Int) == (b.length : Int)) = false := by simp; omega
    have HF := Lib.hid (show (a == b) = false from by
      simp
      rintro rfl
      exact hl rfl)
    go_enter Try.func64, Try.ntmps64
    go_wp2_with fail
    go_ret
    exact ⟨by rw [HF.out]; rfl, Ext.refl _⟩
end Go.Proofs.Ytdlllihfibjabaa
namespace Go.Proofs.Ytdlllihfibjabaa
open Go.RowKit Go.Shelf

set_option maxRecDepth 100000 in
set_option maxHeartbeats 1000000 in
theorem refErr4_any (v : Value) (l : List Pt) (w : World) (hv : Pts w v l) : Calls Try.prog 17 #[v] w fun e w' => e = .returned (.int .i64 (errP l)) ∧ Ext w w' := by
  have HV := Lib.hid hv
  obtain ⟨A, c, rfl, h1, h2⟩ := hv.len
  unfold maxLen at h2
  clear hv
  by_cases h16 : 16 < l.length
  · have hd : decide ((16 : Int) < (l.length : Int)) = true := decide_eq_true (by omega)
    have HR := Lib.hid (show errP l = 3 by unfold errP; rw [if_pos h16])
    go_enter Try.func17, Try.ntmps17
    go_wp2_with fail
    go_ret
    exact ⟨by rw [HR.out]; rfl, Ext.refl _⟩
  · have hd : decide ((16 : Int) < (l.length : Int)) = false := decide_eq_false (by omega)
    have HST := Lib.hid (fun k (hk : k < l.length) (h : mayB (l.getD k (false, 0, [])) = false) => errP_stop l k h16 hk h)
    have HDN := Lib.hid (fun (h : ∀ k, k < l.length → mayB (l.getD k (false, 0, [])) = true) => errP_done l h16 h)
    go_enter Try.func17, Try.ntmps17
    go_wp2_with fail
    go_loopw [10] (fun u wr => ∃ k : Nat, k ≤ l.length ∧ u = .int .i64 k ∧ Hid (∀ j, j < k → mayB (l.getD j (false, 0, [])) = true) ∧ Hid (Ext w wr)) (fun u _ => l.length - (intOf u).toNat)
    case atStart => exact ⟨0, by omega, rfl, Lib.hid (fun j hj => absurd hj (by omega)), Lib.hid (Ext.refl w)⟩
    case round =>
      obtain ⟨k, hk, rfl, HP, HE⟩ := hrel
      by_cases hlt : k < l.length
      · have hdk : decide (k < l.length) = true := decide_eq_true hlt
        obtain ⟨b, o, u0, rfl, hr, hu, hw⟩ := (HV.out.ext HE.out).at k hlt
        have HSK := Lib.hid (HST.out k hlt)
        have HNX := Lib.hid (fun (h : mayB (l.getD k (false, 0, [])) = true) j (hj : j < k + 1) => (show mayB (l.getD j (false, 0, [])) = true from by
          by_cases e : j = k
          · rw [e]; exact h
          · exact HP.out j (by omega)))
        have HR := Lib.hid hr
        have HU := Lib.hid hu
        have HW := Lib.hid hw
        clear hr hu hw
        generalize l.getD k (false, 0, []) = p at *
        obtain ⟨A2, c2, rfl, z1, z2, _⟩ := id HU.out
        unfold maxLen at z2
        obtain ⟨lg, nn, d⟩ := p
        dsimp only at *
        have b1 : (0 : Int) ≤ (d.length : Int) := by omega
        cases lg with
        | true =>
          by_cases h0 : nn = 0
          · subst h0
            by_cases h200 : d.length ≤ 200
            · have hd : decide ((200 : Int) < (d.length : Int)) = false := decide_eq_false (by omega)
              have HM := Lib.hid (HNX.out (by unfold mayB; simp [h200]))
              clear h200
              clear HSK
              go_wp2_with (first
            | ((with_reducible refine wpList_load_part ?_ (.tmp 12) ?_ b (o + k * 6) (true, 0, d) (.slice A2 d.length c2) ?_ ?_ ?_); (exact rfl); (exact rfl); (exact rfl); (exact HR.out))
            | ((with_reducible refine wpList_store_part ?_ ?_ (.tmp 4) (.tmp 13) ?_ wr.heap.size pz (true, 0, d) (.slice A2 d.length c2) ?_ ?_ ?_ ?_ ?_ ?_); (exact rfl); (exact rfl); (exact rfl); (exact bs_one HU.out); (exact rfl); (exact rfl); (exact Cs.new _ _ _ _ rfl); (exact rfl); intro w4 k4 g4; have K4 := Lib.hid k4; have HE4 := Lib.hid (HE.out.trans (((Ext.refl wr).alloc _).grown g4 (Nat.le_refl _))); have c0 := k4.long; have c5 := k4.data; dsimp only at c0 c5; clear k4 g4)
            | ((with_reducible refine wpList_load_wordIn ?_ (.tmp 17) ?_ wr.heap.size 1 0 ?_ ?_ ?_); (exact rfl); (exact rfl); (exact rfl); (exact K4.out.word))
            | ((with_reducible refine wpList_neq_word ?_ (.tmp 18) (.tmp 19) ?_ 0 0 ?_ ?_ ?_ ?_ ?_); (exact rfl); (exact rfl); (exact HW.out); (exact (by decide)); (exact rfl); (exact rfl); rw [show ((0 : Nat) != 0) = false from rfl]))
              exact ⟨⟨k + 1, by omega, by go_num, HM, HE4⟩, by simp [intOf]; omega⟩
            · have hd : decide ((200 : Int) < (d.length : Int)) = true := decide_eq_true (by omega)
              have HM := Lib.hid (HSK.out (by unfold mayB; simp; omega))
              clear h200
              clear HNX
              go_wp2_with (first
            | ((with_reducible refine wpList_load_part ?_ (.tmp 12) ?_ b (o + k * 6) (true, 0, d) (.slice A2 d.length c2) ?_ ?_ ?_); (exact rfl); (exact rfl); (exact rfl); (exact HR.out))
            | ((with_reducible refine wpList_store_part ?_ ?_ (.tmp 4) (.tmp 13) ?_ wr.heap.size pz (true, 0, d) (.slice A2 d.length c2) ?_ ?_ ?_ ?_ ?_ ?_); (exact rfl); (exact rfl); (exact rfl); (exact bs_one HU.out); (exact rfl); (exact rfl); (exact Cs.new _ _ _ _ rfl); (exact rfl); intro w4 k4 g4; have K4 := Lib.hid k4; have HE4 := Lib.hid (HE.out.trans (((Ext.refl wr).alloc _).grown g4 (Nat.le_refl _))); have c0 := k4.long; have c5 := k4.data; dsimp only at c0 c5; clear k4 g4)
            | ((with_reducible refine wpList_load_wordIn ?_ (.tmp 17) ?_ wr.heap.size 1 0 ?_ ?_ ?_); (exact rfl); (exact rfl); (exact rfl); (exact K4.out.word))
            | ((with_reducible refine wpList_neq_word ?_ (.tmp 18) (.tmp 19) ?_ 0 0 ?_ ?_ ?_ ?_ ?_); (exact rfl); (exact rfl); (exact HW.out); (exact (by decide)); (exact rfl); (exact rfl); rw [show ((0 : Nat) != 0) = false from rfl]))
              go_ret
              exact ⟨by rw [HM.out]; rfl, HE4.out⟩
          · have HM := Lib.hid (HSK.out (by unfold mayB; simp [h0]))
            have HN0 := Lib.hid (show (nn != 0) = true by simp [h0])
            clear h0
            clear HNX
            go_wp2_with (first
            | ((with_reducible refine wpList_load_part ?_ (.tmp 12) ?_ b (o + k * 6) (true, nn, d) (.slice A2 d.length c2) ?_ ?_ ?_); (exact rfl); (exact rfl); (exact rfl); (exact HR.out))
            | ((with_reducible refine wpList_store_part ?_ ?_ (.tmp 4) (.tmp 13) ?_ wr.heap.size pz (true, nn, d) (.slice A2 d.length c2) ?_ ?_ ?_ ?_ ?_ ?_); (exact rfl); (exact rfl); (exact rfl); (exact bs_one HU.out); (exact rfl); (exact rfl); (exact Cs.new _ _ _ _ rfl); (exact rfl); intro w4 k4 g4; have K4 := Lib.hid k4; have HE4 := Lib.hid (HE.out.trans (((Ext.refl wr).alloc _).grown g4 (Nat.le_refl _))); have c0 := k4.long; have c5 := k4.data; dsimp only at c0 c5; clear k4 g4)
            | ((with_reducible refine wpList_load_wordIn ?_ (.tmp 17) ?_ wr.heap.size 1 nn ?_ ?_ ?_); (exact rfl); (exact rfl); (exact rfl); (exact K4.out.word))
            | ((with_reducible refine wpList_neq_word ?_ (.tmp 18) (.tmp 19) ?_ nn 0 ?_ ?_ ?_ ?_ ?_); (exact rfl); (exact rfl); (exact HW.out); (exact (by decide)); (exact rfl); (exact rfl); rw [HN0.out]))
            go_ret
            exact ⟨by rw [HM.out]; rfl, HE4.out⟩
        | false =>
          by_cases h0 : d.length = 0
          · have hq : decide ((0 : Int) < (d.length : Int)) = false := decide_eq_false (by omega)
            have hq2 : decide (0 < d.length) = false := decide_eq_false (by omega)
            have HM := Lib.hid (HNX.out (by unfold mayB; simp [h0]))
            clear h0
            clear HSK
            go_wp2_with (first
            | ((with_reducible refine wpList_load_part ?_ (.tmp 12) ?_ b (o + k * 6) (false, nn, d) (.slice A2 d.length c2) ?_ ?_ ?_); (exact rfl); (exact rfl); (exact rfl); (exact HR.out))
            | ((with_reducible refine wpList_store_part ?_ ?_ (.tmp 4) (.tmp 13) ?_ wr.heap.size pz (false, nn, d) (.slice A2 d.length c2) ?_ ?_ ?_ ?_ ?_ ?_); (exact rfl); (exact rfl); (exact rfl); (exact bs_one HU.out); (exact rfl); (exact rfl); (exact Cs.new _ _ _ _ rfl); (exact rfl); intro w4 k4 g4; have K4 := Lib.hid k4; have HE4 := Lib.hid (HE.out.trans (((Ext.refl wr).alloc _).grown g4 (Nat.le_refl _))); have c0 := k4.long; have c5 := k4.data; dsimp only at c0 c5; clear k4 g4))
            exact ⟨⟨k + 1, by omega, by go_num, HM, HE4⟩, by simp [intOf]; omega⟩
          · have hq : decide ((0 : Int) < (d.length : Int)) = true := decide_eq_true (by omega)
            have hq2 : decide (0 < d.length) = true := decide_eq_true (by omega)
            have HM := Lib.hid (HSK.out (by unfold mayB; simp [h0]))
            clear h0
            clear HNX
            go_wp2_with (first
            | ((with_reducible refine wpList_load_part ?_ (.tmp 12) ?_ b (o + k * 6) (false, nn, d) (.slice A2 d.length c2) ?_ ?_ ?_); (exact rfl); (exact rfl); (exact rfl); (exact HR.out))
            | ((with_reducible refine wpList_store_part ?_ ?_ (.tmp 4) (.tmp 13) ?_ wr.heap.size pz (false, nn, d) (.slice A2 d.length c2) ?_ ?_ ?_ ?_ ?_ ?_); (exact rfl); (exact rfl); (exact rfl); (exact bs_one HU.out); (exact rfl); (exact rfl); (exact Cs.new _ _ _ _ rfl); (exact rfl); intro w4 k4 g4; have K4 := Lib.hid k4; have HE4 := Lib.hid (HE.out.trans (((Ext.refl wr).alloc _).grown g4 (Nat.le_refl _))); have c0 := k4.long; have c5 := k4.data; dsimp only at c0 c5; clear k4 g4))
            go_ret
            exact ⟨by rw [HM.out]; rfl, HE4.out⟩
      · have HM := Lib.hid (HDN.out fun j hj => HP.out j (by omega))
        obtain rfl : k = l.length := by omega
        go_wp2_with fail
        go_ret
        exact ⟨by rw [HM.out]; rfl, HE.out⟩
end Go.Proofs.Ytdlllihfibjabaa
