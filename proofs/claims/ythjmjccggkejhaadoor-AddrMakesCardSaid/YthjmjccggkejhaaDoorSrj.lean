/- The document's Sum. -/
import Derived.Test.YthjmjccggkejhaaDoorSri
namespace Go.Proofs.YthjmjccggkejhaaDoor
open Go.RowKit Go.Shelf

/-- A digest that is filled, and lanes. -/
def DgB (w : World) (g8 : Nat) (F : Nat → Nat) (m : Nat) (W : World) : Prop := Ib W w.heap.size (fun _ => 0) ∧ Ln W (w.heap.size + 1) F ∧ Ib W g8 (dgP F m) ∧ Ext w W
set_option maxRecDepth 100000 in
theorem DgB.put {w : World} {g8 : Nat} {F : Nat → Nat} {m : Nat} {W : World} (h : DgB w g8 F m W) (h8 : w.heap.size + 1 < g8) (p v : Nat) (hp : p = m) (hv : v = dgB F m) : DgB w g8 F (m + 1) (W.setCell ⟨g8, p, none⟩ (.int .u8 (v : Nat))) := by
  subst hp
  subst hv
  refine ⟨Cs.kept h.1 (grown_set _ _ _ _) (some_ne (by omega)), h.2.1.kept (grown_set _ _ _ _) (some_ne (by omega)), ?_, h.2.2.2.grown (grown_set _ _ _ _) (by omega)⟩
  have := h.2.2.1.set p (dgB F p)
  rwa [dgP_step] at this
set_option maxRecDepth 100000 in
theorem dgP_all (F : Nat → Nat) : ic (dgP F 32) = ic (dgB F) := ic_congr fun i hi => by unfold dgP; rw [if_pos hi]
set_option maxRecDepth 100000 in
theorem dg_div (F : Nat → Nat) (i k : Nat) (hk : k < 8) : F i / 2 ^ (8 * k) % 256 = dgB F (8 * i + k) := by
  unfold dgB
  rw [show (8 * i + k) / 8 = i by omega, show (8 * i + k) % 8 = k by omega]
set_option maxRecDepth 100000 in
theorem dg_next (a k : Nat) : a / 2 ^ (8 * k) / 256 = a / 2 ^ (8 * (k + 1)) := by
  rw [Nat.div_div_eq_div_mul, show 8 * (k + 1) = 8 * k + 8 by omega, Nat.pow_add]

set_option maxRecDepth 100000 in
set_option maxHeartbeats 1000000 in
theorem refSum3_any (v : Value) (b : List UInt8) (w : World) (hb : Bs w v b) (hl : b.length ≤ 1000000000) :
    Calls Tryd.prog 15 #[v] w fun e w' => e = .returned (idv (sumF b)) ∧ Ext w w' := by
  have HB := Lib.hid hb
  clear hb
  have HZ : Hid (Ib ((w.alloc (.cells (ic fun _ => 0) 27)).alloc (.cells (lc fun _ => 0) 35)) w.heap.size (fun _ => 0)) := (Cs.new _ _ _ _ rfl).alloc _
  have HL : Hid (Ln ((w.alloc (.cells (ic fun _ => 0) 27)).alloc (.cells (lc fun _ => 0) 35)) (w.heap.size + 1) (sk (padL b) 0)) := Cs.new _ _ _ _ (by simp)
  have HE : Hid (Ext w ((w.alloc (.cells (ic fun _ => 0) 27)).alloc (.cells (lc fun _ => 0) 35))) := ((Ext.refl w).alloc _).alloc _
  have HS : Hid ((((w.alloc (.cells (ic fun _ => 0) 27)).alloc (.cells (lc fun _ => 0) 35))).heap.size = w.heap.size + 2) := by simp [Hid]
  rw [lc_zero, ic_zero] at *
  go_enter Tryd.func15, Tryd.ntmps15
  go_wp2_with fail
  refine (refPad_any v b _ (HB.out.ext HE.out) hl).mono ?_
  rintro e w1 ⟨pv, rfl, hown, he⟩
  rw [HS.out] at hown
  have hPl : 0 < (padL b).length := by rw [padL_len]; unfold padN; omega
  obtain ⟨gg, cap, rfl, hgb, _, _, _⟩ := hown.form hPl
  have hcap : (padL b).length ≤ cap := by obtain ⟨_, _, e1, h1, _⟩ := hown.bs; injection e1 with e2 e3 e4; omega
  have hcm : cap ≤ maxLen := by obtain ⟨_, _, e1, _, h1, _⟩ := hown.bs; injection e1 with e2 e3 e4; omega
  unfold maxLen at hcm
  have hPN : (padL b).length = (padN b / 136) * 136 := by rw [padL_len]; unfold padN; omega
  have HPN := Lib.hid hPN
  clear hPN
  have hPm : (padL b).length ≤ 1000000136 := by rw [padL_len]; unfold padN; omega
  have HQ : Hid (sumF b = dgB (sk (padL b) (padN b / 136))) := rfl
  have HB0 : Hid (SumB w (sk (padL b) 0) (.slice (some ⟨gg, 0, none⟩) (padL b).length cap) (padL b) w1) := ⟨Cs.ext HZ.out he, HL.out.ext he, hown, HE.out.trans he⟩
  generalize padL b = P at *
  generalize padN b / 136 = N at *
  clear hown he HZ HL HE HS
  go_wp2_with fail
  go_loopw [4, 5, 6, 7, 14, 15, 16, 17, 18, 19, 20, 21, 22, 23, 24, 25, 26, 27, 28, 29, 30, 31, 32, 33, 34, 35, 36, 37, 38, 39, 40, 41, 42, 43, 44, 45] (fun vp _ _ _ _ _ _ _ _ _ _ _ _ _ _ _ _ _ _ _ _ _ _ _ _ _ _ _ _ _ _ _ _ _ _ _ wr => ∃ (i q c' : Nat), i ≤ N ∧ vp = .slice (some ⟨gg, q, none⟩) (P.length - 136 * i) c' ∧ (i < N → q = 136 * i ∧ c' = cap - 136 * i) ∧ Hid (SumB w (sk P i) (.slice (some ⟨gg, 0, none⟩) P.length cap) P wr)) (fun vp _ _ _ _ _ _ _ _ _ _ _ _ _ _ _ _ _ _ _ _ _ _ _ _ _ _ _ _ _ _ _ _ _ _ _ _ => slLen vp)
  case atStart => exact ⟨0, 0, cap, by omega, by rw [Nat.mul_zero, Nat.sub_zero], fun _ => ⟨rfl, by omega⟩, HB0⟩
  case round =>
    clear HB0
    obtain ⟨i, q, c', hi, rfl, hqc, HB0⟩ := hrel
    by_cases hlt : i < N
    · obtain ⟨rfl, rfl⟩ := hqc hlt
      have HFl := Lib.hid (sk_lt P i)
      have hfm2 : 136 * i + 136 ≤ P.length := by rw [HPN.out]; omega
      have HNX := Lib.hid (sk_next P i hfm2)
      have hfr : 136 * (i + 1) = 136 * i + 136 := by omega
      have HFR := Lib.hid (show P.length - 136 * (i + 1) = P.length - 136 * i - 136 by omega)
      have HFC := Lib.hid (show i + 1 < N → 136 * (i + 1) = 136 * i + 136 ∧ cap - 136 * (i + 1) = cap - 136 * i - 136 ∧ ¬ cap - 136 * i = 136 from fun h => by
        have : P.length = N * 136 := HPN.out
        omega)
      have hcf : 136 * i < cap := by omega
      have hdl : (P.drop (136 * i)).length = P.length - 136 * i := List.length_drop
      have HDC := Lib.hid (show ∀ W F, SumB w F (.slice (some ⟨gg, 0, none⟩) P.length cap) P W → ∀ n, n < P.length - 136 * i → W.cell? ⟨gg, 136 * i + n, none⟩ = some (bv ((P.drop (136 * i)).getD n 0)) from fun W F h n hn => by
        obtain ⟨gg', cap', e, _, hc, _, _⟩ := h.2.2.1.form (by omega)
        injection e with e1 e2 e3
        injection e1 with e1
        injection e1 with e1
        subst e1
        rw [hc (136 * i + n) (by omega), getD_drop])
      have hpos : decide ((0 : Int) < ((P.length - 136 * i : Nat) : Int)) = true := decide_eq_true (by omega)
      have hpos2 : decide (0 < P.length - 136 * i) = true := decide_eq_true (by omega)
      have h136 : 136 ≤ P.length - 136 * i := by omega
      have hnm : P.length - 136 * i ≤ 1000000136 := by omega
      have hnc : P.length - 136 * i ≤ cap - 136 * i := by omega
      have hcc : cap - 136 * i ≤ 2 ^ 63 - 1 := by omega
      clear hfm2 hfr hcf hdl hqc
      generalize P.drop (136 * i) = Q at *
      generalize hF : sk P i = F at *
      clear hF
      generalize P.length - 136 * i = n at *
      generalize cap - 136 * i = c' at *
      generalize 136 * i = fm at *
      go_wp2_with fail
      go_loopw [5, 6, 7, 17, 18, 19, 20, 21, 22, 23, 24, 25, 26, 27, 28, 29, 30, 31, 32, 33, 34, 35, 36, 37, 38, 39, 40, 41] (fun _ _ _ u _ _ _ _ _ _ _ _ _ _ _ _ _ _ _ _ _ _ _ _ _ _ _ _ wr => ∃ j : Nat, j ≤ 17 ∧ u = .int .i64 j ∧ Hid (SumB w (laF F Q j) (.slice (some ⟨gg, 0, none⟩) P.length cap) P wr)) (fun _ _ _ u _ _ _ _ _ _ _ _ _ _ _ _ _ _ _ _ _ _ _ _ _ _ _ _ _ => 17 - (intOf u).toNat)
      case atStart => exact ⟨0, by omega, rfl, Lib.hid HB0.out⟩
      case round =>
        clear HB0
        obtain ⟨j, hj, rfl, HB0⟩ := hrel
        by_cases hlj : j < 17
        · have hdj : decide ((j : Int) < 17) = true := decide_eq_true (by omega)
          go_wp2_with fail
          go_loop [6, 7, 20, 21, 22, 23, 24, 25, 26, 27, 28, 29, 30, 31, 32, 33, 34] (fun vx u _ _ _ _ _ _ _ _ _ _ _ _ _ _ _ => ∃ r : Nat, r ≤ 8 ∧ vx = .int .u64 (leS Q (8 * j + r) (8 - r) : Nat) ∧ u = .int .i64 ((r : Int) - 1)) (fun vx u _ _ _ _ _ _ _ _ _ _ _ _ _ _ _ => (intOf u + 1).toNat)
          case atStart => exact ⟨8, by omega, rfl, rfl⟩
          case round =>
            obtain ⟨r, hr, rfl, rfl⟩ := hrel
            cases r with
            | zero =>
              have hdr : decide ((0 : Int) ≤ ((0 : Nat) : Int) - 1) = false := by decide
              have hcl := HB0.out.2.1.cell j (by omega)
              have hfz := Cs.frozen HB0.out.2.1 j
              have hx := u64_xor_nat (laF F Q j j) (leS Q (8 * j + 0) (8 - 0)) (laF_lt F Q HFl.out j j (by omega)) (leS_lt Q _ 8)
              have HST := Lib.hid (show SumB w (laF F Q (j + 1)) (.slice (some ⟨gg, 0, none⟩) P.length cap) P (wr.setCell ⟨w.heap.size + 1, j, none⟩ (.int .u64 (laF F Q j j ^^^ leS Q (8 * j + 0) (8 - 0) : Nat))) from by
                refine HB0.out.st ?_ (grown_set _ _ _ _)
                have := HB0.out.2.1.set j (laF F Q j j ^^^ leS Q (8 * j + 0) (8 - 0))
                have e : laF F Q j j = F j := by unfold laF; rw [if_neg (by omega)]
                have e2 : leS Q (8 * j + 0) (8 - 0) = leS Q (8 * j) 8 := rfl
                rw [e, e2] at this ⊢
                rwa [laF_step] at this)
              generalize laF F Q j j = y at *
              generalize leS Q (8 * j + 0) (8 - 0) = x at *
              have a1 : (0 : Int) ≤ (j : Int) := by omega
              have a2 : (j : Int) < 25 := by omega
              go_wp2_with fail
              exact ⟨⟨j + 1, by omega, by go_num, HST⟩, by simp [intOf]; omega⟩
            | succ m =>
              rw [show (((m + 1 : Nat) : Int) - 1) = (m : Int) by omega]
              have hdr : decide ((0 : Int) ≤ (m : Int)) = true := by simp
              have hxl : leS Q (8 * j + (m + 1)) (8 - (m + 1)) < 72057594037927936 := Nat.lt_of_lt_of_le (leS_lt Q _ _) (Nat.le_trans (Nat.pow_le_pow_right (by decide) (show 8 * (8 - (m + 1)) ≤ 56 by omega)) (by decide))
              have hcl := HDC.out wr _ HB0.out (8 * j + m) (by omega)
              unfold bv at hcl
              have hcb := (Q.getD (8 * j + m) 0).toNat_lt
              have HXN := Lib.hid (show (256 * (leS Q (8 * j + (m + 1)) (8 - (m + 1)) : Int) + ((Q.getD (8 * j + m) 0).toNat : Int)) = ((leS Q (8 * j + m) (8 - m) : Nat) : Int) by
                rw [show 8 - m = (8 - (m + 1)) + 1 by omega, leS_head, show 8 * j + m + 1 = 8 * j + (m + 1) by omega]
                omega)
              generalize leS Q (8 * j + (m + 1)) (8 - (m + 1)) = x at *
              generalize (Q.getD (8 * j + m) 0).toNat = y at *
              have hq1 : IntKind.u64.wrap (256 * (x : Int)) = 256 * (x : Int) := IntWalk.u64_in _ (by omega)
              have hq2 : IntKind.u64.wrap (256 * (x : Int) + (y : Int)) = 256 * (x : Int) + (y : Int) := IntWalk.u64_in _ (by omega)
              have b1 : (0 : Int) ≤ 8 * (j : Int) + (m : Int) := by omega
              have b2 : 8 * (j : Int) + (m : Int) < (n : Int) := by omega
              have b3 : (8 * (j : Int) + (m : Int)).toNat = 8 * j + m := by omega
              have b4 : (0 : Int) ≤ (j : Int) := by omega
              have b5 : (j : Int) < 17 := by omega
              have b6 : (0 : Int) ≤ (m : Int) := by omega
              have b7 : (m : Int) < 8 := by omega
              go_wp2_with fail
              exact ⟨⟨m, by omega, by rw [HXN.out], rfl⟩, by simp [intOf]⟩
        · obtain rfl : j = 17 := by omega
          have HLF := Lib.hid (laF_lt F Q HFl.out 17)
          generalize laF F Q 17 = G at *
          have d1 : (136 : Int) ≤ (c' : Int) := by omega
          have d2 : (136 : Int) ≤ (n : Int) := by omega
          have d3 : 136 ≤ c' := by omega
          go_wp2_with ((with_reducible refine wpList_load_lanes ?_ (.tmp 3) ?_ (w.heap.size + 1) G ?_ ?_ ?_); (exact rfl); (exact rfl); (exact rfl); (exact HB0.out.2.1))
          refine (refPermute_any G _ HLF.out).mono ?_
          rintro e w5 ⟨rfl, he5⟩
          have HB5 := Lib.hid (SumB.ext HB0.out he5)
          rw [HNX.out]
          clear he5 HB0 HNX HDC
          have HFR2 := Lib.hid HFR.out.symm
          obtain ⟨R, hR⟩ : ∃ R, sk P (i + 1) = R := ⟨_, rfl⟩
          rw [hR]
          have HR := Lib.hid hR
          clear hR
          by_cases h36 : c' = 136
          · subst h36
            have hiN : ¬ i + 1 < N := fun h => (HFC.out h).2.2 rfl
            go_wp2_with ((with_reducible refine wpList_store_lanes ?_ ?_ (.tmp 3) (.tmp 43) ?_ (w.heap.size + 1) (lc G) R ?_ ?_ ?_ ?_ ?_); (exact rfl); (exact rfl); (exact rfl); (exact rfl); (exact rfl); (exact HB5.out.2.1); (exact lc_size _); intro w6 k6 g6; have HB6 := Lib.hid (SumB.st HB5.out k6 g6); clear k6 g6)
            exact ⟨⟨i + 1, _, _, by omega, by rw [HFR.out, show n - 136 = 0 by omega], fun h => absurd h hiN, by rw [HR.out]; exact HB6⟩, by simp only [slLen_slice]; omega⟩
          · go_wp2_with ((with_reducible refine wpList_store_lanes ?_ ?_ (.tmp 3) (.tmp 43) ?_ (w.heap.size + 1) (lc G) R ?_ ?_ ?_ ?_ ?_); (exact rfl); (exact rfl); (exact rfl); (exact rfl); (exact rfl); (exact HB5.out.2.1); (exact lc_size _); intro w6 k6 g6; have HB6 := Lib.hid (SumB.st HB5.out k6 g6); clear k6 g6)
            exact ⟨⟨i + 1, _, _, by omega, by rw [HFR.out], fun h => ⟨(HFC.out h).1.symm, (HFC.out h).2.1.symm⟩, by rw [HR.out]; exact HB6⟩, by simp only [slLen_slice]; omega⟩
    · obtain rfl : i = N := by omega
      have hz : P.length - 136 * i = 0 := by have : P.length = i * 136 := HPN.out; omega
      rw [hz]
      have HFl := Lib.hid (sk_lt P i)
      have HB1 : Hid (Ib wr w.heap.size (fun _ => 0) ∧ Ln wr (w.heap.size + 1) (sk P i) ∧ Ext w wr) := Lib.hid ⟨HB0.out.1, HB0.out.2.1, HB0.out.2.2.2⟩
      have HW2 := Lib.hid (show w.heap.size + 1 < wr.heap.size from Cs.lt HB0.out.2.1)
      generalize sk P i = F at *
      clear HB0 hqc hz
      have HD0 : Hid (DgB w wr.heap.size F (8 * 0) (wr.alloc (.cells (ic fun _ => 0) 27))) := Lib.hid ⟨Cs.alloc HB1.out.1 _, Ln.ext HB1.out.2.1 ((Ext.refl wr).alloc _), Cs.new _ _ _ _ rfl, HB1.out.2.2.alloc _⟩
      rw [ic_zero] at HD0
      go_upto_region 17 with fail
      generalize wr.heap.size = g8 at *
      go_wp2_with fail
      go_loopw [9, 10, 11, 46, 47, 48, 49, 50, 51, 52, 53, 54, 55, 56, 57, 58, 59, 60, 61, 62, 63, 64, 65, 66] (fun _ _ _ u _ _ _ _ _ _ _ _ _ _ _ _ _ _ _ _ _ _ _ _ wr => ∃ i2 : Nat, i2 ≤ 4 ∧ u = .int .i64 i2 ∧ Hid (DgB w g8 F (8 * i2) wr)) (fun _ _ _ u _ _ _ _ _ _ _ _ _ _ _ _ _ _ _ _ _ _ _ _ _ => 4 - (intOf u).toNat)
      case atStart => exact ⟨0, by omega, rfl, HD0⟩
      case round =>
        clear HD0 HB1
        obtain ⟨i2, hi2, rfl, HD0⟩ := hrel
        by_cases hl2 : i2 < 4
        · have hd2 : decide ((i2 : Int) < 4) = true := decide_eq_true (by omega)
          have hcl := HD0.out.2.1.cell i2 (by omega)
          have hFv := HFl.out i2 (by omega)
          have HDV := Lib.hid (fun k hk => dg_div F i2 k hk)
          have HDN := Lib.hid (fun k => dg_next (F i2) k)
          have HD1 := Lib.hid (show F i2 = F i2 / 2 ^ (8 * 0) by simp)
          have a1 : (0 : Int) ≤ (i2 : Int) := by omega
          have a2 : (i2 : Int) < 4 := by omega
          generalize F i2 = y at *
          go_wp2_with fail
          go_loopw [10, 11, 52, 53, 54, 55, 56, 57, 58, 59, 60, 61, 62, 63, 64, 65] (fun vx _ u _ _ _ _ _ _ _ _ _ _ _ _ _ wr => ∃ k : Nat, k ≤ 8 ∧ u = .int .i64 k ∧ vx = .int .u64 (y / 2 ^ (8 * k) : Nat) ∧ Hid (DgB w g8 F (8 * i2 + k) wr)) (fun vx _ u _ _ _ _ _ _ _ _ _ _ _ _ _ _ => 8 - (intOf u).toNat)
          case atStart => exact ⟨0, by omega, rfl, by rw [← HD1.out], HD0⟩
          case round =>
            clear HD0 hcl
            obtain ⟨k, hk, rfl, rfl, HD0⟩ := hrel
            by_cases hlk : k < 8
            · have hdk : decide ((k : Int) < 8) = true := decide_eq_true (by omega)
              have HPT := Lib.hid (fun (p : Nat) (hp : p = 8 * i2 + k) (v : Nat) (hv : v = dgB F (8 * i2 + k)) => DgB.put HD0.out HW2.out p v hp hv)
              have hfz := Cs.frozen HD0.out.2.2.1 (8 * i2 + k)
              have hcz := HD0.out.2.2.1.cell (8 * i2 + k) (by omega)
              have HV := Lib.hid (HDV.out k hlk)
              have HN2 := Lib.hid (HDN.out k)
              have b1 : (0 : Int) ≤ 8 * (i2 : Int) + (k : Int) := by omega
              have b2 : 8 * (i2 : Int) + (k : Int) < 32 := by omega
              have b3 : (8 * (i2 : Int) + (k : Int)).toNat = 8 * i2 + k := by omega
              have b4 : (0 : Int) ≤ (k : Int) := by omega
              have b5 : (k : Int) < 8 := by omega
              have hzy : y / 2 ^ (8 * k) ≤ y := Nat.div_le_self _ _
              generalize y / 2 ^ (8 * k) = z at *
              have HMZ := Lib.hid (show ((z : Int) % 256) = ((z % 256 : Nat) : Int) by omega)
              generalize dgP F (8 * i2 + k) (8 * i2 + k) = z0 at *
              go_wp2_with fail
              exact ⟨⟨k + 1, by omega, by go_num, by rw [← HN2.out]; exact vi_congr (by omega), Lib.hid (by rw [HMZ.out]; exact HPT.out _ rfl _ HV.out)⟩, by simp [intOf]; omega⟩
            · obtain rfl : k = 8 := by omega
              go_wp2_with fail
              exact ⟨⟨i2 + 1, by omega, by go_num, HD0⟩, by simp [intOf]; omega⟩
        · obtain rfl : i2 = 4 := by omega
          go_wp2_with (first
            | ((with_reducible refine wpList_load_id ?_ (.tmp 8) ?_ g8 (dgP F (8 * 4)) ?_ ?_ ?_); (exact rfl); (exact rfl); (exact rfl); (exact HD0.out.2.2.1))
            | ((with_reducible refine wpList_store_id ?_ ?_ (.tmp 2) (.tmp 67) ?_ w.heap.size (ic fun _ => 0) (dgP F (8 * 4)) ?_ ?_ ?_ ?_ ?_); (exact rfl); (exact rfl); (exact rfl); (exact rfl); (exact rfl); (exact HD0.out.1); (exact ic_size _); intro w7 k7 g7; have K7 := Lib.hid k7; have HE7 := Lib.hid (HD0.out.2.2.2.grown g7 (Nat.le_refl _)); clear k7 g7))
          exact bodyPost_ret (results_id Tryd.results15 _ _ w.heap.size _ rfl K7.out) rfl ⟨by rw [HQ.out]; unfold idv; rw [← dgP_all], HE7.out⟩
end Go.Proofs.YthjmjccggkejhaaDoor
