/- The law WordBytes: words and their bytes are as the document says, for every row of words, a number, and rows of bytes. -/
import Derived.Test.YtgmmkoahnednfaaRch
import Derived.Test.YtgmmkoahnednfaaWsp
import Derived.Test.YtgmmkoahnednfaaInw
import Derived.Test.YtgmmkoahnednfaaSlc
import Derived.Test.YtgmmkoahnednfaaLbe
import Derived.Test.YtgmmkoahnednfaaFrm
namespace Go.Proofs.Ytgmmkoahnednfaa
open Go.ChangeShapes Go.WideShapes Go.ChangeAt Go.RowKit

set_option maxRecDepth 100000 in
theorem Bss.ext {W W' : World} {v : Value} {l : List (List UInt8)} (h : Bss W v l) (he : Ext W W') : Bss W' v l :=
  Sl.mono h (fun _ _ hc => he.cell hc) (fun _ _ ⟨u, e, hu⟩ => ⟨u, e, hu.ext he⟩)
set_option maxRecDepth 100000 in
theorem small_iff (x : Nat) (hx : x < M256) : isSmall x = (decide (lb x 1 = 0) && decide (lb x 2 = 0) && decide (lb x 3 = 0)) := by
  unfold isSmall
  rw [lb1, lb2, lb3, Bool.eq_iff_iff]
  unfold M256 at hx
  simp only [decide_eq_true_eq, Bool.and_eq_true]
  omega
set_option maxRecDepth 100000 in
theorem small_val (x : Nat) (h : isSmall x = true) : ((smallN x : Nat) : Int) = ((lb x 0 : Nat) : Int) := by
  have : x < 18446744073709551616 := by simpa [isSmall] using h
  unfold smallN
  rw [if_pos this, lb0, Nat.mod_eq_of_lt this]
set_option maxRecDepth 100000 in
theorem small_not (x : Nat) (h : isSmall x = false) : ((smallN x : Nat) : Int) = 0 := by
  have : ¬ x < 18446744073709551616 := by simpa [isSmall] using h
  unfold smallN
  rw [if_neg this]
  rfl
set_option maxRecDepth 100000 in
theorem cell_zero {W : World} {p : Addr} {n : Nat} (h : W.cell? p = some (.int .u64 (n : Nat))) (hz : n = 0) : W.cell? p = some (.int .u64 0) := by rw [h, hz]; rfl

set_option maxRecDepth 100000 in
set_option maxHeartbeats 8000000 in
theorem wbytes_walk (v : Value) (l : List Nat) (n : Nat) (v2 : Value) (raw : List (List UInt8)) (w : World) (hv : Ws w v l) (hn : n < 18446744073709551616) (hr : Bss w v2 raw) :
    Calls Try.prog 5 #[v, .int .u64 n, v2] w (RetT w) := by
  obtain ⟨A, c, rfl, h1, h2, h3, h4⟩ := hv
  have HRR := Lib.hid hr
  obtain ⟨A2, c2, rfl, r1, r2⟩ := hr.len
  unfold maxLen at h2 r2
  have H3 := Lib.hid h3
  have H4 := Lib.hid h4
  clear h3 h4 hr
  have HW := Lib.hid (wc_small n hn)
  have HN := Lib.hid (show n < M256 by unfold M256; omega)
  go_enter Try.func5, Try.ntmps5
  go_wp2_with fail
  refine (wakes_any _).mono ?_
  rintro e w1 ⟨rfl, he1⟩
  have HE1 := Lib.hid he1
  clear he1
  go_wp2_with fail
  refine (of_any n _ rfl _ hn).mono ?_
  rintro e w2 ⟨rfl, he2⟩
  have HE2 := Lib.hid (HE1.out.trans he2)
  clear he2 HE1
  go_wp2_with ((with_reducible refine wpList_neq_word ?_ (.tmp 19) (.tmp 21) rfl n n HN.out HN.out ?_ ?_ ?_); (exact rfl); (exact rfl); (exact (by unfold wv; rw [HW.out]; rfl)); rw [show (n != n) = false from bne_self_eq_false _])
  go_loopw [7, 8, 9, 10, 11, 25, 26, 27, 28, 29, 30, 31, 32, 33, 34, 35, 36, 37, 38, 39, 40, 41, 42, 43, 44, 45, 46, 47, 48, 49, 50, 51, 52, 53, 54, 55, 56, 57, 58, 59, 60, 61, 62, 63, 64, 65, 66, 67, 68, 69, 70, 71, 72, 73, 74, 75, 76, 77, 78] (fun _ _ _ _ _ i _ _ _ _ _ _ _ _ _ _ _ _ _ _ _ _ _ _ _ _ _ _ _ _ _ _ _ _ _ _ _ _ _ _ _ _ _ _ _ _ _ _ _ _ _ _ _ _ _ _ _ _ _ wr => ∃ k : Nat, k ≤ l.length ∧ k ≤ 12 ∧ i = .int .i64 k ∧ Hid (Ext w wr)) (fun _ _ _ _ _ i _ _ _ _ _ _ _ _ _ _ _ _ _ _ _ _ _ _ _ _ _ _ _ _ _ _ _ _ _ _ _ _ _ _ _ _ _ _ _ _ _ _ _ _ _ _ _ _ _ _ _ _ _ _ => l.length - (intOf i).toNat)
  case atStart => exact ⟨0, by omega, by omega, rfl, HE2⟩
  case round =>
    clear HE2
    obtain ⟨k, hk, hk12, rfl, he⟩ := hrel
    by_cases hlt : k < l.length
    · have hx := H4.out k hlt
      obtain ⟨b0, o0, rfl, hc⟩ := H3.out (by omega)
      have q0 : wr.cell? ⟨b0, o0 + k * 4, none⟩ = some (.int .u64 (lb (l.getD k 0) 0 : Nat)) := he.out.cell (hc k hlt 0 (by omega))
      have q1 : wr.cell? ⟨b0, o0 + k * 4 + 1, none⟩ = some (.int .u64 (lb (l.getD k 0) 1 : Nat)) := he.out.cell (hc k hlt 1 (by omega))
      have q2 : wr.cell? ⟨b0, o0 + k * 4 + 2, none⟩ = some (.int .u64 (lb (l.getD k 0) 2 : Nat)) := he.out.cell (hc k hlt 2 (by omega))
      have q3 : wr.cell? ⟨b0, o0 + k * 4 + 3, none⟩ = some (.int .u64 (lb (l.getD k 0) 3 : Nat)) := he.out.cell (hc k hlt 3 (by omega))
      clear hc
      generalize l.getD k 0 = x at *
      have HS := (show Ks w [] wr from ⟨fun x hx => (by cases hx), he.out⟩)
      by_cases h12 : k = 12
      · have hd : ((k : Int) == 12) = true := by rw [h12]; rfl
        clear h12
        go_wp2_with ((with_reducible refine wpList_store_word rfl rfl 27 (.tmp 8) (.tmp 29) rfl winfo (wr.heap.size) (wc 0) (x) ?_ ?_ ?_ ?_ ?_); (exact rfl); (exact rfl); (exact heap_alloc_new _ _); (exact rfl); intro w4 kz gz; have HS := HS.put gz kz; clear kz gz)
        have HE4 := Lib.hid HS.2
        clear HS he q0 q1 q2 q3
        go_wp2_with fail
        go_loopw [12, 13, 14, 15, 81, 82, 83, 84, 85, 86, 87, 88, 89, 90, 91, 92, 93, 94, 95, 96, 97, 98, 99, 100, 101, 102, 103, 104, 105, 106, 107, 108, 109, 110, 111, 112, 113, 114, 115, 116] (fun _ _ _ _ i _ _ _ _ _ _ _ _ _ _ _ _ _ _ _ _ _ _ _ _ _ _ _ _ _ _ _ _ _ _ _ _ _ _ _ wr => ∃ k : Nat, k ≤ raw.length ∧ k ≤ 12 ∧ i = .int .i64 k ∧ Hid (Ext w wr)) (fun _ _ _ _ i _ _ _ _ _ _ _ _ _ _ _ _ _ _ _ _ _ _ _ _ _ _ _ _ _ _ _ _ _ _ _ _ _ _ _ _ => raw.length - (intOf i).toNat)
        case atStart => exact ⟨0, by omega, by omega, rfl, HE4⟩
        case round =>
          clear HE4
          obtain ⟨k, hk, hk12, rfl, he⟩ := hrel
          by_cases hlt : k < raw.length
          · obtain ⟨b0, o0, u0, rfl, hc, hu⟩ := HRR.out.at k hlt
            have hcell := he.out.cell hc
            clear hc
            generalize raw.getD k [] = x at *
            have HX := Lib.hid (hu.ext he.out)
            obtain ⟨A3, c3, rfl, hx1, hx2, _⟩ := hu
            unfold maxLen at hx2
            by_cases h12 : k = 12
            · have hd : ((k : Int) == 12) = true := by rw [h12]; rfl
              clear h12
              go_wp2_with fail
              go_ret
              exact ⟨rfl, he.out⟩
            · have hd : ((k : Int) == 12) = false := by simp only [beq_eq_false_iff_ne]; omega
              obtain ⟨m, hm⟩ : ∃ m, m = min x.length 40 := ⟨_, rfl⟩
              have HY := Lib.hid (HX.out.takeMin 40 m hm)
              have hlen : (x.take 40).length = m := by simp; omega
              have hm40 : m ≤ 40 := by omega
              have hmx : m ≤ x.length := by omega
              have hmi : min (x.length : Int) 40 = (m : Int) := by omega
              have HM := Lib.hid hm
              have hk13 : k + 1 ≤ 12 := by omega
              clear hm h12
              generalize x.take 40 = y at *
              go_wp2_with fail
              refine (read_any _ y _ HY.out).mono ?_
              rintro e w7 ⟨rfl, he7⟩
              have HS := (show Ks w [] w7 from ⟨fun x hx => (by cases hx), he.out.trans he7⟩)
              have HEY0 := Lib.hid he7
              clear he7 hcell HX he
              by_cases hl : y.length ≤ 32
              · rw [show readV y = .tuple #[wv (beN y), .int .i64 0] by unfold readV; rw [if_pos hl]]
                have hby : beN y < M256 := by
                  have h1 := beN_lt y
                  have h2 : 256 ^ y.length ≤ 256 ^ 32 := Nat.pow_le_pow_right (by decide) hl
                  have h3 : (256 : Nat) ^ 32 = M256 := by decide
                  omega
                have hgt : decide ((32 : Int) < (m : Int)) = false := by simp; omega
                have HYL := Lib.hid hlen
                clear hlen
                go_wp2_with ((with_reducible refine wpList_store_word rfl rfl 27 (.tmp 14) (.tmp 96) rfl winfo (w7.heap.size) (wc 0) (beN y) ?_ ?_ ?_ ?_ ?_); (exact rfl); (exact rfl); (exact heap_alloc_new _ _); (exact rfl); intro w8 kz gz; have HS := HS.put gz kz; have HEY := Lib.hid (HEY0.out.trans (((Ext.refl _).alloc _).grown gz (Nat.le_refl _))); clear kz gz HEY0)
                have HE8 := Lib.hid HS.2
                have HS := (show Ks w8 [(w7.heap.size, beN y)] w8 from ⟨HS.1, Ext.refl _⟩)
                refine wp_named fun a0 ha0 => ?_
                obtain ⟨fr, hfr⟩ : ∃ fr : (Nat → Value) → Act, ∀ V, fr V = ((((((((a0.put (some 108) (V 0)).put (some 109) (V 1)).put (some 110) (V 2)).put (some 111) (V 3)).put (some 112) (V 4)).put (some 113) (V 5)).put (some 114) (V 6)).put (some 115) (V 7)) := ⟨fun V => ((((((((a0.put (some 108) (V 0)).put (some 109) (V 1)).put (some 110) (V 2)).put (some 111) (V 3)).put (some 112) (V 4)).put (some 113) (V 5)).put (some 114) (V 6)).put (some 115) (V 7)), fun _ => rfl⟩
                rw [ha0] at hfr
                simp only [Act.put, List.setIfInBounds_toArray, List.set_cons_zero, List.set_cons_succ] at hfr
                have HFR := Lib.hid hfr
                clear hfr
                refine wp_region_inv (by kernel_rfl) (by kernel_rfl) (fun L A W => ∃ V : Nat → Value, A = fr V ∧ Ks w8 [(w7.heap.size, beN y)] W ∧ Vals (fun j => ([some (.int .i64 0), some (.bool false), some (.bool false), some (wv (beN y)), some (.slice A3 m c3), some (wv (beN y)), some (.bool false), some (.bool false)] : List (Option Value)).getD j none) L V) ?_ ⟨?_, ?_, ?_, ?_, ?_, ?_, ?_, ?_, trivial⟩ ?_
                · refine ⟨fun j => a0.tmps.getD (([108, 109, 110, 111, 112, 113, 114, 115] : List Nat).getD j 0) undef, ?_, HS.drew, Vals.no _ _ _ (far_none _ _ rfl)⟩
                  rw [HFR.out, ha0]
                  rfl
                all_goals clear ha0
                · rintro L A W K hL hC hW ⟨V, rfl, HS, HV⟩ hK
                  have H := Lib.hid (show ∀ W', Ext W W' → K (fr (upd V 0 (.int .i64 0))) W' from fun W' he => hK _ _ ⟨upd V 0 (.int .i64 0), rfl, HS.ext he, HV.up 0 _ (fun x hx => Option.some.inj hx)⟩)
                  clear hK hC hW hL HV 
                  rw [HFR.out]
                  go_wp2_with fail
                  show K _ _
                  have := H.out _ (Ext.refl _)
                  rw [HFR.out] at this
                  exact this
                · rintro L A W K hL hC hW ⟨V, rfl, HS, HV⟩ hK
                  have e0 : V 0 = .int .i64 0 := HV 0 _ rfl (hW 0 rfl)
                  have u0 : (upd V 1 (.bool false)) 0 = .int .i64 0 := e0
                  have HU := Lib.hid (show (upd V 1 (.bool false)) 0 = .int .i64 0 from u0)
                  clear u0
                  have H := Lib.hid (show ∀ W', Ext W W' → K (fr (upd V 1 (.bool false))) W' from fun W' he => hK _ _ ⟨upd V 1 (.bool false), rfl, HS.ext he, HV.up 1 _ (fun x hx => Option.some.inj hx)⟩)
                  clear hK hC hW hL HV 
                  rw [HFR.out]
                  rw [e0]
                  clear e0
                  go_wp2_with fail
                  show K _ _
                  have := H.out _ (Ext.refl _)
                  rw [HFR.out] at this
                  obtain u0 := HU.out
                  rw [u0] at this
                  exact this
                · rintro L A W K hL hC hW ⟨V, rfl, HS, HV⟩ hK
                  have e1 : V 1 = .bool false := HV 1 _ rfl (hW 1 rfl)
                  have u1 : (upd V 2 (.bool false)) 1 = .bool false := e1
                  have HU := Lib.hid (show (upd V 2 (.bool false)) 1 = .bool false from u1)
                  clear u1
                  have H := Lib.hid (show ∀ W', Ext W W' → K (fr (upd V 2 (.bool false))) W' from fun W' he => hK _ _ ⟨upd V 2 (.bool false), rfl, HS.ext he, HV.up 2 _ (fun x hx => Option.some.inj hx)⟩)
                  clear hK hC hW hL HV 
                  rw [HFR.out]
                  rw [e1]
                  clear e1
                  go_wp2_with fail
                  show K _ _
                  have := H.out _ (Ext.refl _)
                  rw [HFR.out] at this
                  obtain u1 := HU.out
                  rw [u1] at this
                  exact this
                · rintro L A W K hL hC hW ⟨V, rfl, HS, HV⟩ hK
                  have e2 : V 2 = .bool false := HV 2 _ rfl (hW 2 rfl)
                  have u2 : (upd V 3 (wv (beN y))) 2 = .bool false := e2
                  have HU := Lib.hid (show (upd V 3 (wv (beN y))) 2 = .bool false from u2)
                  clear u2
                  have H := Lib.hid (show ∀ W', Ext W W' → K (fr (upd V 3 (wv (beN y)))) W' from fun W' he => hK _ _ ⟨upd V 3 (wv (beN y)), rfl, HS.ext he, HV.up 3 _ (fun x hx => Option.some.inj hx)⟩)
                  clear hK hC hW hL HV 
                  rw [HFR.out]
                  rw [e2]
                  clear e2
                  refine wpList_load_wordG rfl 27 25 (.tmp 14) rfl Try.underlying27 winfo (w7.heap.size) (beN y) rfl (HS.at (w7.heap.size) (beN y) (by simp)) ?_
                  show K _ _
                  have := H.out _ (Ext.refl _)
                  rw [HFR.out] at this
                  obtain u2 := HU.out
                  rw [u2] at this
                  exact this
                · rintro L A W K hL hC hW ⟨V, rfl, HS, HV⟩ hK
                  have e2 : V 2 = .bool false := HV 2 _ rfl (hW 2 rfl)
                  have u2 : (upd V 4 (.slice A3 m c3)) 2 = .bool false := e2
                  have HU := Lib.hid (show (upd V 4 (.slice A3 m c3)) 2 = .bool false from u2)
                  clear u2
                  have H := Lib.hid (show ∀ W', Ext W W' → K (fr (upd V 4 (.slice A3 m c3))) W' from fun W' he => hK _ _ ⟨upd V 4 (.slice A3 m c3), rfl, HS.ext he, HV.up 4 _ (fun x hx => Option.some.inj hx)⟩)
                  clear hK hC hW hL HV 
                  rw [HFR.out]
                  rw [e2]
                  clear e2
                  go_wp2_with fail
                  show K _ _
                  have := H.out _ (Ext.refl _)
                  rw [HFR.out] at this
                  obtain u2 := HU.out
                  rw [u2] at this
                  exact this
                · rintro L A W K hL hC hW ⟨V, rfl, HS, HV⟩ hK
                  have e2 : V 2 = .bool false := HV 2 _ rfl (hW 2 rfl)
                  have e4 : V 4 = .slice A3 m c3 := HV 4 _ rfl (hW 4 rfl)
                  have u2 : (upd V 5 (wv (beN y))) 2 = .bool false := e2
                  have u4 : (upd V 5 (wv (beN y))) 4 = .slice A3 m c3 := e4
                  have HU := Lib.hid (show (upd V 5 (wv (beN y))) 2 = .bool false ∧ (upd V 5 (wv (beN y))) 4 = .slice A3 m c3 from ⟨u2, u4⟩)
                  clear u2 u4
                  have H := Lib.hid (show ∀ W', Ext W W' → K (fr (upd V 5 (wv (beN y)))) W' from fun W' he => hK _ _ ⟨upd V 5 (wv (beN y)), rfl, HS.ext he, HV.up 5 _ (fun x hx => Option.some.inj hx)⟩)
                  clear hK hC hW hL HV 
                  rw [HFR.out]
                  rw [e2, e4]
                  clear e2 e4
                  go_wp2_with fail
                  refine (refRead_any _ y _ (HY.out.ext (HEY.out.trans HS.2)) hl).mono ?_
                  rintro e wx ⟨rfl, he⟩
                  have := H.out _ he
                  clear H
                  go_wp2_with fail
                  show K _ _
                  rw [HFR.out] at this
                  obtain ⟨u2, u4⟩ := HU.out
                  rw [u2, u4] at this
                  exact this
                · rintro L A W K hL hC hW ⟨V, rfl, HS, HV⟩ hK
                  have e2 : V 2 = .bool false := HV 2 _ rfl (hW 2 rfl)
                  have e3 : V 3 = wv (beN y) := HV 3 _ rfl (hW 3 rfl)
                  have e5 : V 5 = wv (beN y) := HV 5 _ rfl (hW 5 rfl)
                  have u2 : (upd V 6 (.bool false)) 2 = .bool false := e2
                  have u3 : (upd V 6 (.bool false)) 3 = wv (beN y) := e3
                  have u5 : (upd V 6 (.bool false)) 5 = wv (beN y) := e5
                  have HU := Lib.hid (show (upd V 6 (.bool false)) 2 = .bool false ∧ (upd V 6 (.bool false)) 3 = wv (beN y) ∧ (upd V 6 (.bool false)) 5 = wv (beN y) from ⟨u2, u3, u5⟩)
                  clear u2 u3 u5
                  have H := Lib.hid (show ∀ W', Ext W W' → K (fr (upd V 6 (.bool false))) W' from fun W' he => hK _ _ ⟨upd V 6 (.bool false), rfl, HS.ext he, HV.up 6 _ (fun x hx => Option.some.inj hx)⟩)
                  clear hK hC hW hL HV 
                  rw [HFR.out]
                  rw [e2, e3, e5]
                  clear e2 e3 e5
                  refine wpList_neq_word rfl (.tmp 111) (.tmp 113) rfl (beN y) (beN y) (hby) (hby) rfl rfl ?_
                  rw [show ((beN y) != (beN y)) = false from bne_self_eq_false _]
                  show K _ _
                  have := H.out _ (Ext.refl _)
                  rw [HFR.out] at this
                  obtain ⟨u2, u3, u5⟩ := HU.out
                  rw [u2, u3, u5] at this
                  exact this
                · rintro L A W K hL hC hW ⟨V, rfl, HS, HV⟩ hK
                  have e2 : V 2 = .bool false := HV 2 _ rfl (hW 2 rfl)
                  have e6 : V 6 = .bool false := HV 6 _ rfl (hW 6 rfl)
                  have u2 : (upd V 7 (.bool false)) 2 = .bool false := e2
                  have u6 : (upd V 7 (.bool false)) 6 = .bool false := e6
                  have HU := Lib.hid (show (upd V 7 (.bool false)) 2 = .bool false ∧ (upd V 7 (.bool false)) 6 = .bool false from ⟨u2, u6⟩)
                  clear u2 u6
                  have H := Lib.hid (show ∀ W', Ext W W' → K (fr (upd V 7 (.bool false))) W' from fun W' he => hK _ _ ⟨upd V 7 (.bool false), rfl, HS.ext he, HV.up 7 _ (fun x hx => Option.some.inj hx)⟩)
                  clear hK hC hW hL HV 
                  rw [HFR.out]
                  rw [e2, e6]
                  clear e2 e6
                  go_wp2_with fail
                  show K _ _
                  have := H.out _ (Ext.refl _)
                  rw [HFR.out] at this
                  obtain ⟨u2, u6⟩ := HU.out
                  rw [u2, u6] at this
                  exact this
                · rintro L A W hL ⟨V, rfl, HS, HV⟩
                  have e0 : V 0 = .int .i64 0 := HV 0 _ rfl (hL 0 (by simp))
                  have e1 : V 1 = .bool false := HV 1 _ rfl (hL 1 (by simp))
                  have e2 : V 2 = .bool false := HV 2 _ rfl (hL 2 (by simp))
                  have e3 : V 3 = wv (beN y) := HV 3 _ rfl (hL 3 (by simp))
                  have e4 : V 4 = .slice A3 m c3 := HV 4 _ rfl (hL 4 (by simp))
                  have e5 : V 5 = wv (beN y) := HV 5 _ rfl (hL 5 (by simp))
                  have e6 : V 6 = .bool false := HV 6 _ rfl (hL 6 (by simp))
                  have e7 : V 7 = .bool false := HV 7 _ rfl (hL 7 (by simp))
                  rw [HFR.out]
                  rw [e0, e1, e2, e3, e4, e5, e6, e7]
                  clear hL HV e0 e1 e2 e3 e4 e5 e6 e7
                  have HE := Lib.hid (HE8.out.trans HS.2)
                  clear HFR HS HE8 HEY
                  go_wp2_with fail
                  go_roundw
                  case rel => exact ⟨k + 1, by omega, by omega, by go_num, HE⟩
                  case measure => simp [intOf]; omega
              · rw [show readV y = .tuple #[wv 0, .int .i64 3] by unfold readV; rw [if_neg hl]]
                have hgt : decide ((32 : Int) < (m : Int)) = true := by simp; omega
                clear hlen HEY0
                go_wp2_with (first
                  | ((with_reducible refine wpList_store_word rfl rfl 27 (.tmp 14) (.tmp 96) rfl winfo (w7.heap.size) (wc 0) (0) ?_ ?_ ?_ ?_ ?_); (exact rfl); (exact rfl); (exact heap_alloc_new _ _); (exact rfl); intro w8 kz gz; have HS := HS.put gz kz; clear kz gz)
                  | ((with_reducible refine wpList_load_wordG ?_ 27 25 (.tmp 14) rfl Try.underlying27 winfo (w7.heap.size) (0) ?_ ?_ ?_); (exact rfl); (exact rfl); (exact HS.at (w7.heap.size) (0) (by simp)))
                  | ((with_reducible refine wpList_neq_word ?_ (.tmp 104) (.tmp 105) rfl (0) (0) ((by decide)) ((by decide)) ?_ ?_ ?_); (exact rfl); (exact rfl); (exact rfl); rw [show ((0 : Nat) != 0) = false from rfl]))
                have HE := Lib.hid HS.2
                clear HS
                go_wp2_with fail
                go_roundw
                case rel => exact ⟨k + 1, by omega, by omega, by go_num, HE⟩
                case measure => simp [intOf]; omega
          · go_wp2_with fail
            go_ret
            exact ⟨rfl, he.out⟩
      · have hd : ((k : Int) == 12) = false := by simp only [beq_eq_false_iff_ne]; omega
        have hk13 : k + 1 ≤ 12 := by omega
        clear h12
        go_wp2_with (first
          | ((with_reducible refine wpList_store_word rfl rfl 27 (.tmp 8) (.tmp 29) rfl winfo (wr.heap.size) (wc 0) (x) ?_ ?_ ?_ ?_ ?_); (exact rfl); (exact rfl); (exact heap_alloc_new _ _); (exact rfl); intro w4 kz gz; have HS := HS.put gz kz; clear kz gz)
          | ((with_reducible refine wpList_load_wordG ?_ 27 25 (.tmp 8) rfl Try.underlying27 winfo (wr.heap.size) (x) ?_ ?_ ?_); (exact rfl); (exact rfl); (exact HS.at (wr.heap.size) (x) (by simp))))
        refine (small_any x _ hx).mono ?_
        rintro e w5 ⟨rfl, he5⟩
        have HS := HS.ext he5
        clear he5 he q0 q1 q2 q3
        have c1 := (HS.at wr.heap.size x (by simp)).cell 1 (by omega)
        have c2 := (HS.at wr.heap.size x (by simp)).cell 2 (by omega)
        have c3 := (HS.at wr.heap.size x (by simp)).cell 3 (by omega)
        have hsi := small_iff x hx
        by_cases z1 : lb x 1 = 0
        · replace c1 := cell_zero c1 z1
          by_cases z2 : lb x 2 = 0
          · replace c2 := cell_zero c2 z2
            by_cases z3 : lb x 3 = 0
            · replace c3 := cell_zero c3 z3
              have hs : isSmall x = true := by rw [hsi]; simp [z1, z2, z3]
              rw [small_val x hs, hs]
              clear hsi z1 z2 z3 hs
              go_wp2_with fail
              refine wp_named fun a0 ha0 => ?_
              obtain ⟨fr, hfr⟩ : ∃ fr : (Nat → Value) → Act, ∀ V, fr V = ((((((((((((((((((((((((((((a0.put (some 50) (V 0)).put (some 51) (V 1)).put (some 52) (V 2)).put (some 53) (V 3)).put (some 54) (V 4)).put (some 55) (V 5)).put (some 56) (V 6)).put (some 57) (V 7)).put (some 58) (V 8)).put (some 59) (V 9)).put (some 60) (V 10)).put (some 61) (V 11)).put (some 62) (V 12)).put (some 63) (V 13)).put (some 64) (V 14)).put (some 65) (V 15)).put (some 66) (V 16)).put (some 67) (V 17)).put (some 68) (V 18)).put (some 69) (V 19)).put (some 70) (V 20)).put (some 71) (V 21)).put (some 72) (V 22)).put (some 73) (V 23)).put (some 74) (V 24)).put (some 75) (V 25)).put (some 76) (V 26)).put (some 77) (V 27)) := ⟨fun V => ((((((((((((((((((((((((((((a0.put (some 50) (V 0)).put (some 51) (V 1)).put (some 52) (V 2)).put (some 53) (V 3)).put (some 54) (V 4)).put (some 55) (V 5)).put (some 56) (V 6)).put (some 57) (V 7)).put (some 58) (V 8)).put (some 59) (V 9)).put (some 60) (V 10)).put (some 61) (V 11)).put (some 62) (V 12)).put (some 63) (V 13)).put (some 64) (V 14)).put (some 65) (V 15)).put (some 66) (V 16)).put (some 67) (V 17)).put (some 68) (V 18)).put (some 69) (V 19)).put (some 70) (V 20)).put (some 71) (V 21)).put (some 72) (V 22)).put (some 73) (V 23)).put (some 74) (V 24)).put (some 75) (V 25)).put (some 76) (V 26)).put (some 77) (V 27)), fun _ => rfl⟩
              rw [ha0] at hfr
              simp only [Act.put, List.setIfInBounds_toArray, List.set_cons_zero, List.set_cons_succ] at hfr
              have HFR := Lib.hid hfr
              clear hfr
              refine wp_region_inv (by kernel_rfl) (by kernel_rfl) (fun L A W => ∃ V : Nat → Value, A = fr V ∧ Ks w [(wr.heap.size, x)] W ∧ Vals (fun j => ([some (wv (x)), none, some (wv (x)), none, some (.bool true), some (.bool false), some (.bool false), some (.bool true), some (.bool true), some (.bool false), some (.bool false), some (.bool false), some (.bool true), some (.bool true), some (.int .u64 (lb x 0 : Nat)), some (.pointer (some ⟨wr.heap.size, 0, none⟩)), some (.int .u64 (lb x 0 : Nat)), some (.bool false), some (.bool false), some (.bool false), some (.bool false), some (.bool true), some (.bool false), some (.bool false), some (undef), some (undef), some (.bool false), some (.bool false)] : List (Option Value)).getD j none) L V ∧ (L 1 = true → Bs W (V 1) (bytL x (List.range 32))) ∧ (L 3 = true → Bs W (V 3) (bytL x (List.range 32)))) ?_ ⟨?_, ?_, ?_, ?_, ?_, ?_, ?_, ?_, ?_, ?_, ?_, ?_, ?_, ?_, ?_, ?_, ?_, ?_, ?_, ?_, ?_, ?_, ?_, ?_, ?_, ?_, ?_, ?_, trivial⟩ ?_
              · refine ⟨fun j => a0.tmps.getD (([50, 51, 52, 53, 54, 55, 56, 57, 58, 59, 60, 61, 62, 63, 64, 65, 66, 67, 68, 69, 70, 71, 72, 73, 74, 75, 76, 77] : List Nat).getD j 0) undef, ?_, HS.drew, Vals.no _ _ _ (far_none _ _ rfl), fun h => absurd h (by decide), fun h => absurd h (by decide)⟩
                rw [HFR.out, ha0]
                rfl
              all_goals clear ha0
              · rintro L A W K hL hC hW ⟨V, rfl, HS, HV, f1, f3⟩ hK
                have H := Lib.hid (show ∀ W', Ext W W' → K (fr (upd V 0 (wv (x)))) W' from fun W' he => hK _ _ ⟨upd V 0 (wv (x)), rfl, HS.ext he, HV.up 0 _ (fun x hx => Option.some.inj hx), fun h => Bs.ext (f1 (more_ne h rfl)) he, fun h => Bs.ext (f3 (more_ne h rfl)) he⟩)
                clear hK hC hW hL HV f1 f3
                rw [HFR.out]
                refine wpList_load_wordG rfl 27 25 (.tmp 8) rfl Try.underlying27 winfo (wr.heap.size) (x) rfl (HS.at (wr.heap.size) (x) (by simp)) ?_
                show K _ _
                have := H.out _ (Ext.refl _)
                rw [HFR.out] at this
                exact this
              · rintro L A W K hL hC hW ⟨V, rfl, HS, HV, f1, f3⟩ hK
                have e0 : V 0 = wv (x) := HV 0 _ rfl (hW 0 rfl)
                have H := Lib.hid (show ∀ v W', Ext W W' → Bs W' v (bytL x (List.range 32)) → K (fr (upd V 1 v)) W' from fun v W' he hp => hK _ _ ⟨upd V 1 v, rfl, HS.ext he, HV.up 1 _ (fun x hx => absurd hx (by intro h; cases h)), fun _ => hp, fun h => Bs.ext (f3 (more_ne h rfl)) he⟩)
                have HU := Lib.hid (show ∀ v, (upd V 1 v) 0 = wv (x) from fun v => e0)
                clear hK hC hW hL HV f1 f3
                rw [HFR.out]
                rw [e0]
                clear e0
                go_wp2_with fail
                refine (bytes_any x _).mono ?_
                rintro e wx ⟨vx, rfl, ho, he⟩
                have := H.out _ _ he (ho.bs)
                clear H
                go_wp2_with fail
                show K _ _
                rw [HFR.out] at this
                obtain u0 := HU.out _
                rw [u0] at this
                exact this
              · rintro L A W K hL hC hW ⟨V, rfl, HS, HV, f1, f3⟩ hK
                have H := Lib.hid (show ∀ W', Ext W W' → K (fr (upd V 2 (wv (x)))) W' from fun W' he => hK _ _ ⟨upd V 2 (wv (x)), rfl, HS.ext he, HV.up 2 _ (fun x hx => Option.some.inj hx), fun h => Bs.ext (f1 (more_ne h rfl)) he, fun h => Bs.ext (f3 (more_ne h rfl)) he⟩)
                clear hK hC hW hL HV f1 f3
                rw [HFR.out]
                refine wpList_load_wordG rfl 27 25 (.tmp 8) rfl Try.underlying27 winfo (wr.heap.size) (x) rfl (HS.at (wr.heap.size) (x) (by simp)) ?_
                show K _ _
                have := H.out _ (Ext.refl _)
                rw [HFR.out] at this
                exact this
              · rintro L A W K hL hC hW ⟨V, rfl, HS, HV, f1, f3⟩ hK
                have e2 : V 2 = wv (x) := HV 2 _ rfl (hW 2 rfl)
                have H := Lib.hid (show ∀ v W', Ext W W' → Bs W' v (bytL x (List.range 32)) → K (fr (upd V 3 v)) W' from fun v W' he hp => hK _ _ ⟨upd V 3 v, rfl, HS.ext he, HV.up 3 _ (fun x hx => absurd hx (by intro h; cases h)), fun h => Bs.ext (f1 (more_ne h rfl)) he, fun _ => hp⟩)
                have HU := Lib.hid (show ∀ v, (upd V 3 v) 2 = wv (x) from fun v => e2)
                clear hK hC hW hL HV f1 f3
                rw [HFR.out]
                rw [e2]
                clear e2
                go_wp2_with fail
                refine (refBytes_any x _).mono ?_
                rintro e wx ⟨vx, rfl, ho, he⟩
                have := H.out _ _ he (ho.bs)
                clear H
                go_wp2_with fail
                show K _ _
                rw [HFR.out] at this
                obtain u2 := HU.out _
                rw [u2] at this
                exact this
              · rintro L A W K hL hC hW ⟨V, rfl, HS, HV, f1, f3⟩ hK
                have b1 := f1 (hW 1 rfl)
                have b2 := f3 (hW 3 rfl)
                have H := Lib.hid (show ∀ W', Ext W W' → K (fr (upd V 4 (.bool true))) W' from fun W' he => hK _ _ ⟨upd V 4 (.bool true), rfl, HS.ext he, HV.up 4 _ (fun x hx => Option.some.inj hx), fun h => Bs.ext (f1 (more_ne h rfl)) he, fun h => Bs.ext (f3 (more_ne h rfl)) he⟩)
                clear hK hC hW hL HV f1 f3
                rw [HFR.out]
                go_wp2_with fail
                refine (bytesEqual_same _ _ _ _ b1 b2).mono ?_
                rintro e wx ⟨rfl, he⟩
                have := H.out _ he
                clear H
                go_wp2_with fail
                show K _ _
                rw [HFR.out] at this
                exact this
              · rintro L A W K hL hC hW ⟨V, rfl, HS, HV, f1, f3⟩ hK
                have e4 : V 4 = .bool true := HV 4 _ rfl (hW 4 rfl)
                have u4 : (upd V 5 (.bool false)) 4 = .bool true := e4
                have HU := Lib.hid (show (upd V 5 (.bool false)) 4 = .bool true from u4)
                clear u4
                have H := Lib.hid (show ∀ W', Ext W W' → K (fr (upd V 5 (.bool false))) W' from fun W' he => hK _ _ ⟨upd V 5 (.bool false), rfl, HS.ext he, HV.up 5 _ (fun x hx => Option.some.inj hx), fun h => Bs.ext (f1 (more_ne h rfl)) he, fun h => Bs.ext (f3 (more_ne h rfl)) he⟩)
                clear hK hC hW hL HV f1 f3
                rw [HFR.out]
                rw [e4]
                clear e4
                go_wp2_with fail
                show K _ _
                have := H.out _ (Ext.refl _)
                rw [HFR.out] at this
                obtain u4 := HU.out
                rw [u4] at this
                exact this
              · rintro L A W K hL hC hW ⟨V, rfl, HS, HV, f1, f3⟩ hK
                have e5 : V 5 = .bool false := HV 5 _ rfl (hW 5 rfl)
                have u5 : (upd V 6 (.bool false)) 5 = .bool false := e5
                have HU := Lib.hid (show (upd V 6 (.bool false)) 5 = .bool false from u5)
                clear u5
                have H := Lib.hid (show ∀ W', Ext W W' → K (fr (upd V 6 (.bool false))) W' from fun W' he => hK _ _ ⟨upd V 6 (.bool false), rfl, HS.ext he, HV.up 6 _ (fun x hx => Option.some.inj hx), fun h => Bs.ext (f1 (more_ne h rfl)) he, fun h => Bs.ext (f3 (more_ne h rfl)) he⟩)
                clear hK hC hW hL HV f1 f3
                rw [HFR.out]
                rw [e5]
                clear e5
                go_wp2_with fail
                show K _ _
                have := H.out _ (Ext.refl _)
                rw [HFR.out] at this
                obtain u5 := HU.out
                rw [u5] at this
                exact this
              · rintro L A W K hL hC hW ⟨V, rfl, HS, HV, f1, f3⟩ hK
                have e6 : V 6 = .bool false := HV 6 _ rfl (hW 6 rfl)
                have u6 : (upd V 7 (.bool true)) 6 = .bool false := e6
                have HU := Lib.hid (show (upd V 7 (.bool true)) 6 = .bool false from u6)
                clear u6
                have H := Lib.hid (show ∀ W', Ext W W' → K (fr (upd V 7 (.bool true))) W' from fun W' he => hK _ _ ⟨upd V 7 (.bool true), rfl, HS.ext he, HV.up 7 _ (fun x hx => Option.some.inj hx), fun h => Bs.ext (f1 (more_ne h rfl)) he, fun h => Bs.ext (f3 (more_ne h rfl)) he⟩)
                clear hK hC hW hL HV f1 f3
                rw [HFR.out]
                rw [e6]
                clear e6
                go_wp2_with fail
                show K _ _
                have := H.out _ (Ext.refl _)
                rw [HFR.out] at this
                obtain u6 := HU.out
                rw [u6] at this
                exact this
              · rintro L A W K hL hC hW ⟨V, rfl, HS, HV, f1, f3⟩ hK
                have e6 : V 6 = .bool false := HV 6 _ rfl (hW 6 rfl)
                have u6 : (upd V 8 (.bool true)) 6 = .bool false := e6
                have HU := Lib.hid (show (upd V 8 (.bool true)) 6 = .bool false from u6)
                clear u6
                have H := Lib.hid (show ∀ W', Ext W W' → K (fr (upd V 8 (.bool true))) W' from fun W' he => hK _ _ ⟨upd V 8 (.bool true), rfl, HS.ext he, HV.up 8 _ (fun x hx => Option.some.inj hx), fun h => Bs.ext (f1 (more_ne h rfl)) he, fun h => Bs.ext (f3 (more_ne h rfl)) he⟩)
                clear hK hC hW hL HV f1 f3
                rw [HFR.out]
                rw [e6]
                clear e6
                go_wp2_with fail
                show K _ _
                have := H.out _ (Ext.refl _)
                rw [HFR.out] at this
                obtain u6 := HU.out
                rw [u6] at this
                exact this
              · rintro L A W K hL hC hW ⟨V, rfl, HS, HV, f1, f3⟩ hK
                have e6 : V 6 = .bool false := HV 6 _ rfl (hW 6 rfl)
                have e7 : V 7 = .bool true := HV 7 _ rfl (hW 7 rfl)
                have e8 : V 8 = .bool true := HV 8 _ rfl (hW 8 rfl)
                have u6 : (upd V 9 (.bool false)) 6 = .bool false := e6
                have u7 : (upd V 9 (.bool false)) 7 = .bool true := e7
                have u8 : (upd V 9 (.bool false)) 8 = .bool true := e8
                have HU := Lib.hid (show (upd V 9 (.bool false)) 6 = .bool false ∧ (upd V 9 (.bool false)) 7 = .bool true ∧ (upd V 9 (.bool false)) 8 = .bool true from ⟨u6, u7, u8⟩)
                clear u6 u7 u8
                have H := Lib.hid (show ∀ W', Ext W W' → K (fr (upd V 9 (.bool false))) W' from fun W' he => hK _ _ ⟨upd V 9 (.bool false), rfl, HS.ext he, HV.up 9 _ (fun x hx => Option.some.inj hx), fun h => Bs.ext (f1 (more_ne h rfl)) he, fun h => Bs.ext (f3 (more_ne h rfl)) he⟩)
                clear hK hC hW hL HV f1 f3
                rw [HFR.out]
                rw [e6, e7, e8]
                clear e6 e7 e8
                go_wp2_with fail
                show K _ _
                have := H.out _ (Ext.refl _)
                rw [HFR.out] at this
                obtain ⟨u6, u7, u8⟩ := HU.out
                rw [u6, u7, u8] at this
                exact this
              · rintro L A W K hL hC hW ⟨V, rfl, HS, HV, f1, f3⟩ hK
                have e6 : V 6 = .bool false := HV 6 _ rfl (hW 6 rfl)
                have e9 : V 9 = .bool false := HV 9 _ rfl (hW 9 rfl)
                have u6 : (upd V 10 (.bool false)) 6 = .bool false := e6
                have u9 : (upd V 10 (.bool false)) 9 = .bool false := e9
                have HU := Lib.hid (show (upd V 10 (.bool false)) 6 = .bool false ∧ (upd V 10 (.bool false)) 9 = .bool false from ⟨u6, u9⟩)
                clear u6 u9
                have H := Lib.hid (show ∀ W', Ext W W' → K (fr (upd V 10 (.bool false))) W' from fun W' he => hK _ _ ⟨upd V 10 (.bool false), rfl, HS.ext he, HV.up 10 _ (fun x hx => Option.some.inj hx), fun h => Bs.ext (f1 (more_ne h rfl)) he, fun h => Bs.ext (f3 (more_ne h rfl)) he⟩)
                clear hK hC hW hL HV f1 f3
                rw [HFR.out]
                rw [e6, e9]
                clear e6 e9
                go_wp2_with fail
                show K _ _
                have := H.out _ (Ext.refl _)
                rw [HFR.out] at this
                obtain ⟨u6, u9⟩ := HU.out
                rw [u6, u9] at this
                exact this
              · rintro L A W K hL hC hW ⟨V, rfl, HS, HV, f1, f3⟩ hK
                have e10 : V 10 = .bool false := HV 10 _ rfl (hW 10 rfl)
                have u10 : (upd V 11 (.bool false)) 10 = .bool false := e10
                have HU := Lib.hid (show (upd V 11 (.bool false)) 10 = .bool false from u10)
                clear u10
                have H := Lib.hid (show ∀ W', Ext W W' → K (fr (upd V 11 (.bool false))) W' from fun W' he => hK _ _ ⟨upd V 11 (.bool false), rfl, HS.ext he, HV.up 11 _ (fun x hx => Option.some.inj hx), fun h => Bs.ext (f1 (more_ne h rfl)) he, fun h => Bs.ext (f3 (more_ne h rfl)) he⟩)
                clear hK hC hW hL HV f1 f3
                rw [HFR.out]
                rw [e10]
                clear e10
                go_wp2_with fail
                show K _ _
                have := H.out _ (Ext.refl _)
                rw [HFR.out] at this
                obtain u10 := HU.out
                rw [u10] at this
                exact this
              · rintro L A W K hL hC hW ⟨V, rfl, HS, HV, f1, f3⟩ hK
                have e11 : V 11 = .bool false := HV 11 _ rfl (hW 11 rfl)
                have u11 : (upd V 12 (.bool true)) 11 = .bool false := e11
                have HU := Lib.hid (show (upd V 12 (.bool true)) 11 = .bool false from u11)
                clear u11
                have H := Lib.hid (show ∀ W', Ext W W' → K (fr (upd V 12 (.bool true))) W' from fun W' he => hK _ _ ⟨upd V 12 (.bool true), rfl, HS.ext he, HV.up 12 _ (fun x hx => Option.some.inj hx), fun h => Bs.ext (f1 (more_ne h rfl)) he, fun h => Bs.ext (f3 (more_ne h rfl)) he⟩)
                clear hK hC hW hL HV f1 f3
                rw [HFR.out]
                rw [e11]
                clear e11
                go_wp2_with fail
                show K _ _
                have := H.out _ (Ext.refl _)
                rw [HFR.out] at this
                obtain u11 := HU.out
                rw [u11] at this
                exact this
              · rintro L A W K hL hC hW ⟨V, rfl, HS, HV, f1, f3⟩ hK
                have e11 : V 11 = .bool false := HV 11 _ rfl (hW 11 rfl)
                have e12 : V 12 = .bool true := HV 12 _ rfl (hW 12 rfl)
                have u11 : (upd V 13 (.bool true)) 11 = .bool false := e11
                have u12 : (upd V 13 (.bool true)) 12 = .bool true := e12
                have HU := Lib.hid (show (upd V 13 (.bool true)) 11 = .bool false ∧ (upd V 13 (.bool true)) 12 = .bool true from ⟨u11, u12⟩)
                clear u11 u12
                have H := Lib.hid (show ∀ W', Ext W W' → K (fr (upd V 13 (.bool true))) W' from fun W' he => hK _ _ ⟨upd V 13 (.bool true), rfl, HS.ext he, HV.up 13 _ (fun x hx => Option.some.inj hx), fun h => Bs.ext (f1 (more_ne h rfl)) he, fun h => Bs.ext (f3 (more_ne h rfl)) he⟩)
                clear hK hC hW hL HV f1 f3
                rw [HFR.out]
                rw [e11, e12]
                clear e11 e12
                go_wp2_with fail
                show K _ _
                have := H.out _ (Ext.refl _)
                rw [HFR.out] at this
                obtain ⟨u11, u12⟩ := HU.out
                rw [u11, u12] at this
                exact this
              · rintro L A W K hL hC hW ⟨V, rfl, HS, HV, f1, f3⟩ hK
                have e13 : V 13 = .bool true := HV 13 _ rfl (hW 13 rfl)
                have u13 : (upd V 14 (.int .u64 (lb x 0 : Nat))) 13 = .bool true := e13
                have HU := Lib.hid (show (upd V 14 (.int .u64 (lb x 0 : Nat))) 13 = .bool true from u13)
                clear u13
                have H := Lib.hid (show ∀ W', Ext W W' → K (fr (upd V 14 (.int .u64 (lb x 0 : Nat)))) W' from fun W' he => hK _ _ ⟨upd V 14 (.int .u64 (lb x 0 : Nat)), rfl, HS.ext he, HV.up 14 _ (fun x hx => Option.some.inj hx), fun h => Bs.ext (f1 (more_ne h rfl)) he, fun h => Bs.ext (f3 (more_ne h rfl)) he⟩)
                clear hK hC hW hL HV f1 f3
                rw [HFR.out]
                rw [e13]
                clear e13
                go_wp2_with fail
                show K _ _
                have := H.out _ (Ext.refl _)
                rw [HFR.out] at this
                obtain u13 := HU.out
                rw [u13] at this
                exact this
              · rintro L A W K hL hC hW ⟨V, rfl, HS, HV, f1, f3⟩ hK
                have e13 : V 13 = .bool true := HV 13 _ rfl (hW 13 rfl)
                have u13 : (upd V 15 (.pointer (some ⟨wr.heap.size, 0, none⟩))) 13 = .bool true := e13
                have HU := Lib.hid (show (upd V 15 (.pointer (some ⟨wr.heap.size, 0, none⟩))) 13 = .bool true from u13)
                clear u13
                have H := Lib.hid (show ∀ W', Ext W W' → K (fr (upd V 15 (.pointer (some ⟨wr.heap.size, 0, none⟩)))) W' from fun W' he => hK _ _ ⟨upd V 15 (.pointer (some ⟨wr.heap.size, 0, none⟩)), rfl, HS.ext he, HV.up 15 _ (fun x hx => Option.some.inj hx), fun h => Bs.ext (f1 (more_ne h rfl)) he, fun h => Bs.ext (f3 (more_ne h rfl)) he⟩)
                clear hK hC hW hL HV f1 f3
                rw [HFR.out]
                rw [e13]
                clear e13
                go_wp2_with fail
                show K _ _
                have := H.out _ (Ext.refl _)
                rw [HFR.out] at this
                obtain u13 := HU.out
                rw [u13] at this
                exact this
              · rintro L A W K hL hC hW ⟨V, rfl, HS, HV, f1, f3⟩ hK
                have e13 : V 13 = .bool true := HV 13 _ rfl (hW 13 rfl)
                have e15 : V 15 = .pointer (some ⟨wr.heap.size, 0, none⟩) := HV 15 _ rfl (hW 15 rfl)
                have u13 : (upd V 16 (.int .u64 (lb x 0 : Nat))) 13 = .bool true := e13
                have u15 : (upd V 16 (.int .u64 (lb x 0 : Nat))) 15 = .pointer (some ⟨wr.heap.size, 0, none⟩) := e15
                have HU := Lib.hid (show (upd V 16 (.int .u64 (lb x 0 : Nat))) 13 = .bool true ∧ (upd V 16 (.int .u64 (lb x 0 : Nat))) 15 = .pointer (some ⟨wr.heap.size, 0, none⟩) from ⟨u13, u15⟩)
                clear u13 u15
                have H := Lib.hid (show ∀ W', Ext W W' → K (fr (upd V 16 (.int .u64 (lb x 0 : Nat)))) W' from fun W' he => hK _ _ ⟨upd V 16 (.int .u64 (lb x 0 : Nat)), rfl, HS.ext he, HV.up 16 _ (fun x hx => Option.some.inj hx), fun h => Bs.ext (f1 (more_ne h rfl)) he, fun h => Bs.ext (f3 (more_ne h rfl)) he⟩)
                clear hK hC hW hL HV f1 f3
                rw [HFR.out]
                rw [e13, e15]
                clear e13 e15
                have c0 := (HS.at wr.heap.size x (by simp)).cell 0 (by omega)
                go_wp2_with fail
                show K _ _
                have := H.out _ (Ext.refl _)
                rw [HFR.out] at this
                obtain ⟨u13, u15⟩ := HU.out
                rw [u13, u15] at this
                exact this
              · rintro L A W K hL hC hW ⟨V, rfl, HS, HV, f1, f3⟩ hK
                have e13 : V 13 = .bool true := HV 13 _ rfl (hW 13 rfl)
                have e14 : V 14 = .int .u64 (lb x 0 : Nat) := HV 14 _ rfl (hW 14 rfl)
                have e16 : V 16 = .int .u64 (lb x 0 : Nat) := HV 16 _ rfl (hW 16 rfl)
                have u13 : (upd V 17 (.bool false)) 13 = .bool true := e13
                have u14 : (upd V 17 (.bool false)) 14 = .int .u64 (lb x 0 : Nat) := e14
                have u16 : (upd V 17 (.bool false)) 16 = .int .u64 (lb x 0 : Nat) := e16
                have HU := Lib.hid (show (upd V 17 (.bool false)) 13 = .bool true ∧ (upd V 17 (.bool false)) 14 = .int .u64 (lb x 0 : Nat) ∧ (upd V 17 (.bool false)) 16 = .int .u64 (lb x 0 : Nat) from ⟨u13, u14, u16⟩)
                clear u13 u14 u16
                have H := Lib.hid (show ∀ W', Ext W W' → K (fr (upd V 17 (.bool false))) W' from fun W' he => hK _ _ ⟨upd V 17 (.bool false), rfl, HS.ext he, HV.up 17 _ (fun x hx => Option.some.inj hx), fun h => Bs.ext (f1 (more_ne h rfl)) he, fun h => Bs.ext (f3 (more_ne h rfl)) he⟩)
                clear hK hC hW hL HV f1 f3
                rw [HFR.out]
                rw [e13, e14, e16]
                clear e13 e14 e16
                go_wp2_with fail
                show K _ _
                have := H.out _ (Ext.refl _)
                rw [HFR.out] at this
                obtain ⟨u13, u14, u16⟩ := HU.out
                rw [u13, u14, u16] at this
                exact this
              · rintro L A W K hL hC hW ⟨V, rfl, HS, HV, f1, f3⟩ hK
                have e11 : V 11 = .bool false := HV 11 _ rfl (hW 11 rfl)
                have e13 : V 13 = .bool true := HV 13 _ rfl (hW 13 rfl)
                have e17 : V 17 = .bool false := HV 17 _ rfl (hW 17 rfl)
                have u11 : (upd V 18 (.bool false)) 11 = .bool false := e11
                have u13 : (upd V 18 (.bool false)) 13 = .bool true := e13
                have u17 : (upd V 18 (.bool false)) 17 = .bool false := e17
                have HU := Lib.hid (show (upd V 18 (.bool false)) 11 = .bool false ∧ (upd V 18 (.bool false)) 13 = .bool true ∧ (upd V 18 (.bool false)) 17 = .bool false from ⟨u11, u13, u17⟩)
                clear u11 u13 u17
                have H := Lib.hid (show ∀ W', Ext W W' → K (fr (upd V 18 (.bool false))) W' from fun W' he => hK _ _ ⟨upd V 18 (.bool false), rfl, HS.ext he, HV.up 18 _ (fun x hx => Option.some.inj hx), fun h => Bs.ext (f1 (more_ne h rfl)) he, fun h => Bs.ext (f3 (more_ne h rfl)) he⟩)
                clear hK hC hW hL HV f1 f3
                rw [HFR.out]
                rw [e11, e13, e17]
                clear e11 e13 e17
                go_wp2_with fail
                show K _ _
                have := H.out _ (Ext.refl _)
                rw [HFR.out] at this
                obtain ⟨u11, u13, u17⟩ := HU.out
                rw [u11, u13, u17] at this
                exact this
              · rintro L A W K hL hC hW ⟨V, rfl, HS, HV, f1, f3⟩ hK
                have e11 : V 11 = .bool false := HV 11 _ rfl (hW 11 rfl)
                have e18 : V 18 = .bool false := HV 18 _ rfl (hW 18 rfl)
                have u11 : (upd V 19 (.bool false)) 11 = .bool false := e11
                have u18 : (upd V 19 (.bool false)) 18 = .bool false := e18
                have HU := Lib.hid (show (upd V 19 (.bool false)) 11 = .bool false ∧ (upd V 19 (.bool false)) 18 = .bool false from ⟨u11, u18⟩)
                clear u11 u18
                have H := Lib.hid (show ∀ W', Ext W W' → K (fr (upd V 19 (.bool false))) W' from fun W' he => hK _ _ ⟨upd V 19 (.bool false), rfl, HS.ext he, HV.up 19 _ (fun x hx => Option.some.inj hx), fun h => Bs.ext (f1 (more_ne h rfl)) he, fun h => Bs.ext (f3 (more_ne h rfl)) he⟩)
                clear hK hC hW hL HV f1 f3
                rw [HFR.out]
                rw [e11, e18]
                clear e11 e18
                go_wp2_with fail
                show K _ _
                have := H.out _ (Ext.refl _)
                rw [HFR.out] at this
                obtain ⟨u11, u18⟩ := HU.out
                rw [u11, u18] at this
                exact this
              · rintro L A W K hL hC hW ⟨V, rfl, HS, HV, f1, f3⟩ hK
                have e19 : V 19 = .bool false := HV 19 _ rfl (hW 19 rfl)
                have u19 : (upd V 20 (.bool false)) 19 = .bool false := e19
                have HU := Lib.hid (show (upd V 20 (.bool false)) 19 = .bool false from u19)
                clear u19
                have H := Lib.hid (show ∀ W', Ext W W' → K (fr (upd V 20 (.bool false))) W' from fun W' he => hK _ _ ⟨upd V 20 (.bool false), rfl, HS.ext he, HV.up 20 _ (fun x hx => Option.some.inj hx), fun h => Bs.ext (f1 (more_ne h rfl)) he, fun h => Bs.ext (f3 (more_ne h rfl)) he⟩)
                clear hK hC hW hL HV f1 f3
                rw [HFR.out]
                rw [e19]
                clear e19
                go_wp2_with fail
                show K _ _
                have := H.out _ (Ext.refl _)
                rw [HFR.out] at this
                obtain u19 := HU.out
                rw [u19] at this
                exact this
              · rintro L A W K hL hC hW ⟨V, rfl, HS, HV, f1, f3⟩ hK
                have e20 : V 20 = .bool false := HV 20 _ rfl (hW 20 rfl)
                have u20 : (upd V 21 (.bool true)) 20 = .bool false := e20
                have HU := Lib.hid (show (upd V 21 (.bool true)) 20 = .bool false from u20)
                clear u20
                have H := Lib.hid (show ∀ W', Ext W W' → K (fr (upd V 21 (.bool true))) W' from fun W' he => hK _ _ ⟨upd V 21 (.bool true), rfl, HS.ext he, HV.up 21 _ (fun x hx => Option.some.inj hx), fun h => Bs.ext (f1 (more_ne h rfl)) he, fun h => Bs.ext (f3 (more_ne h rfl)) he⟩)
                clear hK hC hW hL HV f1 f3
                rw [HFR.out]
                rw [e20]
                clear e20
                go_wp2_with fail
                show K _ _
                have := H.out _ (Ext.refl _)
                rw [HFR.out] at this
                obtain u20 := HU.out
                rw [u20] at this
                exact this
              · rintro L A W K hL hC hW ⟨V, rfl, HS, HV, f1, f3⟩ hK
                have e20 : V 20 = .bool false := HV 20 _ rfl (hW 20 rfl)
                have e21 : V 21 = .bool true := HV 21 _ rfl (hW 21 rfl)
                have u20 : (upd V 22 (.bool false)) 20 = .bool false := e20
                have u21 : (upd V 22 (.bool false)) 21 = .bool true := e21
                have HU := Lib.hid (show (upd V 22 (.bool false)) 20 = .bool false ∧ (upd V 22 (.bool false)) 21 = .bool true from ⟨u20, u21⟩)
                clear u20 u21
                have H := Lib.hid (show ∀ W', Ext W W' → K (fr (upd V 22 (.bool false))) W' from fun W' he => hK _ _ ⟨upd V 22 (.bool false), rfl, HS.ext he, HV.up 22 _ (fun x hx => Option.some.inj hx), fun h => Bs.ext (f1 (more_ne h rfl)) he, fun h => Bs.ext (f3 (more_ne h rfl)) he⟩)
                clear hK hC hW hL HV f1 f3
                rw [HFR.out]
                rw [e20, e21]
                clear e20 e21
                go_wp2_with fail
                show K _ _
                have := H.out _ (Ext.refl _)
                rw [HFR.out] at this
                obtain ⟨u20, u21⟩ := HU.out
                rw [u20, u21] at this
                exact this
              · rintro L A W K hL hC hW ⟨V, rfl, HS, HV, f1, f3⟩ hK
                have e20 : V 20 = .bool false := HV 20 _ rfl (hW 20 rfl)
                have e22 : V 22 = .bool false := HV 22 _ rfl (hW 22 rfl)
                have u20 : (upd V 23 (.bool false)) 20 = .bool false := e20
                have u22 : (upd V 23 (.bool false)) 22 = .bool false := e22
                have HU := Lib.hid (show (upd V 23 (.bool false)) 20 = .bool false ∧ (upd V 23 (.bool false)) 22 = .bool false from ⟨u20, u22⟩)
                clear u20 u22
                have H := Lib.hid (show ∀ W', Ext W W' → K (fr (upd V 23 (.bool false))) W' from fun W' he => hK _ _ ⟨upd V 23 (.bool false), rfl, HS.ext he, HV.up 23 _ (fun x hx => Option.some.inj hx), fun h => Bs.ext (f1 (more_ne h rfl)) he, fun h => Bs.ext (f3 (more_ne h rfl)) he⟩)
                clear hK hC hW hL HV f1 f3
                rw [HFR.out]
                rw [e20, e22]
                clear e20 e22
                go_wp2_with fail
                show K _ _
                have := H.out _ (Ext.refl _)
                rw [HFR.out] at this
                obtain ⟨u20, u22⟩ := HU.out
                rw [u20, u22] at this
                exact this
              · rintro L A W K hL hC hW ⟨V, rfl, HS, HV, f1, f3⟩ hK
                have e23 : V 23 = .bool false := HV 23 _ rfl (hW 23 rfl)
                have u23 : (upd V 24 (undef)) 23 = .bool false := e23
                have HU := Lib.hid (show (upd V 24 (undef)) 23 = .bool false from u23)
                clear u23
                have H := Lib.hid (show ∀ W', Ext W W' → K (fr (upd V 24 (undef))) W' from fun W' he => hK _ _ ⟨upd V 24 (undef), rfl, HS.ext he, HV.up 24 _ (fun x hx => Option.some.inj hx), fun h => Bs.ext (f1 (more_ne h rfl)) he, fun h => Bs.ext (f3 (more_ne h rfl)) he⟩)
                clear hK hC hW hL HV f1 f3
                rw [HFR.out]
                rw [e23]
                clear e23
                go_wp2_with fail
                show K _ _
                have := H.out _ (Ext.refl _)
                rw [HFR.out] at this
                obtain u23 := HU.out
                rw [u23] at this
                exact this
              · rintro L A W K hL hC hW ⟨V, rfl, HS, HV, f1, f3⟩ hK
                have e23 : V 23 = .bool false := HV 23 _ rfl (hW 23 rfl)
                have u23 : (upd V 25 (undef)) 23 = .bool false := e23
                have HU := Lib.hid (show (upd V 25 (undef)) 23 = .bool false from u23)
                clear u23
                have H := Lib.hid (show ∀ W', Ext W W' → K (fr (upd V 25 (undef))) W' from fun W' he => hK _ _ ⟨upd V 25 (undef), rfl, HS.ext he, HV.up 25 _ (fun x hx => Option.some.inj hx), fun h => Bs.ext (f1 (more_ne h rfl)) he, fun h => Bs.ext (f3 (more_ne h rfl)) he⟩)
                clear hK hC hW hL HV f1 f3
                rw [HFR.out]
                rw [e23]
                clear e23
                go_wp2_with fail
                show K _ _
                have := H.out _ (Ext.refl _)
                rw [HFR.out] at this
                obtain u23 := HU.out
                rw [u23] at this
                exact this
              · rintro L A W K hL hC hW ⟨V, rfl, HS, HV, f1, f3⟩ hK
                have e20 : V 20 = .bool false := HV 20 _ rfl (hW 20 rfl)
                have e23 : V 23 = .bool false := HV 23 _ rfl (hW 23 rfl)
                have e25 : V 25 = undef := HV 25 _ rfl (hW 25 rfl)
                have u20 : (upd V 26 (.bool false)) 20 = .bool false := e20
                have u23 : (upd V 26 (.bool false)) 23 = .bool false := e23
                have u25 : (upd V 26 (.bool false)) 25 = undef := e25
                have HU := Lib.hid (show (upd V 26 (.bool false)) 20 = .bool false ∧ (upd V 26 (.bool false)) 23 = .bool false ∧ (upd V 26 (.bool false)) 25 = undef from ⟨u20, u23, u25⟩)
                clear u20 u23 u25
                have H := Lib.hid (show ∀ W', Ext W W' → K (fr (upd V 26 (.bool false))) W' from fun W' he => hK _ _ ⟨upd V 26 (.bool false), rfl, HS.ext he, HV.up 26 _ (fun x hx => Option.some.inj hx), fun h => Bs.ext (f1 (more_ne h rfl)) he, fun h => Bs.ext (f3 (more_ne h rfl)) he⟩)
                clear hK hC hW hL HV f1 f3
                rw [HFR.out]
                rw [e20, e23, e25]
                clear e20 e23 e25
                go_wp2_with fail
                show K _ _
                have := H.out _ (Ext.refl _)
                rw [HFR.out] at this
                obtain ⟨u20, u23, u25⟩ := HU.out
                rw [u20, u23, u25] at this
                exact this
              · rintro L A W K hL hC hW ⟨V, rfl, HS, HV, f1, f3⟩ hK
                have e20 : V 20 = .bool false := HV 20 _ rfl (hW 20 rfl)
                have e26 : V 26 = .bool false := HV 26 _ rfl (hW 26 rfl)
                have u20 : (upd V 27 (.bool false)) 20 = .bool false := e20
                have u26 : (upd V 27 (.bool false)) 26 = .bool false := e26
                have HU := Lib.hid (show (upd V 27 (.bool false)) 20 = .bool false ∧ (upd V 27 (.bool false)) 26 = .bool false from ⟨u20, u26⟩)
                clear u20 u26
                have H := Lib.hid (show ∀ W', Ext W W' → K (fr (upd V 27 (.bool false))) W' from fun W' he => hK _ _ ⟨upd V 27 (.bool false), rfl, HS.ext he, HV.up 27 _ (fun x hx => Option.some.inj hx), fun h => Bs.ext (f1 (more_ne h rfl)) he, fun h => Bs.ext (f3 (more_ne h rfl)) he⟩)
                clear hK hC hW hL HV f1 f3
                rw [HFR.out]
                rw [e20, e26]
                clear e20 e26
                go_wp2_with fail
                show K _ _
                have := H.out _ (Ext.refl _)
                rw [HFR.out] at this
                obtain ⟨u20, u26⟩ := HU.out
                rw [u20, u26] at this
                exact this
              · rintro L A W hL ⟨V, rfl, HS, HV, f1, f3⟩
                have e0 : V 0 = wv (x) := HV 0 _ rfl (hL 0 (by simp))
                have e2 : V 2 = wv (x) := HV 2 _ rfl (hL 2 (by simp))
                have e4 : V 4 = .bool true := HV 4 _ rfl (hL 4 (by simp))
                have e5 : V 5 = .bool false := HV 5 _ rfl (hL 5 (by simp))
                have e6 : V 6 = .bool false := HV 6 _ rfl (hL 6 (by simp))
                have e7 : V 7 = .bool true := HV 7 _ rfl (hL 7 (by simp))
                have e8 : V 8 = .bool true := HV 8 _ rfl (hL 8 (by simp))
                have e9 : V 9 = .bool false := HV 9 _ rfl (hL 9 (by simp))
                have e10 : V 10 = .bool false := HV 10 _ rfl (hL 10 (by simp))
                have e11 : V 11 = .bool false := HV 11 _ rfl (hL 11 (by simp))
                have e12 : V 12 = .bool true := HV 12 _ rfl (hL 12 (by simp))
                have e13 : V 13 = .bool true := HV 13 _ rfl (hL 13 (by simp))
                have e14 : V 14 = .int .u64 (lb x 0 : Nat) := HV 14 _ rfl (hL 14 (by simp))
                have e15 : V 15 = .pointer (some ⟨wr.heap.size, 0, none⟩) := HV 15 _ rfl (hL 15 (by simp))
                have e16 : V 16 = .int .u64 (lb x 0 : Nat) := HV 16 _ rfl (hL 16 (by simp))
                have e17 : V 17 = .bool false := HV 17 _ rfl (hL 17 (by simp))
                have e18 : V 18 = .bool false := HV 18 _ rfl (hL 18 (by simp))
                have e19 : V 19 = .bool false := HV 19 _ rfl (hL 19 (by simp))
                have e20 : V 20 = .bool false := HV 20 _ rfl (hL 20 (by simp))
                have e21 : V 21 = .bool true := HV 21 _ rfl (hL 21 (by simp))
                have e22 : V 22 = .bool false := HV 22 _ rfl (hL 22 (by simp))
                have e23 : V 23 = .bool false := HV 23 _ rfl (hL 23 (by simp))
                have e24 : V 24 = undef := HV 24 _ rfl (hL 24 (by simp))
                have e25 : V 25 = undef := HV 25 _ rfl (hL 25 (by simp))
                have e26 : V 26 = .bool false := HV 26 _ rfl (hL 26 (by simp))
                have e27 : V 27 = .bool false := HV 27 _ rfl (hL 27 (by simp))
                have q51 := f1 (hL 1 (by simp))
                have q53 := f3 (hL 3 (by simp))
                rw [HFR.out]
                rw [e0, e2, e4, e5, e6, e7, e8, e9, e10, e11, e12, e13, e14, e15, e16, e17, e18, e19, e20, e21, e22, e23, e24, e25, e26, e27]
                clear hL HV e0 e2 e4 e5 e6 e7 e8 e9 e10 e11 e12 e13 e14 e15 e16 e17 e18 e19 e20 e21 e22 e23 e24 e25 e26 e27 f1 f3
                have HE := Lib.hid HS.2
                clear HFR HS
                go_wp2_with fail
                go_roundw
                case rel => exact ⟨k + 1, by omega, by omega, by go_num, HE⟩
                case measure => simp [intOf]; omega
            · have d3 : (((lb x 3 : Nat) : Int) == 0) = false := by simp only [beq_eq_false_iff_ne]; omega
              have hs : isSmall x = false := by rw [hsi]; simp [z3]
              rw [small_not x hs, hs]
              clear hsi z1 z2 z3 hs
              go_wp2_with fail
              refine wp_named fun a0 ha0 => ?_
              obtain ⟨fr, hfr⟩ : ∃ fr : (Nat → Value) → Act, ∀ V, fr V = ((((((((((((((((((((((((((((a0.put (some 50) (V 0)).put (some 51) (V 1)).put (some 52) (V 2)).put (some 53) (V 3)).put (some 54) (V 4)).put (some 55) (V 5)).put (some 56) (V 6)).put (some 57) (V 7)).put (some 58) (V 8)).put (some 59) (V 9)).put (some 60) (V 10)).put (some 61) (V 11)).put (some 62) (V 12)).put (some 63) (V 13)).put (some 64) (V 14)).put (some 65) (V 15)).put (some 66) (V 16)).put (some 67) (V 17)).put (some 68) (V 18)).put (some 69) (V 19)).put (some 70) (V 20)).put (some 71) (V 21)).put (some 72) (V 22)).put (some 73) (V 23)).put (some 74) (V 24)).put (some 75) (V 25)).put (some 76) (V 26)).put (some 77) (V 27)) := ⟨fun V => ((((((((((((((((((((((((((((a0.put (some 50) (V 0)).put (some 51) (V 1)).put (some 52) (V 2)).put (some 53) (V 3)).put (some 54) (V 4)).put (some 55) (V 5)).put (some 56) (V 6)).put (some 57) (V 7)).put (some 58) (V 8)).put (some 59) (V 9)).put (some 60) (V 10)).put (some 61) (V 11)).put (some 62) (V 12)).put (some 63) (V 13)).put (some 64) (V 14)).put (some 65) (V 15)).put (some 66) (V 16)).put (some 67) (V 17)).put (some 68) (V 18)).put (some 69) (V 19)).put (some 70) (V 20)).put (some 71) (V 21)).put (some 72) (V 22)).put (some 73) (V 23)).put (some 74) (V 24)).put (some 75) (V 25)).put (some 76) (V 26)).put (some 77) (V 27)), fun _ => rfl⟩
              rw [ha0] at hfr
              simp only [Act.put, List.setIfInBounds_toArray, List.set_cons_zero, List.set_cons_succ] at hfr
              have HFR := Lib.hid hfr
              clear hfr
              refine wp_region_inv (by kernel_rfl) (by kernel_rfl) (fun L A W => ∃ V : Nat → Value, A = fr V ∧ Ks w [(wr.heap.size, x)] W ∧ Vals (fun j => ([some (wv (x)), none, some (wv (x)), none, some (.bool true), some (.bool false), some (.bool false), some (.bool false), some (.bool false), some (.bool false), some (.bool false), some (.bool false), some (.bool false), some (.bool false), some (undef), some (undef), some (undef), some (undef), some (.bool false), some (.bool false), some (.bool false), some (.bool false), some (.bool true), some (.bool true), some (.int .u64 0), some (.bool false), some (.bool false), some (.bool false)] : List (Option Value)).getD j none) L V ∧ (L 1 = true → Bs W (V 1) (bytL x (List.range 32))) ∧ (L 3 = true → Bs W (V 3) (bytL x (List.range 32)))) ?_ ⟨?_, ?_, ?_, ?_, ?_, ?_, ?_, ?_, ?_, ?_, ?_, ?_, ?_, ?_, ?_, ?_, ?_, ?_, ?_, ?_, ?_, ?_, ?_, ?_, ?_, ?_, ?_, ?_, trivial⟩ ?_
              · refine ⟨fun j => a0.tmps.getD (([50, 51, 52, 53, 54, 55, 56, 57, 58, 59, 60, 61, 62, 63, 64, 65, 66, 67, 68, 69, 70, 71, 72, 73, 74, 75, 76, 77] : List Nat).getD j 0) undef, ?_, HS.drew, Vals.no _ _ _ (far_none _ _ rfl), fun h => absurd h (by decide), fun h => absurd h (by decide)⟩
                rw [HFR.out, ha0]
                rfl
              all_goals clear ha0
              · rintro L A W K hL hC hW ⟨V, rfl, HS, HV, f1, f3⟩ hK
                have H := Lib.hid (show ∀ W', Ext W W' → K (fr (upd V 0 (wv (x)))) W' from fun W' he => hK _ _ ⟨upd V 0 (wv (x)), rfl, HS.ext he, HV.up 0 _ (fun x hx => Option.some.inj hx), fun h => Bs.ext (f1 (more_ne h rfl)) he, fun h => Bs.ext (f3 (more_ne h rfl)) he⟩)
                clear hK hC hW hL HV f1 f3
                rw [HFR.out]
                refine wpList_load_wordG rfl 27 25 (.tmp 8) rfl Try.underlying27 winfo (wr.heap.size) (x) rfl (HS.at (wr.heap.size) (x) (by simp)) ?_
                show K _ _
                have := H.out _ (Ext.refl _)
                rw [HFR.out] at this
                exact this
              · rintro L A W K hL hC hW ⟨V, rfl, HS, HV, f1, f3⟩ hK
                have e0 : V 0 = wv (x) := HV 0 _ rfl (hW 0 rfl)
                have H := Lib.hid (show ∀ v W', Ext W W' → Bs W' v (bytL x (List.range 32)) → K (fr (upd V 1 v)) W' from fun v W' he hp => hK _ _ ⟨upd V 1 v, rfl, HS.ext he, HV.up 1 _ (fun x hx => absurd hx (by intro h; cases h)), fun _ => hp, fun h => Bs.ext (f3 (more_ne h rfl)) he⟩)
                have HU := Lib.hid (show ∀ v, (upd V 1 v) 0 = wv (x) from fun v => e0)
                clear hK hC hW hL HV f1 f3
                rw [HFR.out]
                rw [e0]
                clear e0
                go_wp2_with fail
                refine (bytes_any x _).mono ?_
                rintro e wx ⟨vx, rfl, ho, he⟩
                have := H.out _ _ he (ho.bs)
                clear H
                go_wp2_with fail
                show K _ _
                rw [HFR.out] at this
                obtain u0 := HU.out _
                rw [u0] at this
                exact this
              · rintro L A W K hL hC hW ⟨V, rfl, HS, HV, f1, f3⟩ hK
                have H := Lib.hid (show ∀ W', Ext W W' → K (fr (upd V 2 (wv (x)))) W' from fun W' he => hK _ _ ⟨upd V 2 (wv (x)), rfl, HS.ext he, HV.up 2 _ (fun x hx => Option.some.inj hx), fun h => Bs.ext (f1 (more_ne h rfl)) he, fun h => Bs.ext (f3 (more_ne h rfl)) he⟩)
                clear hK hC hW hL HV f1 f3
                rw [HFR.out]
                refine wpList_load_wordG rfl 27 25 (.tmp 8) rfl Try.underlying27 winfo (wr.heap.size) (x) rfl (HS.at (wr.heap.size) (x) (by simp)) ?_
                show K _ _
                have := H.out _ (Ext.refl _)
                rw [HFR.out] at this
                exact this
              · rintro L A W K hL hC hW ⟨V, rfl, HS, HV, f1, f3⟩ hK
                have e2 : V 2 = wv (x) := HV 2 _ rfl (hW 2 rfl)
                have H := Lib.hid (show ∀ v W', Ext W W' → Bs W' v (bytL x (List.range 32)) → K (fr (upd V 3 v)) W' from fun v W' he hp => hK _ _ ⟨upd V 3 v, rfl, HS.ext he, HV.up 3 _ (fun x hx => absurd hx (by intro h; cases h)), fun h => Bs.ext (f1 (more_ne h rfl)) he, fun _ => hp⟩)
                have HU := Lib.hid (show ∀ v, (upd V 3 v) 2 = wv (x) from fun v => e2)
                clear hK hC hW hL HV f1 f3
                rw [HFR.out]
                rw [e2]
                clear e2
                go_wp2_with fail
                refine (refBytes_any x _).mono ?_
                rintro e wx ⟨vx, rfl, ho, he⟩
                have := H.out _ _ he (ho.bs)
                clear H
                go_wp2_with fail
                show K _ _
                rw [HFR.out] at this
                obtain u2 := HU.out _
                rw [u2] at this
                exact this
              · rintro L A W K hL hC hW ⟨V, rfl, HS, HV, f1, f3⟩ hK
                have b1 := f1 (hW 1 rfl)
                have b2 := f3 (hW 3 rfl)
                have H := Lib.hid (show ∀ W', Ext W W' → K (fr (upd V 4 (.bool true))) W' from fun W' he => hK _ _ ⟨upd V 4 (.bool true), rfl, HS.ext he, HV.up 4 _ (fun x hx => Option.some.inj hx), fun h => Bs.ext (f1 (more_ne h rfl)) he, fun h => Bs.ext (f3 (more_ne h rfl)) he⟩)
                clear hK hC hW hL HV f1 f3
                rw [HFR.out]
                go_wp2_with fail
                refine (bytesEqual_same _ _ _ _ b1 b2).mono ?_
                rintro e wx ⟨rfl, he⟩
                have := H.out _ he
                clear H
                go_wp2_with fail
                show K _ _
                rw [HFR.out] at this
                exact this
              · rintro L A W K hL hC hW ⟨V, rfl, HS, HV, f1, f3⟩ hK
                have e4 : V 4 = .bool true := HV 4 _ rfl (hW 4 rfl)
                have u4 : (upd V 5 (.bool false)) 4 = .bool true := e4
                have HU := Lib.hid (show (upd V 5 (.bool false)) 4 = .bool true from u4)
                clear u4
                have H := Lib.hid (show ∀ W', Ext W W' → K (fr (upd V 5 (.bool false))) W' from fun W' he => hK _ _ ⟨upd V 5 (.bool false), rfl, HS.ext he, HV.up 5 _ (fun x hx => Option.some.inj hx), fun h => Bs.ext (f1 (more_ne h rfl)) he, fun h => Bs.ext (f3 (more_ne h rfl)) he⟩)
                clear hK hC hW hL HV f1 f3
                rw [HFR.out]
                rw [e4]
                clear e4
                go_wp2_with fail
                show K _ _
                have := H.out _ (Ext.refl _)
                rw [HFR.out] at this
                obtain u4 := HU.out
                rw [u4] at this
                exact this
              · rintro L A W K hL hC hW ⟨V, rfl, HS, HV, f1, f3⟩ hK
                have e5 : V 5 = .bool false := HV 5 _ rfl (hW 5 rfl)
                have u5 : (upd V 6 (.bool false)) 5 = .bool false := e5
                have HU := Lib.hid (show (upd V 6 (.bool false)) 5 = .bool false from u5)
                clear u5
                have H := Lib.hid (show ∀ W', Ext W W' → K (fr (upd V 6 (.bool false))) W' from fun W' he => hK _ _ ⟨upd V 6 (.bool false), rfl, HS.ext he, HV.up 6 _ (fun x hx => Option.some.inj hx), fun h => Bs.ext (f1 (more_ne h rfl)) he, fun h => Bs.ext (f3 (more_ne h rfl)) he⟩)
                clear hK hC hW hL HV f1 f3
                rw [HFR.out]
                rw [e5]
                clear e5
                go_wp2_with fail
                show K _ _
                have := H.out _ (Ext.refl _)
                rw [HFR.out] at this
                obtain u5 := HU.out
                rw [u5] at this
                exact this
              · rintro L A W K hL hC hW ⟨V, rfl, HS, HV, f1, f3⟩ hK
                have e6 : V 6 = .bool false := HV 6 _ rfl (hW 6 rfl)
                have u6 : (upd V 7 (.bool false)) 6 = .bool false := e6
                have HU := Lib.hid (show (upd V 7 (.bool false)) 6 = .bool false from u6)
                clear u6
                have H := Lib.hid (show ∀ W', Ext W W' → K (fr (upd V 7 (.bool false))) W' from fun W' he => hK _ _ ⟨upd V 7 (.bool false), rfl, HS.ext he, HV.up 7 _ (fun x hx => Option.some.inj hx), fun h => Bs.ext (f1 (more_ne h rfl)) he, fun h => Bs.ext (f3 (more_ne h rfl)) he⟩)
                clear hK hC hW hL HV f1 f3
                rw [HFR.out]
                rw [e6]
                clear e6
                go_wp2_with fail
                show K _ _
                have := H.out _ (Ext.refl _)
                rw [HFR.out] at this
                obtain u6 := HU.out
                rw [u6] at this
                exact this
              · rintro L A W K hL hC hW ⟨V, rfl, HS, HV, f1, f3⟩ hK
                have e6 : V 6 = .bool false := HV 6 _ rfl (hW 6 rfl)
                have u6 : (upd V 8 (.bool false)) 6 = .bool false := e6
                have HU := Lib.hid (show (upd V 8 (.bool false)) 6 = .bool false from u6)
                clear u6
                have H := Lib.hid (show ∀ W', Ext W W' → K (fr (upd V 8 (.bool false))) W' from fun W' he => hK _ _ ⟨upd V 8 (.bool false), rfl, HS.ext he, HV.up 8 _ (fun x hx => Option.some.inj hx), fun h => Bs.ext (f1 (more_ne h rfl)) he, fun h => Bs.ext (f3 (more_ne h rfl)) he⟩)
                clear hK hC hW hL HV f1 f3
                rw [HFR.out]
                rw [e6]
                clear e6
                go_wp2_with fail
                show K _ _
                have := H.out _ (Ext.refl _)
                rw [HFR.out] at this
                obtain u6 := HU.out
                rw [u6] at this
                exact this
              · rintro L A W K hL hC hW ⟨V, rfl, HS, HV, f1, f3⟩ hK
                have e6 : V 6 = .bool false := HV 6 _ rfl (hW 6 rfl)
                have e7 : V 7 = .bool false := HV 7 _ rfl (hW 7 rfl)
                have e8 : V 8 = .bool false := HV 8 _ rfl (hW 8 rfl)
                have u6 : (upd V 9 (.bool false)) 6 = .bool false := e6
                have u7 : (upd V 9 (.bool false)) 7 = .bool false := e7
                have u8 : (upd V 9 (.bool false)) 8 = .bool false := e8
                have HU := Lib.hid (show (upd V 9 (.bool false)) 6 = .bool false ∧ (upd V 9 (.bool false)) 7 = .bool false ∧ (upd V 9 (.bool false)) 8 = .bool false from ⟨u6, u7, u8⟩)
                clear u6 u7 u8
                have H := Lib.hid (show ∀ W', Ext W W' → K (fr (upd V 9 (.bool false))) W' from fun W' he => hK _ _ ⟨upd V 9 (.bool false), rfl, HS.ext he, HV.up 9 _ (fun x hx => Option.some.inj hx), fun h => Bs.ext (f1 (more_ne h rfl)) he, fun h => Bs.ext (f3 (more_ne h rfl)) he⟩)
                clear hK hC hW hL HV f1 f3
                rw [HFR.out]
                rw [e6, e7, e8]
                clear e6 e7 e8
                go_wp2_with fail
                show K _ _
                have := H.out _ (Ext.refl _)
                rw [HFR.out] at this
                obtain ⟨u6, u7, u8⟩ := HU.out
                rw [u6, u7, u8] at this
                exact this
              · rintro L A W K hL hC hW ⟨V, rfl, HS, HV, f1, f3⟩ hK
                have e6 : V 6 = .bool false := HV 6 _ rfl (hW 6 rfl)
                have e9 : V 9 = .bool false := HV 9 _ rfl (hW 9 rfl)
                have u6 : (upd V 10 (.bool false)) 6 = .bool false := e6
                have u9 : (upd V 10 (.bool false)) 9 = .bool false := e9
                have HU := Lib.hid (show (upd V 10 (.bool false)) 6 = .bool false ∧ (upd V 10 (.bool false)) 9 = .bool false from ⟨u6, u9⟩)
                clear u6 u9
                have H := Lib.hid (show ∀ W', Ext W W' → K (fr (upd V 10 (.bool false))) W' from fun W' he => hK _ _ ⟨upd V 10 (.bool false), rfl, HS.ext he, HV.up 10 _ (fun x hx => Option.some.inj hx), fun h => Bs.ext (f1 (more_ne h rfl)) he, fun h => Bs.ext (f3 (more_ne h rfl)) he⟩)
                clear hK hC hW hL HV f1 f3
                rw [HFR.out]
                rw [e6, e9]
                clear e6 e9
                go_wp2_with fail
                show K _ _
                have := H.out _ (Ext.refl _)
                rw [HFR.out] at this
                obtain ⟨u6, u9⟩ := HU.out
                rw [u6, u9] at this
                exact this
              · rintro L A W K hL hC hW ⟨V, rfl, HS, HV, f1, f3⟩ hK
                have e10 : V 10 = .bool false := HV 10 _ rfl (hW 10 rfl)
                have u10 : (upd V 11 (.bool false)) 10 = .bool false := e10
                have HU := Lib.hid (show (upd V 11 (.bool false)) 10 = .bool false from u10)
                clear u10
                have H := Lib.hid (show ∀ W', Ext W W' → K (fr (upd V 11 (.bool false))) W' from fun W' he => hK _ _ ⟨upd V 11 (.bool false), rfl, HS.ext he, HV.up 11 _ (fun x hx => Option.some.inj hx), fun h => Bs.ext (f1 (more_ne h rfl)) he, fun h => Bs.ext (f3 (more_ne h rfl)) he⟩)
                clear hK hC hW hL HV f1 f3
                rw [HFR.out]
                rw [e10]
                clear e10
                go_wp2_with fail
                show K _ _
                have := H.out _ (Ext.refl _)
                rw [HFR.out] at this
                obtain u10 := HU.out
                rw [u10] at this
                exact this
              · rintro L A W K hL hC hW ⟨V, rfl, HS, HV, f1, f3⟩ hK
                have e11 : V 11 = .bool false := HV 11 _ rfl (hW 11 rfl)
                have u11 : (upd V 12 (.bool false)) 11 = .bool false := e11
                have HU := Lib.hid (show (upd V 12 (.bool false)) 11 = .bool false from u11)
                clear u11
                have H := Lib.hid (show ∀ W', Ext W W' → K (fr (upd V 12 (.bool false))) W' from fun W' he => hK _ _ ⟨upd V 12 (.bool false), rfl, HS.ext he, HV.up 12 _ (fun x hx => Option.some.inj hx), fun h => Bs.ext (f1 (more_ne h rfl)) he, fun h => Bs.ext (f3 (more_ne h rfl)) he⟩)
                clear hK hC hW hL HV f1 f3
                rw [HFR.out]
                rw [e11]
                clear e11
                go_wp2_with fail
                show K _ _
                have := H.out _ (Ext.refl _)
                rw [HFR.out] at this
                obtain u11 := HU.out
                rw [u11] at this
                exact this
              · rintro L A W K hL hC hW ⟨V, rfl, HS, HV, f1, f3⟩ hK
                have e11 : V 11 = .bool false := HV 11 _ rfl (hW 11 rfl)
                have e12 : V 12 = .bool false := HV 12 _ rfl (hW 12 rfl)
                have u11 : (upd V 13 (.bool false)) 11 = .bool false := e11
                have u12 : (upd V 13 (.bool false)) 12 = .bool false := e12
                have HU := Lib.hid (show (upd V 13 (.bool false)) 11 = .bool false ∧ (upd V 13 (.bool false)) 12 = .bool false from ⟨u11, u12⟩)
                clear u11 u12
                have H := Lib.hid (show ∀ W', Ext W W' → K (fr (upd V 13 (.bool false))) W' from fun W' he => hK _ _ ⟨upd V 13 (.bool false), rfl, HS.ext he, HV.up 13 _ (fun x hx => Option.some.inj hx), fun h => Bs.ext (f1 (more_ne h rfl)) he, fun h => Bs.ext (f3 (more_ne h rfl)) he⟩)
                clear hK hC hW hL HV f1 f3
                rw [HFR.out]
                rw [e11, e12]
                clear e11 e12
                go_wp2_with fail
                show K _ _
                have := H.out _ (Ext.refl _)
                rw [HFR.out] at this
                obtain ⟨u11, u12⟩ := HU.out
                rw [u11, u12] at this
                exact this
              · rintro L A W K hL hC hW ⟨V, rfl, HS, HV, f1, f3⟩ hK
                have e13 : V 13 = .bool false := HV 13 _ rfl (hW 13 rfl)
                have u13 : (upd V 14 (undef)) 13 = .bool false := e13
                have HU := Lib.hid (show (upd V 14 (undef)) 13 = .bool false from u13)
                clear u13
                have H := Lib.hid (show ∀ W', Ext W W' → K (fr (upd V 14 (undef))) W' from fun W' he => hK _ _ ⟨upd V 14 (undef), rfl, HS.ext he, HV.up 14 _ (fun x hx => Option.some.inj hx), fun h => Bs.ext (f1 (more_ne h rfl)) he, fun h => Bs.ext (f3 (more_ne h rfl)) he⟩)
                clear hK hC hW hL HV f1 f3
                rw [HFR.out]
                rw [e13]
                clear e13
                go_wp2_with fail
                show K _ _
                have := H.out _ (Ext.refl _)
                rw [HFR.out] at this
                obtain u13 := HU.out
                rw [u13] at this
                exact this
              · rintro L A W K hL hC hW ⟨V, rfl, HS, HV, f1, f3⟩ hK
                have e13 : V 13 = .bool false := HV 13 _ rfl (hW 13 rfl)
                have u13 : (upd V 15 (undef)) 13 = .bool false := e13
                have HU := Lib.hid (show (upd V 15 (undef)) 13 = .bool false from u13)
                clear u13
                have H := Lib.hid (show ∀ W', Ext W W' → K (fr (upd V 15 (undef))) W' from fun W' he => hK _ _ ⟨upd V 15 (undef), rfl, HS.ext he, HV.up 15 _ (fun x hx => Option.some.inj hx), fun h => Bs.ext (f1 (more_ne h rfl)) he, fun h => Bs.ext (f3 (more_ne h rfl)) he⟩)
                clear hK hC hW hL HV f1 f3
                rw [HFR.out]
                rw [e13]
                clear e13
                go_wp2_with fail
                show K _ _
                have := H.out _ (Ext.refl _)
                rw [HFR.out] at this
                obtain u13 := HU.out
                rw [u13] at this
                exact this
              · rintro L A W K hL hC hW ⟨V, rfl, HS, HV, f1, f3⟩ hK
                have e13 : V 13 = .bool false := HV 13 _ rfl (hW 13 rfl)
                have u13 : (upd V 16 (undef)) 13 = .bool false := e13
                have HU := Lib.hid (show (upd V 16 (undef)) 13 = .bool false from u13)
                clear u13
                have H := Lib.hid (show ∀ W', Ext W W' → K (fr (upd V 16 (undef))) W' from fun W' he => hK _ _ ⟨upd V 16 (undef), rfl, HS.ext he, HV.up 16 _ (fun x hx => Option.some.inj hx), fun h => Bs.ext (f1 (more_ne h rfl)) he, fun h => Bs.ext (f3 (more_ne h rfl)) he⟩)
                clear hK hC hW hL HV f1 f3
                rw [HFR.out]
                rw [e13]
                clear e13
                go_wp2_with fail
                show K _ _
                have := H.out _ (Ext.refl _)
                rw [HFR.out] at this
                obtain u13 := HU.out
                rw [u13] at this
                exact this
              · rintro L A W K hL hC hW ⟨V, rfl, HS, HV, f1, f3⟩ hK
                have e13 : V 13 = .bool false := HV 13 _ rfl (hW 13 rfl)
                have u13 : (upd V 17 (undef)) 13 = .bool false := e13
                have HU := Lib.hid (show (upd V 17 (undef)) 13 = .bool false from u13)
                clear u13
                have H := Lib.hid (show ∀ W', Ext W W' → K (fr (upd V 17 (undef))) W' from fun W' he => hK _ _ ⟨upd V 17 (undef), rfl, HS.ext he, HV.up 17 _ (fun x hx => Option.some.inj hx), fun h => Bs.ext (f1 (more_ne h rfl)) he, fun h => Bs.ext (f3 (more_ne h rfl)) he⟩)
                clear hK hC hW hL HV f1 f3
                rw [HFR.out]
                rw [e13]
                clear e13
                go_wp2_with fail
                show K _ _
                have := H.out _ (Ext.refl _)
                rw [HFR.out] at this
                obtain u13 := HU.out
                rw [u13] at this
                exact this
              · rintro L A W K hL hC hW ⟨V, rfl, HS, HV, f1, f3⟩ hK
                have e11 : V 11 = .bool false := HV 11 _ rfl (hW 11 rfl)
                have e13 : V 13 = .bool false := HV 13 _ rfl (hW 13 rfl)
                have e17 : V 17 = undef := HV 17 _ rfl (hW 17 rfl)
                have u11 : (upd V 18 (.bool false)) 11 = .bool false := e11
                have u13 : (upd V 18 (.bool false)) 13 = .bool false := e13
                have u17 : (upd V 18 (.bool false)) 17 = undef := e17
                have HU := Lib.hid (show (upd V 18 (.bool false)) 11 = .bool false ∧ (upd V 18 (.bool false)) 13 = .bool false ∧ (upd V 18 (.bool false)) 17 = undef from ⟨u11, u13, u17⟩)
                clear u11 u13 u17
                have H := Lib.hid (show ∀ W', Ext W W' → K (fr (upd V 18 (.bool false))) W' from fun W' he => hK _ _ ⟨upd V 18 (.bool false), rfl, HS.ext he, HV.up 18 _ (fun x hx => Option.some.inj hx), fun h => Bs.ext (f1 (more_ne h rfl)) he, fun h => Bs.ext (f3 (more_ne h rfl)) he⟩)
                clear hK hC hW hL HV f1 f3
                rw [HFR.out]
                rw [e11, e13, e17]
                clear e11 e13 e17
                go_wp2_with fail
                show K _ _
                have := H.out _ (Ext.refl _)
                rw [HFR.out] at this
                obtain ⟨u11, u13, u17⟩ := HU.out
                rw [u11, u13, u17] at this
                exact this
              · rintro L A W K hL hC hW ⟨V, rfl, HS, HV, f1, f3⟩ hK
                have e11 : V 11 = .bool false := HV 11 _ rfl (hW 11 rfl)
                have e18 : V 18 = .bool false := HV 18 _ rfl (hW 18 rfl)
                have u11 : (upd V 19 (.bool false)) 11 = .bool false := e11
                have u18 : (upd V 19 (.bool false)) 18 = .bool false := e18
                have HU := Lib.hid (show (upd V 19 (.bool false)) 11 = .bool false ∧ (upd V 19 (.bool false)) 18 = .bool false from ⟨u11, u18⟩)
                clear u11 u18
                have H := Lib.hid (show ∀ W', Ext W W' → K (fr (upd V 19 (.bool false))) W' from fun W' he => hK _ _ ⟨upd V 19 (.bool false), rfl, HS.ext he, HV.up 19 _ (fun x hx => Option.some.inj hx), fun h => Bs.ext (f1 (more_ne h rfl)) he, fun h => Bs.ext (f3 (more_ne h rfl)) he⟩)
                clear hK hC hW hL HV f1 f3
                rw [HFR.out]
                rw [e11, e18]
                clear e11 e18
                go_wp2_with fail
                show K _ _
                have := H.out _ (Ext.refl _)
                rw [HFR.out] at this
                obtain ⟨u11, u18⟩ := HU.out
                rw [u11, u18] at this
                exact this
              · rintro L A W K hL hC hW ⟨V, rfl, HS, HV, f1, f3⟩ hK
                have e19 : V 19 = .bool false := HV 19 _ rfl (hW 19 rfl)
                have u19 : (upd V 20 (.bool false)) 19 = .bool false := e19
                have HU := Lib.hid (show (upd V 20 (.bool false)) 19 = .bool false from u19)
                clear u19
                have H := Lib.hid (show ∀ W', Ext W W' → K (fr (upd V 20 (.bool false))) W' from fun W' he => hK _ _ ⟨upd V 20 (.bool false), rfl, HS.ext he, HV.up 20 _ (fun x hx => Option.some.inj hx), fun h => Bs.ext (f1 (more_ne h rfl)) he, fun h => Bs.ext (f3 (more_ne h rfl)) he⟩)
                clear hK hC hW hL HV f1 f3
                rw [HFR.out]
                rw [e19]
                clear e19
                go_wp2_with fail
                show K _ _
                have := H.out _ (Ext.refl _)
                rw [HFR.out] at this
                obtain u19 := HU.out
                rw [u19] at this
                exact this
              · rintro L A W K hL hC hW ⟨V, rfl, HS, HV, f1, f3⟩ hK
                have e20 : V 20 = .bool false := HV 20 _ rfl (hW 20 rfl)
                have u20 : (upd V 21 (.bool false)) 20 = .bool false := e20
                have HU := Lib.hid (show (upd V 21 (.bool false)) 20 = .bool false from u20)
                clear u20
                have H := Lib.hid (show ∀ W', Ext W W' → K (fr (upd V 21 (.bool false))) W' from fun W' he => hK _ _ ⟨upd V 21 (.bool false), rfl, HS.ext he, HV.up 21 _ (fun x hx => Option.some.inj hx), fun h => Bs.ext (f1 (more_ne h rfl)) he, fun h => Bs.ext (f3 (more_ne h rfl)) he⟩)
                clear hK hC hW hL HV f1 f3
                rw [HFR.out]
                rw [e20]
                clear e20
                go_wp2_with fail
                show K _ _
                have := H.out _ (Ext.refl _)
                rw [HFR.out] at this
                obtain u20 := HU.out
                rw [u20] at this
                exact this
              · rintro L A W K hL hC hW ⟨V, rfl, HS, HV, f1, f3⟩ hK
                have e20 : V 20 = .bool false := HV 20 _ rfl (hW 20 rfl)
                have e21 : V 21 = .bool false := HV 21 _ rfl (hW 21 rfl)
                have u20 : (upd V 22 (.bool true)) 20 = .bool false := e20
                have u21 : (upd V 22 (.bool true)) 21 = .bool false := e21
                have HU := Lib.hid (show (upd V 22 (.bool true)) 20 = .bool false ∧ (upd V 22 (.bool true)) 21 = .bool false from ⟨u20, u21⟩)
                clear u20 u21
                have H := Lib.hid (show ∀ W', Ext W W' → K (fr (upd V 22 (.bool true))) W' from fun W' he => hK _ _ ⟨upd V 22 (.bool true), rfl, HS.ext he, HV.up 22 _ (fun x hx => Option.some.inj hx), fun h => Bs.ext (f1 (more_ne h rfl)) he, fun h => Bs.ext (f3 (more_ne h rfl)) he⟩)
                clear hK hC hW hL HV f1 f3
                rw [HFR.out]
                rw [e20, e21]
                clear e20 e21
                go_wp2_with fail
                show K _ _
                have := H.out _ (Ext.refl _)
                rw [HFR.out] at this
                obtain ⟨u20, u21⟩ := HU.out
                rw [u20, u21] at this
                exact this
              · rintro L A W K hL hC hW ⟨V, rfl, HS, HV, f1, f3⟩ hK
                have e20 : V 20 = .bool false := HV 20 _ rfl (hW 20 rfl)
                have e22 : V 22 = .bool true := HV 22 _ rfl (hW 22 rfl)
                have u20 : (upd V 23 (.bool true)) 20 = .bool false := e20
                have u22 : (upd V 23 (.bool true)) 22 = .bool true := e22
                have HU := Lib.hid (show (upd V 23 (.bool true)) 20 = .bool false ∧ (upd V 23 (.bool true)) 22 = .bool true from ⟨u20, u22⟩)
                clear u20 u22
                have H := Lib.hid (show ∀ W', Ext W W' → K (fr (upd V 23 (.bool true))) W' from fun W' he => hK _ _ ⟨upd V 23 (.bool true), rfl, HS.ext he, HV.up 23 _ (fun x hx => Option.some.inj hx), fun h => Bs.ext (f1 (more_ne h rfl)) he, fun h => Bs.ext (f3 (more_ne h rfl)) he⟩)
                clear hK hC hW hL HV f1 f3
                rw [HFR.out]
                rw [e20, e22]
                clear e20 e22
                go_wp2_with fail
                show K _ _
                have := H.out _ (Ext.refl _)
                rw [HFR.out] at this
                obtain ⟨u20, u22⟩ := HU.out
                rw [u20, u22] at this
                exact this
              · rintro L A W K hL hC hW ⟨V, rfl, HS, HV, f1, f3⟩ hK
                have e23 : V 23 = .bool true := HV 23 _ rfl (hW 23 rfl)
                have u23 : (upd V 24 (.int .u64 0)) 23 = .bool true := e23
                have HU := Lib.hid (show (upd V 24 (.int .u64 0)) 23 = .bool true from u23)
                clear u23
                have H := Lib.hid (show ∀ W', Ext W W' → K (fr (upd V 24 (.int .u64 0))) W' from fun W' he => hK _ _ ⟨upd V 24 (.int .u64 0), rfl, HS.ext he, HV.up 24 _ (fun x hx => Option.some.inj hx), fun h => Bs.ext (f1 (more_ne h rfl)) he, fun h => Bs.ext (f3 (more_ne h rfl)) he⟩)
                clear hK hC hW hL HV f1 f3
                rw [HFR.out]
                rw [e23]
                clear e23
                go_wp2_with fail
                show K _ _
                have := H.out _ (Ext.refl _)
                rw [HFR.out] at this
                obtain u23 := HU.out
                rw [u23] at this
                exact this
              · rintro L A W K hL hC hW ⟨V, rfl, HS, HV, f1, f3⟩ hK
                have e23 : V 23 = .bool true := HV 23 _ rfl (hW 23 rfl)
                have e24 : V 24 = .int .u64 0 := HV 24 _ rfl (hW 24 rfl)
                have u23 : (upd V 25 (.bool false)) 23 = .bool true := e23
                have u24 : (upd V 25 (.bool false)) 24 = .int .u64 0 := e24
                have HU := Lib.hid (show (upd V 25 (.bool false)) 23 = .bool true ∧ (upd V 25 (.bool false)) 24 = .int .u64 0 from ⟨u23, u24⟩)
                clear u23 u24
                have H := Lib.hid (show ∀ W', Ext W W' → K (fr (upd V 25 (.bool false))) W' from fun W' he => hK _ _ ⟨upd V 25 (.bool false), rfl, HS.ext he, HV.up 25 _ (fun x hx => Option.some.inj hx), fun h => Bs.ext (f1 (more_ne h rfl)) he, fun h => Bs.ext (f3 (more_ne h rfl)) he⟩)
                clear hK hC hW hL HV f1 f3
                rw [HFR.out]
                rw [e23, e24]
                clear e23 e24
                go_wp2_with fail
                show K _ _
                have := H.out _ (Ext.refl _)
                rw [HFR.out] at this
                obtain ⟨u23, u24⟩ := HU.out
                rw [u23, u24] at this
                exact this
              · rintro L A W K hL hC hW ⟨V, rfl, HS, HV, f1, f3⟩ hK
                have e20 : V 20 = .bool false := HV 20 _ rfl (hW 20 rfl)
                have e23 : V 23 = .bool true := HV 23 _ rfl (hW 23 rfl)
                have e25 : V 25 = .bool false := HV 25 _ rfl (hW 25 rfl)
                have u20 : (upd V 26 (.bool false)) 20 = .bool false := e20
                have u23 : (upd V 26 (.bool false)) 23 = .bool true := e23
                have u25 : (upd V 26 (.bool false)) 25 = .bool false := e25
                have HU := Lib.hid (show (upd V 26 (.bool false)) 20 = .bool false ∧ (upd V 26 (.bool false)) 23 = .bool true ∧ (upd V 26 (.bool false)) 25 = .bool false from ⟨u20, u23, u25⟩)
                clear u20 u23 u25
                have H := Lib.hid (show ∀ W', Ext W W' → K (fr (upd V 26 (.bool false))) W' from fun W' he => hK _ _ ⟨upd V 26 (.bool false), rfl, HS.ext he, HV.up 26 _ (fun x hx => Option.some.inj hx), fun h => Bs.ext (f1 (more_ne h rfl)) he, fun h => Bs.ext (f3 (more_ne h rfl)) he⟩)
                clear hK hC hW hL HV f1 f3
                rw [HFR.out]
                rw [e20, e23, e25]
                clear e20 e23 e25
                go_wp2_with fail
                show K _ _
                have := H.out _ (Ext.refl _)
                rw [HFR.out] at this
                obtain ⟨u20, u23, u25⟩ := HU.out
                rw [u20, u23, u25] at this
                exact this
              · rintro L A W K hL hC hW ⟨V, rfl, HS, HV, f1, f3⟩ hK
                have e20 : V 20 = .bool false := HV 20 _ rfl (hW 20 rfl)
                have e26 : V 26 = .bool false := HV 26 _ rfl (hW 26 rfl)
                have u20 : (upd V 27 (.bool false)) 20 = .bool false := e20
                have u26 : (upd V 27 (.bool false)) 26 = .bool false := e26
                have HU := Lib.hid (show (upd V 27 (.bool false)) 20 = .bool false ∧ (upd V 27 (.bool false)) 26 = .bool false from ⟨u20, u26⟩)
                clear u20 u26
                have H := Lib.hid (show ∀ W', Ext W W' → K (fr (upd V 27 (.bool false))) W' from fun W' he => hK _ _ ⟨upd V 27 (.bool false), rfl, HS.ext he, HV.up 27 _ (fun x hx => Option.some.inj hx), fun h => Bs.ext (f1 (more_ne h rfl)) he, fun h => Bs.ext (f3 (more_ne h rfl)) he⟩)
                clear hK hC hW hL HV f1 f3
                rw [HFR.out]
                rw [e20, e26]
                clear e20 e26
                go_wp2_with fail
                show K _ _
                have := H.out _ (Ext.refl _)
                rw [HFR.out] at this
                obtain ⟨u20, u26⟩ := HU.out
                rw [u20, u26] at this
                exact this
              · rintro L A W hL ⟨V, rfl, HS, HV, f1, f3⟩
                have e0 : V 0 = wv (x) := HV 0 _ rfl (hL 0 (by simp))
                have e2 : V 2 = wv (x) := HV 2 _ rfl (hL 2 (by simp))
                have e4 : V 4 = .bool true := HV 4 _ rfl (hL 4 (by simp))
                have e5 : V 5 = .bool false := HV 5 _ rfl (hL 5 (by simp))
                have e6 : V 6 = .bool false := HV 6 _ rfl (hL 6 (by simp))
                have e7 : V 7 = .bool false := HV 7 _ rfl (hL 7 (by simp))
                have e8 : V 8 = .bool false := HV 8 _ rfl (hL 8 (by simp))
                have e9 : V 9 = .bool false := HV 9 _ rfl (hL 9 (by simp))
                have e10 : V 10 = .bool false := HV 10 _ rfl (hL 10 (by simp))
                have e11 : V 11 = .bool false := HV 11 _ rfl (hL 11 (by simp))
                have e12 : V 12 = .bool false := HV 12 _ rfl (hL 12 (by simp))
                have e13 : V 13 = .bool false := HV 13 _ rfl (hL 13 (by simp))
                have e14 : V 14 = undef := HV 14 _ rfl (hL 14 (by simp))
                have e15 : V 15 = undef := HV 15 _ rfl (hL 15 (by simp))
                have e16 : V 16 = undef := HV 16 _ rfl (hL 16 (by simp))
                have e17 : V 17 = undef := HV 17 _ rfl (hL 17 (by simp))
                have e18 : V 18 = .bool false := HV 18 _ rfl (hL 18 (by simp))
                have e19 : V 19 = .bool false := HV 19 _ rfl (hL 19 (by simp))
                have e20 : V 20 = .bool false := HV 20 _ rfl (hL 20 (by simp))
                have e21 : V 21 = .bool false := HV 21 _ rfl (hL 21 (by simp))
                have e22 : V 22 = .bool true := HV 22 _ rfl (hL 22 (by simp))
                have e23 : V 23 = .bool true := HV 23 _ rfl (hL 23 (by simp))
                have e24 : V 24 = .int .u64 0 := HV 24 _ rfl (hL 24 (by simp))
                have e25 : V 25 = .bool false := HV 25 _ rfl (hL 25 (by simp))
                have e26 : V 26 = .bool false := HV 26 _ rfl (hL 26 (by simp))
                have e27 : V 27 = .bool false := HV 27 _ rfl (hL 27 (by simp))
                have q51 := f1 (hL 1 (by simp))
                have q53 := f3 (hL 3 (by simp))
                rw [HFR.out]
                rw [e0, e2, e4, e5, e6, e7, e8, e9, e10, e11, e12, e13, e14, e15, e16, e17, e18, e19, e20, e21, e22, e23, e24, e25, e26, e27]
                clear hL HV e0 e2 e4 e5 e6 e7 e8 e9 e10 e11 e12 e13 e14 e15 e16 e17 e18 e19 e20 e21 e22 e23 e24 e25 e26 e27 f1 f3
                have HE := Lib.hid HS.2
                clear HFR HS
                go_wp2_with fail
                go_roundw
                case rel => exact ⟨k + 1, by omega, by omega, by go_num, HE⟩
                case measure => simp [intOf]; omega
          · have d2 : (((lb x 2 : Nat) : Int) == 0) = false := by simp only [beq_eq_false_iff_ne]; omega
            have hs : isSmall x = false := by rw [hsi]; simp [z2]
            rw [small_not x hs, hs]
            clear hsi z1 z2 hs
            go_wp2_with fail
            refine wp_named fun a0 ha0 => ?_
            obtain ⟨fr, hfr⟩ : ∃ fr : (Nat → Value) → Act, ∀ V, fr V = ((((((((((((((((((((((((((((a0.put (some 50) (V 0)).put (some 51) (V 1)).put (some 52) (V 2)).put (some 53) (V 3)).put (some 54) (V 4)).put (some 55) (V 5)).put (some 56) (V 6)).put (some 57) (V 7)).put (some 58) (V 8)).put (some 59) (V 9)).put (some 60) (V 10)).put (some 61) (V 11)).put (some 62) (V 12)).put (some 63) (V 13)).put (some 64) (V 14)).put (some 65) (V 15)).put (some 66) (V 16)).put (some 67) (V 17)).put (some 68) (V 18)).put (some 69) (V 19)).put (some 70) (V 20)).put (some 71) (V 21)).put (some 72) (V 22)).put (some 73) (V 23)).put (some 74) (V 24)).put (some 75) (V 25)).put (some 76) (V 26)).put (some 77) (V 27)) := ⟨fun V => ((((((((((((((((((((((((((((a0.put (some 50) (V 0)).put (some 51) (V 1)).put (some 52) (V 2)).put (some 53) (V 3)).put (some 54) (V 4)).put (some 55) (V 5)).put (some 56) (V 6)).put (some 57) (V 7)).put (some 58) (V 8)).put (some 59) (V 9)).put (some 60) (V 10)).put (some 61) (V 11)).put (some 62) (V 12)).put (some 63) (V 13)).put (some 64) (V 14)).put (some 65) (V 15)).put (some 66) (V 16)).put (some 67) (V 17)).put (some 68) (V 18)).put (some 69) (V 19)).put (some 70) (V 20)).put (some 71) (V 21)).put (some 72) (V 22)).put (some 73) (V 23)).put (some 74) (V 24)).put (some 75) (V 25)).put (some 76) (V 26)).put (some 77) (V 27)), fun _ => rfl⟩
            rw [ha0] at hfr
            simp only [Act.put, List.setIfInBounds_toArray, List.set_cons_zero, List.set_cons_succ] at hfr
            have HFR := Lib.hid hfr
            clear hfr
            refine wp_region_inv (by kernel_rfl) (by kernel_rfl) (fun L A W => ∃ V : Nat → Value, A = fr V ∧ Ks w [(wr.heap.size, x)] W ∧ Vals (fun j => ([some (wv (x)), none, some (wv (x)), none, some (.bool true), some (.bool false), some (.bool false), some (.bool false), some (.bool false), some (.bool false), some (.bool false), some (.bool false), some (.bool false), some (.bool false), some (undef), some (undef), some (undef), some (undef), some (.bool false), some (.bool false), some (.bool false), some (.bool false), some (.bool true), some (.bool true), some (.int .u64 0), some (.bool false), some (.bool false), some (.bool false)] : List (Option Value)).getD j none) L V ∧ (L 1 = true → Bs W (V 1) (bytL x (List.range 32))) ∧ (L 3 = true → Bs W (V 3) (bytL x (List.range 32)))) ?_ ⟨?_, ?_, ?_, ?_, ?_, ?_, ?_, ?_, ?_, ?_, ?_, ?_, ?_, ?_, ?_, ?_, ?_, ?_, ?_, ?_, ?_, ?_, ?_, ?_, ?_, ?_, ?_, ?_, trivial⟩ ?_
            · refine ⟨fun j => a0.tmps.getD (([50, 51, 52, 53, 54, 55, 56, 57, 58, 59, 60, 61, 62, 63, 64, 65, 66, 67, 68, 69, 70, 71, 72, 73, 74, 75, 76, 77] : List Nat).getD j 0) undef, ?_, HS.drew, Vals.no _ _ _ (far_none _ _ rfl), fun h => absurd h (by decide), fun h => absurd h (by decide)⟩
              rw [HFR.out, ha0]
              rfl
            all_goals clear ha0
            · rintro L A W K hL hC hW ⟨V, rfl, HS, HV, f1, f3⟩ hK
              have H := Lib.hid (show ∀ W', Ext W W' → K (fr (upd V 0 (wv (x)))) W' from fun W' he => hK _ _ ⟨upd V 0 (wv (x)), rfl, HS.ext he, HV.up 0 _ (fun x hx => Option.some.inj hx), fun h => Bs.ext (f1 (more_ne h rfl)) he, fun h => Bs.ext (f3 (more_ne h rfl)) he⟩)
              clear hK hC hW hL HV f1 f3
              rw [HFR.out]
              refine wpList_load_wordG rfl 27 25 (.tmp 8) rfl Try.underlying27 winfo (wr.heap.size) (x) rfl (HS.at (wr.heap.size) (x) (by simp)) ?_
              show K _ _
              have := H.out _ (Ext.refl _)
              rw [HFR.out] at this
              exact this
            · rintro L A W K hL hC hW ⟨V, rfl, HS, HV, f1, f3⟩ hK
              have e0 : V 0 = wv (x) := HV 0 _ rfl (hW 0 rfl)
              have H := Lib.hid (show ∀ v W', Ext W W' → Bs W' v (bytL x (List.range 32)) → K (fr (upd V 1 v)) W' from fun v W' he hp => hK _ _ ⟨upd V 1 v, rfl, HS.ext he, HV.up 1 _ (fun x hx => absurd hx (by intro h; cases h)), fun _ => hp, fun h => Bs.ext (f3 (more_ne h rfl)) he⟩)
              have HU := Lib.hid (show ∀ v, (upd V 1 v) 0 = wv (x) from fun v => e0)
              clear hK hC hW hL HV f1 f3
              rw [HFR.out]
              rw [e0]
              clear e0
              go_wp2_with fail
              refine (bytes_any x _).mono ?_
              rintro e wx ⟨vx, rfl, ho, he⟩
              have := H.out _ _ he (ho.bs)
              clear H
              go_wp2_with fail
              show K _ _
              rw [HFR.out] at this
              obtain u0 := HU.out _
              rw [u0] at this
              exact this
            · rintro L A W K hL hC hW ⟨V, rfl, HS, HV, f1, f3⟩ hK
              have H := Lib.hid (show ∀ W', Ext W W' → K (fr (upd V 2 (wv (x)))) W' from fun W' he => hK _ _ ⟨upd V 2 (wv (x)), rfl, HS.ext he, HV.up 2 _ (fun x hx => Option.some.inj hx), fun h => Bs.ext (f1 (more_ne h rfl)) he, fun h => Bs.ext (f3 (more_ne h rfl)) he⟩)
              clear hK hC hW hL HV f1 f3
              rw [HFR.out]
              refine wpList_load_wordG rfl 27 25 (.tmp 8) rfl Try.underlying27 winfo (wr.heap.size) (x) rfl (HS.at (wr.heap.size) (x) (by simp)) ?_
              show K _ _
              have := H.out _ (Ext.refl _)
              rw [HFR.out] at this
              exact this
            · rintro L A W K hL hC hW ⟨V, rfl, HS, HV, f1, f3⟩ hK
              have e2 : V 2 = wv (x) := HV 2 _ rfl (hW 2 rfl)
              have H := Lib.hid (show ∀ v W', Ext W W' → Bs W' v (bytL x (List.range 32)) → K (fr (upd V 3 v)) W' from fun v W' he hp => hK _ _ ⟨upd V 3 v, rfl, HS.ext he, HV.up 3 _ (fun x hx => absurd hx (by intro h; cases h)), fun h => Bs.ext (f1 (more_ne h rfl)) he, fun _ => hp⟩)
              have HU := Lib.hid (show ∀ v, (upd V 3 v) 2 = wv (x) from fun v => e2)
              clear hK hC hW hL HV f1 f3
              rw [HFR.out]
              rw [e2]
              clear e2
              go_wp2_with fail
              refine (refBytes_any x _).mono ?_
              rintro e wx ⟨vx, rfl, ho, he⟩
              have := H.out _ _ he (ho.bs)
              clear H
              go_wp2_with fail
              show K _ _
              rw [HFR.out] at this
              obtain u2 := HU.out _
              rw [u2] at this
              exact this
            · rintro L A W K hL hC hW ⟨V, rfl, HS, HV, f1, f3⟩ hK
              have b1 := f1 (hW 1 rfl)
              have b2 := f3 (hW 3 rfl)
              have H := Lib.hid (show ∀ W', Ext W W' → K (fr (upd V 4 (.bool true))) W' from fun W' he => hK _ _ ⟨upd V 4 (.bool true), rfl, HS.ext he, HV.up 4 _ (fun x hx => Option.some.inj hx), fun h => Bs.ext (f1 (more_ne h rfl)) he, fun h => Bs.ext (f3 (more_ne h rfl)) he⟩)
              clear hK hC hW hL HV f1 f3
              rw [HFR.out]
              go_wp2_with fail
              refine (bytesEqual_same _ _ _ _ b1 b2).mono ?_
              rintro e wx ⟨rfl, he⟩
              have := H.out _ he
              clear H
              go_wp2_with fail
              show K _ _
              rw [HFR.out] at this
              exact this
            · rintro L A W K hL hC hW ⟨V, rfl, HS, HV, f1, f3⟩ hK
              have e4 : V 4 = .bool true := HV 4 _ rfl (hW 4 rfl)
              have u4 : (upd V 5 (.bool false)) 4 = .bool true := e4
              have HU := Lib.hid (show (upd V 5 (.bool false)) 4 = .bool true from u4)
              clear u4
              have H := Lib.hid (show ∀ W', Ext W W' → K (fr (upd V 5 (.bool false))) W' from fun W' he => hK _ _ ⟨upd V 5 (.bool false), rfl, HS.ext he, HV.up 5 _ (fun x hx => Option.some.inj hx), fun h => Bs.ext (f1 (more_ne h rfl)) he, fun h => Bs.ext (f3 (more_ne h rfl)) he⟩)
              clear hK hC hW hL HV f1 f3
              rw [HFR.out]
              rw [e4]
              clear e4
              go_wp2_with fail
              show K _ _
              have := H.out _ (Ext.refl _)
              rw [HFR.out] at this
              obtain u4 := HU.out
              rw [u4] at this
              exact this
            · rintro L A W K hL hC hW ⟨V, rfl, HS, HV, f1, f3⟩ hK
              have e5 : V 5 = .bool false := HV 5 _ rfl (hW 5 rfl)
              have u5 : (upd V 6 (.bool false)) 5 = .bool false := e5
              have HU := Lib.hid (show (upd V 6 (.bool false)) 5 = .bool false from u5)
              clear u5
              have H := Lib.hid (show ∀ W', Ext W W' → K (fr (upd V 6 (.bool false))) W' from fun W' he => hK _ _ ⟨upd V 6 (.bool false), rfl, HS.ext he, HV.up 6 _ (fun x hx => Option.some.inj hx), fun h => Bs.ext (f1 (more_ne h rfl)) he, fun h => Bs.ext (f3 (more_ne h rfl)) he⟩)
              clear hK hC hW hL HV f1 f3
              rw [HFR.out]
              rw [e5]
              clear e5
              go_wp2_with fail
              show K _ _
              have := H.out _ (Ext.refl _)
              rw [HFR.out] at this
              obtain u5 := HU.out
              rw [u5] at this
              exact this
            · rintro L A W K hL hC hW ⟨V, rfl, HS, HV, f1, f3⟩ hK
              have e6 : V 6 = .bool false := HV 6 _ rfl (hW 6 rfl)
              have u6 : (upd V 7 (.bool false)) 6 = .bool false := e6
              have HU := Lib.hid (show (upd V 7 (.bool false)) 6 = .bool false from u6)
              clear u6
              have H := Lib.hid (show ∀ W', Ext W W' → K (fr (upd V 7 (.bool false))) W' from fun W' he => hK _ _ ⟨upd V 7 (.bool false), rfl, HS.ext he, HV.up 7 _ (fun x hx => Option.some.inj hx), fun h => Bs.ext (f1 (more_ne h rfl)) he, fun h => Bs.ext (f3 (more_ne h rfl)) he⟩)
              clear hK hC hW hL HV f1 f3
              rw [HFR.out]
              rw [e6]
              clear e6
              go_wp2_with fail
              show K _ _
              have := H.out _ (Ext.refl _)
              rw [HFR.out] at this
              obtain u6 := HU.out
              rw [u6] at this
              exact this
            · rintro L A W K hL hC hW ⟨V, rfl, HS, HV, f1, f3⟩ hK
              have e6 : V 6 = .bool false := HV 6 _ rfl (hW 6 rfl)
              have u6 : (upd V 8 (.bool false)) 6 = .bool false := e6
              have HU := Lib.hid (show (upd V 8 (.bool false)) 6 = .bool false from u6)
              clear u6
              have H := Lib.hid (show ∀ W', Ext W W' → K (fr (upd V 8 (.bool false))) W' from fun W' he => hK _ _ ⟨upd V 8 (.bool false), rfl, HS.ext he, HV.up 8 _ (fun x hx => Option.some.inj hx), fun h => Bs.ext (f1 (more_ne h rfl)) he, fun h => Bs.ext (f3 (more_ne h rfl)) he⟩)
              clear hK hC hW hL HV f1 f3
              rw [HFR.out]
              rw [e6]
              clear e6
              go_wp2_with fail
              show K _ _
              have := H.out _ (Ext.refl _)
              rw [HFR.out] at this
              obtain u6 := HU.out
              rw [u6] at this
              exact this
            · rintro L A W K hL hC hW ⟨V, rfl, HS, HV, f1, f3⟩ hK
              have e6 : V 6 = .bool false := HV 6 _ rfl (hW 6 rfl)
              have e7 : V 7 = .bool false := HV 7 _ rfl (hW 7 rfl)
              have e8 : V 8 = .bool false := HV 8 _ rfl (hW 8 rfl)
              have u6 : (upd V 9 (.bool false)) 6 = .bool false := e6
              have u7 : (upd V 9 (.bool false)) 7 = .bool false := e7
              have u8 : (upd V 9 (.bool false)) 8 = .bool false := e8
              have HU := Lib.hid (show (upd V 9 (.bool false)) 6 = .bool false ∧ (upd V 9 (.bool false)) 7 = .bool false ∧ (upd V 9 (.bool false)) 8 = .bool false from ⟨u6, u7, u8⟩)
              clear u6 u7 u8
              have H := Lib.hid (show ∀ W', Ext W W' → K (fr (upd V 9 (.bool false))) W' from fun W' he => hK _ _ ⟨upd V 9 (.bool false), rfl, HS.ext he, HV.up 9 _ (fun x hx => Option.some.inj hx), fun h => Bs.ext (f1 (more_ne h rfl)) he, fun h => Bs.ext (f3 (more_ne h rfl)) he⟩)
              clear hK hC hW hL HV f1 f3
              rw [HFR.out]
              rw [e6, e7, e8]
              clear e6 e7 e8
              go_wp2_with fail
              show K _ _
              have := H.out _ (Ext.refl _)
              rw [HFR.out] at this
              obtain ⟨u6, u7, u8⟩ := HU.out
              rw [u6, u7, u8] at this
              exact this
            · rintro L A W K hL hC hW ⟨V, rfl, HS, HV, f1, f3⟩ hK
              have e6 : V 6 = .bool false := HV 6 _ rfl (hW 6 rfl)
              have e9 : V 9 = .bool false := HV 9 _ rfl (hW 9 rfl)
              have u6 : (upd V 10 (.bool false)) 6 = .bool false := e6
              have u9 : (upd V 10 (.bool false)) 9 = .bool false := e9
              have HU := Lib.hid (show (upd V 10 (.bool false)) 6 = .bool false ∧ (upd V 10 (.bool false)) 9 = .bool false from ⟨u6, u9⟩)
              clear u6 u9
              have H := Lib.hid (show ∀ W', Ext W W' → K (fr (upd V 10 (.bool false))) W' from fun W' he => hK _ _ ⟨upd V 10 (.bool false), rfl, HS.ext he, HV.up 10 _ (fun x hx => Option.some.inj hx), fun h => Bs.ext (f1 (more_ne h rfl)) he, fun h => Bs.ext (f3 (more_ne h rfl)) he⟩)
              clear hK hC hW hL HV f1 f3
              rw [HFR.out]
              rw [e6, e9]
              clear e6 e9
              go_wp2_with fail
              show K _ _
              have := H.out _ (Ext.refl _)
              rw [HFR.out] at this
              obtain ⟨u6, u9⟩ := HU.out
              rw [u6, u9] at this
              exact this
            · rintro L A W K hL hC hW ⟨V, rfl, HS, HV, f1, f3⟩ hK
              have e10 : V 10 = .bool false := HV 10 _ rfl (hW 10 rfl)
              have u10 : (upd V 11 (.bool false)) 10 = .bool false := e10
              have HU := Lib.hid (show (upd V 11 (.bool false)) 10 = .bool false from u10)
              clear u10
              have H := Lib.hid (show ∀ W', Ext W W' → K (fr (upd V 11 (.bool false))) W' from fun W' he => hK _ _ ⟨upd V 11 (.bool false), rfl, HS.ext he, HV.up 11 _ (fun x hx => Option.some.inj hx), fun h => Bs.ext (f1 (more_ne h rfl)) he, fun h => Bs.ext (f3 (more_ne h rfl)) he⟩)
              clear hK hC hW hL HV f1 f3
              rw [HFR.out]
              rw [e10]
              clear e10
              go_wp2_with fail
              show K _ _
              have := H.out _ (Ext.refl _)
              rw [HFR.out] at this
              obtain u10 := HU.out
              rw [u10] at this
              exact this
            · rintro L A W K hL hC hW ⟨V, rfl, HS, HV, f1, f3⟩ hK
              have e11 : V 11 = .bool false := HV 11 _ rfl (hW 11 rfl)
              have u11 : (upd V 12 (.bool false)) 11 = .bool false := e11
              have HU := Lib.hid (show (upd V 12 (.bool false)) 11 = .bool false from u11)
              clear u11
              have H := Lib.hid (show ∀ W', Ext W W' → K (fr (upd V 12 (.bool false))) W' from fun W' he => hK _ _ ⟨upd V 12 (.bool false), rfl, HS.ext he, HV.up 12 _ (fun x hx => Option.some.inj hx), fun h => Bs.ext (f1 (more_ne h rfl)) he, fun h => Bs.ext (f3 (more_ne h rfl)) he⟩)
              clear hK hC hW hL HV f1 f3
              rw [HFR.out]
              rw [e11]
              clear e11
              go_wp2_with fail
              show K _ _
              have := H.out _ (Ext.refl _)
              rw [HFR.out] at this
              obtain u11 := HU.out
              rw [u11] at this
              exact this
            · rintro L A W K hL hC hW ⟨V, rfl, HS, HV, f1, f3⟩ hK
              have e11 : V 11 = .bool false := HV 11 _ rfl (hW 11 rfl)
              have e12 : V 12 = .bool false := HV 12 _ rfl (hW 12 rfl)
              have u11 : (upd V 13 (.bool false)) 11 = .bool false := e11
              have u12 : (upd V 13 (.bool false)) 12 = .bool false := e12
              have HU := Lib.hid (show (upd V 13 (.bool false)) 11 = .bool false ∧ (upd V 13 (.bool false)) 12 = .bool false from ⟨u11, u12⟩)
              clear u11 u12
              have H := Lib.hid (show ∀ W', Ext W W' → K (fr (upd V 13 (.bool false))) W' from fun W' he => hK _ _ ⟨upd V 13 (.bool false), rfl, HS.ext he, HV.up 13 _ (fun x hx => Option.some.inj hx), fun h => Bs.ext (f1 (more_ne h rfl)) he, fun h => Bs.ext (f3 (more_ne h rfl)) he⟩)
              clear hK hC hW hL HV f1 f3
              rw [HFR.out]
              rw [e11, e12]
              clear e11 e12
              go_wp2_with fail
              show K _ _
              have := H.out _ (Ext.refl _)
              rw [HFR.out] at this
              obtain ⟨u11, u12⟩ := HU.out
              rw [u11, u12] at this
              exact this
            · rintro L A W K hL hC hW ⟨V, rfl, HS, HV, f1, f3⟩ hK
              have e13 : V 13 = .bool false := HV 13 _ rfl (hW 13 rfl)
              have u13 : (upd V 14 (undef)) 13 = .bool false := e13
              have HU := Lib.hid (show (upd V 14 (undef)) 13 = .bool false from u13)
              clear u13
              have H := Lib.hid (show ∀ W', Ext W W' → K (fr (upd V 14 (undef))) W' from fun W' he => hK _ _ ⟨upd V 14 (undef), rfl, HS.ext he, HV.up 14 _ (fun x hx => Option.some.inj hx), fun h => Bs.ext (f1 (more_ne h rfl)) he, fun h => Bs.ext (f3 (more_ne h rfl)) he⟩)
              clear hK hC hW hL HV f1 f3
              rw [HFR.out]
              rw [e13]
              clear e13
              go_wp2_with fail
              show K _ _
              have := H.out _ (Ext.refl _)
              rw [HFR.out] at this
              obtain u13 := HU.out
              rw [u13] at this
              exact this
            · rintro L A W K hL hC hW ⟨V, rfl, HS, HV, f1, f3⟩ hK
              have e13 : V 13 = .bool false := HV 13 _ rfl (hW 13 rfl)
              have u13 : (upd V 15 (undef)) 13 = .bool false := e13
              have HU := Lib.hid (show (upd V 15 (undef)) 13 = .bool false from u13)
              clear u13
              have H := Lib.hid (show ∀ W', Ext W W' → K (fr (upd V 15 (undef))) W' from fun W' he => hK _ _ ⟨upd V 15 (undef), rfl, HS.ext he, HV.up 15 _ (fun x hx => Option.some.inj hx), fun h => Bs.ext (f1 (more_ne h rfl)) he, fun h => Bs.ext (f3 (more_ne h rfl)) he⟩)
              clear hK hC hW hL HV f1 f3
              rw [HFR.out]
              rw [e13]
              clear e13
              go_wp2_with fail
              show K _ _
              have := H.out _ (Ext.refl _)
              rw [HFR.out] at this
              obtain u13 := HU.out
              rw [u13] at this
              exact this
            · rintro L A W K hL hC hW ⟨V, rfl, HS, HV, f1, f3⟩ hK
              have e13 : V 13 = .bool false := HV 13 _ rfl (hW 13 rfl)
              have u13 : (upd V 16 (undef)) 13 = .bool false := e13
              have HU := Lib.hid (show (upd V 16 (undef)) 13 = .bool false from u13)
              clear u13
              have H := Lib.hid (show ∀ W', Ext W W' → K (fr (upd V 16 (undef))) W' from fun W' he => hK _ _ ⟨upd V 16 (undef), rfl, HS.ext he, HV.up 16 _ (fun x hx => Option.some.inj hx), fun h => Bs.ext (f1 (more_ne h rfl)) he, fun h => Bs.ext (f3 (more_ne h rfl)) he⟩)
              clear hK hC hW hL HV f1 f3
              rw [HFR.out]
              rw [e13]
              clear e13
              go_wp2_with fail
              show K _ _
              have := H.out _ (Ext.refl _)
              rw [HFR.out] at this
              obtain u13 := HU.out
              rw [u13] at this
              exact this
            · rintro L A W K hL hC hW ⟨V, rfl, HS, HV, f1, f3⟩ hK
              have e13 : V 13 = .bool false := HV 13 _ rfl (hW 13 rfl)
              have u13 : (upd V 17 (undef)) 13 = .bool false := e13
              have HU := Lib.hid (show (upd V 17 (undef)) 13 = .bool false from u13)
              clear u13
              have H := Lib.hid (show ∀ W', Ext W W' → K (fr (upd V 17 (undef))) W' from fun W' he => hK _ _ ⟨upd V 17 (undef), rfl, HS.ext he, HV.up 17 _ (fun x hx => Option.some.inj hx), fun h => Bs.ext (f1 (more_ne h rfl)) he, fun h => Bs.ext (f3 (more_ne h rfl)) he⟩)
              clear hK hC hW hL HV f1 f3
              rw [HFR.out]
              rw [e13]
              clear e13
              go_wp2_with fail
              show K _ _
              have := H.out _ (Ext.refl _)
              rw [HFR.out] at this
              obtain u13 := HU.out
              rw [u13] at this
              exact this
            · rintro L A W K hL hC hW ⟨V, rfl, HS, HV, f1, f3⟩ hK
              have e11 : V 11 = .bool false := HV 11 _ rfl (hW 11 rfl)
              have e13 : V 13 = .bool false := HV 13 _ rfl (hW 13 rfl)
              have e17 : V 17 = undef := HV 17 _ rfl (hW 17 rfl)
              have u11 : (upd V 18 (.bool false)) 11 = .bool false := e11
              have u13 : (upd V 18 (.bool false)) 13 = .bool false := e13
              have u17 : (upd V 18 (.bool false)) 17 = undef := e17
              have HU := Lib.hid (show (upd V 18 (.bool false)) 11 = .bool false ∧ (upd V 18 (.bool false)) 13 = .bool false ∧ (upd V 18 (.bool false)) 17 = undef from ⟨u11, u13, u17⟩)
              clear u11 u13 u17
              have H := Lib.hid (show ∀ W', Ext W W' → K (fr (upd V 18 (.bool false))) W' from fun W' he => hK _ _ ⟨upd V 18 (.bool false), rfl, HS.ext he, HV.up 18 _ (fun x hx => Option.some.inj hx), fun h => Bs.ext (f1 (more_ne h rfl)) he, fun h => Bs.ext (f3 (more_ne h rfl)) he⟩)
              clear hK hC hW hL HV f1 f3
              rw [HFR.out]
              rw [e11, e13, e17]
              clear e11 e13 e17
              go_wp2_with fail
              show K _ _
              have := H.out _ (Ext.refl _)
              rw [HFR.out] at this
              obtain ⟨u11, u13, u17⟩ := HU.out
              rw [u11, u13, u17] at this
              exact this
            · rintro L A W K hL hC hW ⟨V, rfl, HS, HV, f1, f3⟩ hK
              have e11 : V 11 = .bool false := HV 11 _ rfl (hW 11 rfl)
              have e18 : V 18 = .bool false := HV 18 _ rfl (hW 18 rfl)
              have u11 : (upd V 19 (.bool false)) 11 = .bool false := e11
              have u18 : (upd V 19 (.bool false)) 18 = .bool false := e18
              have HU := Lib.hid (show (upd V 19 (.bool false)) 11 = .bool false ∧ (upd V 19 (.bool false)) 18 = .bool false from ⟨u11, u18⟩)
              clear u11 u18
              have H := Lib.hid (show ∀ W', Ext W W' → K (fr (upd V 19 (.bool false))) W' from fun W' he => hK _ _ ⟨upd V 19 (.bool false), rfl, HS.ext he, HV.up 19 _ (fun x hx => Option.some.inj hx), fun h => Bs.ext (f1 (more_ne h rfl)) he, fun h => Bs.ext (f3 (more_ne h rfl)) he⟩)
              clear hK hC hW hL HV f1 f3
              rw [HFR.out]
              rw [e11, e18]
              clear e11 e18
              go_wp2_with fail
              show K _ _
              have := H.out _ (Ext.refl _)
              rw [HFR.out] at this
              obtain ⟨u11, u18⟩ := HU.out
              rw [u11, u18] at this
              exact this
            · rintro L A W K hL hC hW ⟨V, rfl, HS, HV, f1, f3⟩ hK
              have e19 : V 19 = .bool false := HV 19 _ rfl (hW 19 rfl)
              have u19 : (upd V 20 (.bool false)) 19 = .bool false := e19
              have HU := Lib.hid (show (upd V 20 (.bool false)) 19 = .bool false from u19)
              clear u19
              have H := Lib.hid (show ∀ W', Ext W W' → K (fr (upd V 20 (.bool false))) W' from fun W' he => hK _ _ ⟨upd V 20 (.bool false), rfl, HS.ext he, HV.up 20 _ (fun x hx => Option.some.inj hx), fun h => Bs.ext (f1 (more_ne h rfl)) he, fun h => Bs.ext (f3 (more_ne h rfl)) he⟩)
              clear hK hC hW hL HV f1 f3
              rw [HFR.out]
              rw [e19]
              clear e19
              go_wp2_with fail
              show K _ _
              have := H.out _ (Ext.refl _)
              rw [HFR.out] at this
              obtain u19 := HU.out
              rw [u19] at this
              exact this
            · rintro L A W K hL hC hW ⟨V, rfl, HS, HV, f1, f3⟩ hK
              have e20 : V 20 = .bool false := HV 20 _ rfl (hW 20 rfl)
              have u20 : (upd V 21 (.bool false)) 20 = .bool false := e20
              have HU := Lib.hid (show (upd V 21 (.bool false)) 20 = .bool false from u20)
              clear u20
              have H := Lib.hid (show ∀ W', Ext W W' → K (fr (upd V 21 (.bool false))) W' from fun W' he => hK _ _ ⟨upd V 21 (.bool false), rfl, HS.ext he, HV.up 21 _ (fun x hx => Option.some.inj hx), fun h => Bs.ext (f1 (more_ne h rfl)) he, fun h => Bs.ext (f3 (more_ne h rfl)) he⟩)
              clear hK hC hW hL HV f1 f3
              rw [HFR.out]
              rw [e20]
              clear e20
              go_wp2_with fail
              show K _ _
              have := H.out _ (Ext.refl _)
              rw [HFR.out] at this
              obtain u20 := HU.out
              rw [u20] at this
              exact this
            · rintro L A W K hL hC hW ⟨V, rfl, HS, HV, f1, f3⟩ hK
              have e20 : V 20 = .bool false := HV 20 _ rfl (hW 20 rfl)
              have e21 : V 21 = .bool false := HV 21 _ rfl (hW 21 rfl)
              have u20 : (upd V 22 (.bool true)) 20 = .bool false := e20
              have u21 : (upd V 22 (.bool true)) 21 = .bool false := e21
              have HU := Lib.hid (show (upd V 22 (.bool true)) 20 = .bool false ∧ (upd V 22 (.bool true)) 21 = .bool false from ⟨u20, u21⟩)
              clear u20 u21
              have H := Lib.hid (show ∀ W', Ext W W' → K (fr (upd V 22 (.bool true))) W' from fun W' he => hK _ _ ⟨upd V 22 (.bool true), rfl, HS.ext he, HV.up 22 _ (fun x hx => Option.some.inj hx), fun h => Bs.ext (f1 (more_ne h rfl)) he, fun h => Bs.ext (f3 (more_ne h rfl)) he⟩)
              clear hK hC hW hL HV f1 f3
              rw [HFR.out]
              rw [e20, e21]
              clear e20 e21
              go_wp2_with fail
              show K _ _
              have := H.out _ (Ext.refl _)
              rw [HFR.out] at this
              obtain ⟨u20, u21⟩ := HU.out
              rw [u20, u21] at this
              exact this
            · rintro L A W K hL hC hW ⟨V, rfl, HS, HV, f1, f3⟩ hK
              have e20 : V 20 = .bool false := HV 20 _ rfl (hW 20 rfl)
              have e22 : V 22 = .bool true := HV 22 _ rfl (hW 22 rfl)
              have u20 : (upd V 23 (.bool true)) 20 = .bool false := e20
              have u22 : (upd V 23 (.bool true)) 22 = .bool true := e22
              have HU := Lib.hid (show (upd V 23 (.bool true)) 20 = .bool false ∧ (upd V 23 (.bool true)) 22 = .bool true from ⟨u20, u22⟩)
              clear u20 u22
              have H := Lib.hid (show ∀ W', Ext W W' → K (fr (upd V 23 (.bool true))) W' from fun W' he => hK _ _ ⟨upd V 23 (.bool true), rfl, HS.ext he, HV.up 23 _ (fun x hx => Option.some.inj hx), fun h => Bs.ext (f1 (more_ne h rfl)) he, fun h => Bs.ext (f3 (more_ne h rfl)) he⟩)
              clear hK hC hW hL HV f1 f3
              rw [HFR.out]
              rw [e20, e22]
              clear e20 e22
              go_wp2_with fail
              show K _ _
              have := H.out _ (Ext.refl _)
              rw [HFR.out] at this
              obtain ⟨u20, u22⟩ := HU.out
              rw [u20, u22] at this
              exact this
            · rintro L A W K hL hC hW ⟨V, rfl, HS, HV, f1, f3⟩ hK
              have e23 : V 23 = .bool true := HV 23 _ rfl (hW 23 rfl)
              have u23 : (upd V 24 (.int .u64 0)) 23 = .bool true := e23
              have HU := Lib.hid (show (upd V 24 (.int .u64 0)) 23 = .bool true from u23)
              clear u23
              have H := Lib.hid (show ∀ W', Ext W W' → K (fr (upd V 24 (.int .u64 0))) W' from fun W' he => hK _ _ ⟨upd V 24 (.int .u64 0), rfl, HS.ext he, HV.up 24 _ (fun x hx => Option.some.inj hx), fun h => Bs.ext (f1 (more_ne h rfl)) he, fun h => Bs.ext (f3 (more_ne h rfl)) he⟩)
              clear hK hC hW hL HV f1 f3
              rw [HFR.out]
              rw [e23]
              clear e23
              go_wp2_with fail
              show K _ _
              have := H.out _ (Ext.refl _)
              rw [HFR.out] at this
              obtain u23 := HU.out
              rw [u23] at this
              exact this
            · rintro L A W K hL hC hW ⟨V, rfl, HS, HV, f1, f3⟩ hK
              have e23 : V 23 = .bool true := HV 23 _ rfl (hW 23 rfl)
              have e24 : V 24 = .int .u64 0 := HV 24 _ rfl (hW 24 rfl)
              have u23 : (upd V 25 (.bool false)) 23 = .bool true := e23
              have u24 : (upd V 25 (.bool false)) 24 = .int .u64 0 := e24
              have HU := Lib.hid (show (upd V 25 (.bool false)) 23 = .bool true ∧ (upd V 25 (.bool false)) 24 = .int .u64 0 from ⟨u23, u24⟩)
              clear u23 u24
              have H := Lib.hid (show ∀ W', Ext W W' → K (fr (upd V 25 (.bool false))) W' from fun W' he => hK _ _ ⟨upd V 25 (.bool false), rfl, HS.ext he, HV.up 25 _ (fun x hx => Option.some.inj hx), fun h => Bs.ext (f1 (more_ne h rfl)) he, fun h => Bs.ext (f3 (more_ne h rfl)) he⟩)
              clear hK hC hW hL HV f1 f3
              rw [HFR.out]
              rw [e23, e24]
              clear e23 e24
              go_wp2_with fail
              show K _ _
              have := H.out _ (Ext.refl _)
              rw [HFR.out] at this
              obtain ⟨u23, u24⟩ := HU.out
              rw [u23, u24] at this
              exact this
            · rintro L A W K hL hC hW ⟨V, rfl, HS, HV, f1, f3⟩ hK
              have e20 : V 20 = .bool false := HV 20 _ rfl (hW 20 rfl)
              have e23 : V 23 = .bool true := HV 23 _ rfl (hW 23 rfl)
              have e25 : V 25 = .bool false := HV 25 _ rfl (hW 25 rfl)
              have u20 : (upd V 26 (.bool false)) 20 = .bool false := e20
              have u23 : (upd V 26 (.bool false)) 23 = .bool true := e23
              have u25 : (upd V 26 (.bool false)) 25 = .bool false := e25
              have HU := Lib.hid (show (upd V 26 (.bool false)) 20 = .bool false ∧ (upd V 26 (.bool false)) 23 = .bool true ∧ (upd V 26 (.bool false)) 25 = .bool false from ⟨u20, u23, u25⟩)
              clear u20 u23 u25
              have H := Lib.hid (show ∀ W', Ext W W' → K (fr (upd V 26 (.bool false))) W' from fun W' he => hK _ _ ⟨upd V 26 (.bool false), rfl, HS.ext he, HV.up 26 _ (fun x hx => Option.some.inj hx), fun h => Bs.ext (f1 (more_ne h rfl)) he, fun h => Bs.ext (f3 (more_ne h rfl)) he⟩)
              clear hK hC hW hL HV f1 f3
              rw [HFR.out]
              rw [e20, e23, e25]
              clear e20 e23 e25
              go_wp2_with fail
              show K _ _
              have := H.out _ (Ext.refl _)
              rw [HFR.out] at this
              obtain ⟨u20, u23, u25⟩ := HU.out
              rw [u20, u23, u25] at this
              exact this
            · rintro L A W K hL hC hW ⟨V, rfl, HS, HV, f1, f3⟩ hK
              have e20 : V 20 = .bool false := HV 20 _ rfl (hW 20 rfl)
              have e26 : V 26 = .bool false := HV 26 _ rfl (hW 26 rfl)
              have u20 : (upd V 27 (.bool false)) 20 = .bool false := e20
              have u26 : (upd V 27 (.bool false)) 26 = .bool false := e26
              have HU := Lib.hid (show (upd V 27 (.bool false)) 20 = .bool false ∧ (upd V 27 (.bool false)) 26 = .bool false from ⟨u20, u26⟩)
              clear u20 u26
              have H := Lib.hid (show ∀ W', Ext W W' → K (fr (upd V 27 (.bool false))) W' from fun W' he => hK _ _ ⟨upd V 27 (.bool false), rfl, HS.ext he, HV.up 27 _ (fun x hx => Option.some.inj hx), fun h => Bs.ext (f1 (more_ne h rfl)) he, fun h => Bs.ext (f3 (more_ne h rfl)) he⟩)
              clear hK hC hW hL HV f1 f3
              rw [HFR.out]
              rw [e20, e26]
              clear e20 e26
              go_wp2_with fail
              show K _ _
              have := H.out _ (Ext.refl _)
              rw [HFR.out] at this
              obtain ⟨u20, u26⟩ := HU.out
              rw [u20, u26] at this
              exact this
            · rintro L A W hL ⟨V, rfl, HS, HV, f1, f3⟩
              have e0 : V 0 = wv (x) := HV 0 _ rfl (hL 0 (by simp))
              have e2 : V 2 = wv (x) := HV 2 _ rfl (hL 2 (by simp))
              have e4 : V 4 = .bool true := HV 4 _ rfl (hL 4 (by simp))
              have e5 : V 5 = .bool false := HV 5 _ rfl (hL 5 (by simp))
              have e6 : V 6 = .bool false := HV 6 _ rfl (hL 6 (by simp))
              have e7 : V 7 = .bool false := HV 7 _ rfl (hL 7 (by simp))
              have e8 : V 8 = .bool false := HV 8 _ rfl (hL 8 (by simp))
              have e9 : V 9 = .bool false := HV 9 _ rfl (hL 9 (by simp))
              have e10 : V 10 = .bool false := HV 10 _ rfl (hL 10 (by simp))
              have e11 : V 11 = .bool false := HV 11 _ rfl (hL 11 (by simp))
              have e12 : V 12 = .bool false := HV 12 _ rfl (hL 12 (by simp))
              have e13 : V 13 = .bool false := HV 13 _ rfl (hL 13 (by simp))
              have e14 : V 14 = undef := HV 14 _ rfl (hL 14 (by simp))
              have e15 : V 15 = undef := HV 15 _ rfl (hL 15 (by simp))
              have e16 : V 16 = undef := HV 16 _ rfl (hL 16 (by simp))
              have e17 : V 17 = undef := HV 17 _ rfl (hL 17 (by simp))
              have e18 : V 18 = .bool false := HV 18 _ rfl (hL 18 (by simp))
              have e19 : V 19 = .bool false := HV 19 _ rfl (hL 19 (by simp))
              have e20 : V 20 = .bool false := HV 20 _ rfl (hL 20 (by simp))
              have e21 : V 21 = .bool false := HV 21 _ rfl (hL 21 (by simp))
              have e22 : V 22 = .bool true := HV 22 _ rfl (hL 22 (by simp))
              have e23 : V 23 = .bool true := HV 23 _ rfl (hL 23 (by simp))
              have e24 : V 24 = .int .u64 0 := HV 24 _ rfl (hL 24 (by simp))
              have e25 : V 25 = .bool false := HV 25 _ rfl (hL 25 (by simp))
              have e26 : V 26 = .bool false := HV 26 _ rfl (hL 26 (by simp))
              have e27 : V 27 = .bool false := HV 27 _ rfl (hL 27 (by simp))
              have q51 := f1 (hL 1 (by simp))
              have q53 := f3 (hL 3 (by simp))
              rw [HFR.out]
              rw [e0, e2, e4, e5, e6, e7, e8, e9, e10, e11, e12, e13, e14, e15, e16, e17, e18, e19, e20, e21, e22, e23, e24, e25, e26, e27]
              clear hL HV e0 e2 e4 e5 e6 e7 e8 e9 e10 e11 e12 e13 e14 e15 e16 e17 e18 e19 e20 e21 e22 e23 e24 e25 e26 e27 f1 f3
              have HE := Lib.hid HS.2
              clear HFR HS
              go_wp2_with fail
              go_roundw
              case rel => exact ⟨k + 1, by omega, by omega, by go_num, HE⟩
              case measure => simp [intOf]; omega
        · have d1 : (((lb x 1 : Nat) : Int) == 0) = false := by simp only [beq_eq_false_iff_ne]; omega
          have hs : isSmall x = false := by rw [hsi]; simp [z1]
          rw [small_not x hs, hs]
          clear hsi z1 hs
          go_wp2_with fail
          refine wp_named fun a0 ha0 => ?_
          obtain ⟨fr, hfr⟩ : ∃ fr : (Nat → Value) → Act, ∀ V, fr V = ((((((((((((((((((((((((((((a0.put (some 50) (V 0)).put (some 51) (V 1)).put (some 52) (V 2)).put (some 53) (V 3)).put (some 54) (V 4)).put (some 55) (V 5)).put (some 56) (V 6)).put (some 57) (V 7)).put (some 58) (V 8)).put (some 59) (V 9)).put (some 60) (V 10)).put (some 61) (V 11)).put (some 62) (V 12)).put (some 63) (V 13)).put (some 64) (V 14)).put (some 65) (V 15)).put (some 66) (V 16)).put (some 67) (V 17)).put (some 68) (V 18)).put (some 69) (V 19)).put (some 70) (V 20)).put (some 71) (V 21)).put (some 72) (V 22)).put (some 73) (V 23)).put (some 74) (V 24)).put (some 75) (V 25)).put (some 76) (V 26)).put (some 77) (V 27)) := ⟨fun V => ((((((((((((((((((((((((((((a0.put (some 50) (V 0)).put (some 51) (V 1)).put (some 52) (V 2)).put (some 53) (V 3)).put (some 54) (V 4)).put (some 55) (V 5)).put (some 56) (V 6)).put (some 57) (V 7)).put (some 58) (V 8)).put (some 59) (V 9)).put (some 60) (V 10)).put (some 61) (V 11)).put (some 62) (V 12)).put (some 63) (V 13)).put (some 64) (V 14)).put (some 65) (V 15)).put (some 66) (V 16)).put (some 67) (V 17)).put (some 68) (V 18)).put (some 69) (V 19)).put (some 70) (V 20)).put (some 71) (V 21)).put (some 72) (V 22)).put (some 73) (V 23)).put (some 74) (V 24)).put (some 75) (V 25)).put (some 76) (V 26)).put (some 77) (V 27)), fun _ => rfl⟩
          rw [ha0] at hfr
          simp only [Act.put, List.setIfInBounds_toArray, List.set_cons_zero, List.set_cons_succ] at hfr
          have HFR := Lib.hid hfr
          clear hfr
          refine wp_region_inv (by kernel_rfl) (by kernel_rfl) (fun L A W => ∃ V : Nat → Value, A = fr V ∧ Ks w [(wr.heap.size, x)] W ∧ Vals (fun j => ([some (wv (x)), none, some (wv (x)), none, some (.bool true), some (.bool false), some (.bool false), some (.bool false), some (.bool false), some (.bool false), some (.bool false), some (.bool false), some (.bool false), some (.bool false), some (undef), some (undef), some (undef), some (undef), some (.bool false), some (.bool false), some (.bool false), some (.bool false), some (.bool true), some (.bool true), some (.int .u64 0), some (.bool false), some (.bool false), some (.bool false)] : List (Option Value)).getD j none) L V ∧ (L 1 = true → Bs W (V 1) (bytL x (List.range 32))) ∧ (L 3 = true → Bs W (V 3) (bytL x (List.range 32)))) ?_ ⟨?_, ?_, ?_, ?_, ?_, ?_, ?_, ?_, ?_, ?_, ?_, ?_, ?_, ?_, ?_, ?_, ?_, ?_, ?_, ?_, ?_, ?_, ?_, ?_, ?_, ?_, ?_, ?_, trivial⟩ ?_
          · refine ⟨fun j => a0.tmps.getD (([50, 51, 52, 53, 54, 55, 56, 57, 58, 59, 60, 61, 62, 63, 64, 65, 66, 67, 68, 69, 70, 71, 72, 73, 74, 75, 76, 77] : List Nat).getD j 0) undef, ?_, HS.drew, Vals.no _ _ _ (far_none _ _ rfl), fun h => absurd h (by decide), fun h => absurd h (by decide)⟩
            rw [HFR.out, ha0]
            rfl
          all_goals clear ha0
          · rintro L A W K hL hC hW ⟨V, rfl, HS, HV, f1, f3⟩ hK
            have H := Lib.hid (show ∀ W', Ext W W' → K (fr (upd V 0 (wv (x)))) W' from fun W' he => hK _ _ ⟨upd V 0 (wv (x)), rfl, HS.ext he, HV.up 0 _ (fun x hx => Option.some.inj hx), fun h => Bs.ext (f1 (more_ne h rfl)) he, fun h => Bs.ext (f3 (more_ne h rfl)) he⟩)
            clear hK hC hW hL HV f1 f3
            rw [HFR.out]
            refine wpList_load_wordG rfl 27 25 (.tmp 8) rfl Try.underlying27 winfo (wr.heap.size) (x) rfl (HS.at (wr.heap.size) (x) (by simp)) ?_
            show K _ _
            have := H.out _ (Ext.refl _)
            rw [HFR.out] at this
            exact this
          · rintro L A W K hL hC hW ⟨V, rfl, HS, HV, f1, f3⟩ hK
            have e0 : V 0 = wv (x) := HV 0 _ rfl (hW 0 rfl)
            have H := Lib.hid (show ∀ v W', Ext W W' → Bs W' v (bytL x (List.range 32)) → K (fr (upd V 1 v)) W' from fun v W' he hp => hK _ _ ⟨upd V 1 v, rfl, HS.ext he, HV.up 1 _ (fun x hx => absurd hx (by intro h; cases h)), fun _ => hp, fun h => Bs.ext (f3 (more_ne h rfl)) he⟩)
            have HU := Lib.hid (show ∀ v, (upd V 1 v) 0 = wv (x) from fun v => e0)
            clear hK hC hW hL HV f1 f3
            rw [HFR.out]
            rw [e0]
            clear e0
            go_wp2_with fail
            refine (bytes_any x _).mono ?_
            rintro e wx ⟨vx, rfl, ho, he⟩
            have := H.out _ _ he (ho.bs)
            clear H
            go_wp2_with fail
            show K _ _
            rw [HFR.out] at this
            obtain u0 := HU.out _
            rw [u0] at this
            exact this
          · rintro L A W K hL hC hW ⟨V, rfl, HS, HV, f1, f3⟩ hK
            have H := Lib.hid (show ∀ W', Ext W W' → K (fr (upd V 2 (wv (x)))) W' from fun W' he => hK _ _ ⟨upd V 2 (wv (x)), rfl, HS.ext he, HV.up 2 _ (fun x hx => Option.some.inj hx), fun h => Bs.ext (f1 (more_ne h rfl)) he, fun h => Bs.ext (f3 (more_ne h rfl)) he⟩)
            clear hK hC hW hL HV f1 f3
            rw [HFR.out]
            refine wpList_load_wordG rfl 27 25 (.tmp 8) rfl Try.underlying27 winfo (wr.heap.size) (x) rfl (HS.at (wr.heap.size) (x) (by simp)) ?_
            show K _ _
            have := H.out _ (Ext.refl _)
            rw [HFR.out] at this
            exact this
          · rintro L A W K hL hC hW ⟨V, rfl, HS, HV, f1, f3⟩ hK
            have e2 : V 2 = wv (x) := HV 2 _ rfl (hW 2 rfl)
            have H := Lib.hid (show ∀ v W', Ext W W' → Bs W' v (bytL x (List.range 32)) → K (fr (upd V 3 v)) W' from fun v W' he hp => hK _ _ ⟨upd V 3 v, rfl, HS.ext he, HV.up 3 _ (fun x hx => absurd hx (by intro h; cases h)), fun h => Bs.ext (f1 (more_ne h rfl)) he, fun _ => hp⟩)
            have HU := Lib.hid (show ∀ v, (upd V 3 v) 2 = wv (x) from fun v => e2)
            clear hK hC hW hL HV f1 f3
            rw [HFR.out]
            rw [e2]
            clear e2
            go_wp2_with fail
            refine (refBytes_any x _).mono ?_
            rintro e wx ⟨vx, rfl, ho, he⟩
            have := H.out _ _ he (ho.bs)
            clear H
            go_wp2_with fail
            show K _ _
            rw [HFR.out] at this
            obtain u2 := HU.out _
            rw [u2] at this
            exact this
          · rintro L A W K hL hC hW ⟨V, rfl, HS, HV, f1, f3⟩ hK
            have b1 := f1 (hW 1 rfl)
            have b2 := f3 (hW 3 rfl)
            have H := Lib.hid (show ∀ W', Ext W W' → K (fr (upd V 4 (.bool true))) W' from fun W' he => hK _ _ ⟨upd V 4 (.bool true), rfl, HS.ext he, HV.up 4 _ (fun x hx => Option.some.inj hx), fun h => Bs.ext (f1 (more_ne h rfl)) he, fun h => Bs.ext (f3 (more_ne h rfl)) he⟩)
            clear hK hC hW hL HV f1 f3
            rw [HFR.out]
            go_wp2_with fail
            refine (bytesEqual_same _ _ _ _ b1 b2).mono ?_
            rintro e wx ⟨rfl, he⟩
            have := H.out _ he
            clear H
            go_wp2_with fail
            show K _ _
            rw [HFR.out] at this
            exact this
          · rintro L A W K hL hC hW ⟨V, rfl, HS, HV, f1, f3⟩ hK
            have e4 : V 4 = .bool true := HV 4 _ rfl (hW 4 rfl)
            have u4 : (upd V 5 (.bool false)) 4 = .bool true := e4
            have HU := Lib.hid (show (upd V 5 (.bool false)) 4 = .bool true from u4)
            clear u4
            have H := Lib.hid (show ∀ W', Ext W W' → K (fr (upd V 5 (.bool false))) W' from fun W' he => hK _ _ ⟨upd V 5 (.bool false), rfl, HS.ext he, HV.up 5 _ (fun x hx => Option.some.inj hx), fun h => Bs.ext (f1 (more_ne h rfl)) he, fun h => Bs.ext (f3 (more_ne h rfl)) he⟩)
            clear hK hC hW hL HV f1 f3
            rw [HFR.out]
            rw [e4]
            clear e4
            go_wp2_with fail
            show K _ _
            have := H.out _ (Ext.refl _)
            rw [HFR.out] at this
            obtain u4 := HU.out
            rw [u4] at this
            exact this
          · rintro L A W K hL hC hW ⟨V, rfl, HS, HV, f1, f3⟩ hK
            have e5 : V 5 = .bool false := HV 5 _ rfl (hW 5 rfl)
            have u5 : (upd V 6 (.bool false)) 5 = .bool false := e5
            have HU := Lib.hid (show (upd V 6 (.bool false)) 5 = .bool false from u5)
            clear u5
            have H := Lib.hid (show ∀ W', Ext W W' → K (fr (upd V 6 (.bool false))) W' from fun W' he => hK _ _ ⟨upd V 6 (.bool false), rfl, HS.ext he, HV.up 6 _ (fun x hx => Option.some.inj hx), fun h => Bs.ext (f1 (more_ne h rfl)) he, fun h => Bs.ext (f3 (more_ne h rfl)) he⟩)
            clear hK hC hW hL HV f1 f3
            rw [HFR.out]
            rw [e5]
            clear e5
            go_wp2_with fail
            show K _ _
            have := H.out _ (Ext.refl _)
            rw [HFR.out] at this
            obtain u5 := HU.out
            rw [u5] at this
            exact this
          · rintro L A W K hL hC hW ⟨V, rfl, HS, HV, f1, f3⟩ hK
            have e6 : V 6 = .bool false := HV 6 _ rfl (hW 6 rfl)
            have u6 : (upd V 7 (.bool false)) 6 = .bool false := e6
            have HU := Lib.hid (show (upd V 7 (.bool false)) 6 = .bool false from u6)
            clear u6
            have H := Lib.hid (show ∀ W', Ext W W' → K (fr (upd V 7 (.bool false))) W' from fun W' he => hK _ _ ⟨upd V 7 (.bool false), rfl, HS.ext he, HV.up 7 _ (fun x hx => Option.some.inj hx), fun h => Bs.ext (f1 (more_ne h rfl)) he, fun h => Bs.ext (f3 (more_ne h rfl)) he⟩)
            clear hK hC hW hL HV f1 f3
            rw [HFR.out]
            rw [e6]
            clear e6
            go_wp2_with fail
            show K _ _
            have := H.out _ (Ext.refl _)
            rw [HFR.out] at this
            obtain u6 := HU.out
            rw [u6] at this
            exact this
          · rintro L A W K hL hC hW ⟨V, rfl, HS, HV, f1, f3⟩ hK
            have e6 : V 6 = .bool false := HV 6 _ rfl (hW 6 rfl)
            have u6 : (upd V 8 (.bool false)) 6 = .bool false := e6
            have HU := Lib.hid (show (upd V 8 (.bool false)) 6 = .bool false from u6)
            clear u6
            have H := Lib.hid (show ∀ W', Ext W W' → K (fr (upd V 8 (.bool false))) W' from fun W' he => hK _ _ ⟨upd V 8 (.bool false), rfl, HS.ext he, HV.up 8 _ (fun x hx => Option.some.inj hx), fun h => Bs.ext (f1 (more_ne h rfl)) he, fun h => Bs.ext (f3 (more_ne h rfl)) he⟩)
            clear hK hC hW hL HV f1 f3
            rw [HFR.out]
            rw [e6]
            clear e6
            go_wp2_with fail
            show K _ _
            have := H.out _ (Ext.refl _)
            rw [HFR.out] at this
            obtain u6 := HU.out
            rw [u6] at this
            exact this
          · rintro L A W K hL hC hW ⟨V, rfl, HS, HV, f1, f3⟩ hK
            have e6 : V 6 = .bool false := HV 6 _ rfl (hW 6 rfl)
            have e7 : V 7 = .bool false := HV 7 _ rfl (hW 7 rfl)
            have e8 : V 8 = .bool false := HV 8 _ rfl (hW 8 rfl)
            have u6 : (upd V 9 (.bool false)) 6 = .bool false := e6
            have u7 : (upd V 9 (.bool false)) 7 = .bool false := e7
            have u8 : (upd V 9 (.bool false)) 8 = .bool false := e8
            have HU := Lib.hid (show (upd V 9 (.bool false)) 6 = .bool false ∧ (upd V 9 (.bool false)) 7 = .bool false ∧ (upd V 9 (.bool false)) 8 = .bool false from ⟨u6, u7, u8⟩)
            clear u6 u7 u8
            have H := Lib.hid (show ∀ W', Ext W W' → K (fr (upd V 9 (.bool false))) W' from fun W' he => hK _ _ ⟨upd V 9 (.bool false), rfl, HS.ext he, HV.up 9 _ (fun x hx => Option.some.inj hx), fun h => Bs.ext (f1 (more_ne h rfl)) he, fun h => Bs.ext (f3 (more_ne h rfl)) he⟩)
            clear hK hC hW hL HV f1 f3
            rw [HFR.out]
            rw [e6, e7, e8]
            clear e6 e7 e8
            go_wp2_with fail
            show K _ _
            have := H.out _ (Ext.refl _)
            rw [HFR.out] at this
            obtain ⟨u6, u7, u8⟩ := HU.out
            rw [u6, u7, u8] at this
            exact this
          · rintro L A W K hL hC hW ⟨V, rfl, HS, HV, f1, f3⟩ hK
            have e6 : V 6 = .bool false := HV 6 _ rfl (hW 6 rfl)
            have e9 : V 9 = .bool false := HV 9 _ rfl (hW 9 rfl)
            have u6 : (upd V 10 (.bool false)) 6 = .bool false := e6
            have u9 : (upd V 10 (.bool false)) 9 = .bool false := e9
            have HU := Lib.hid (show (upd V 10 (.bool false)) 6 = .bool false ∧ (upd V 10 (.bool false)) 9 = .bool false from ⟨u6, u9⟩)
            clear u6 u9
            have H := Lib.hid (show ∀ W', Ext W W' → K (fr (upd V 10 (.bool false))) W' from fun W' he => hK _ _ ⟨upd V 10 (.bool false), rfl, HS.ext he, HV.up 10 _ (fun x hx => Option.some.inj hx), fun h => Bs.ext (f1 (more_ne h rfl)) he, fun h => Bs.ext (f3 (more_ne h rfl)) he⟩)
            clear hK hC hW hL HV f1 f3
            rw [HFR.out]
            rw [e6, e9]
            clear e6 e9
            go_wp2_with fail
            show K _ _
            have := H.out _ (Ext.refl _)
            rw [HFR.out] at this
            obtain ⟨u6, u9⟩ := HU.out
            rw [u6, u9] at this
            exact this
          · rintro L A W K hL hC hW ⟨V, rfl, HS, HV, f1, f3⟩ hK
            have e10 : V 10 = .bool false := HV 10 _ rfl (hW 10 rfl)
            have u10 : (upd V 11 (.bool false)) 10 = .bool false := e10
            have HU := Lib.hid (show (upd V 11 (.bool false)) 10 = .bool false from u10)
            clear u10
            have H := Lib.hid (show ∀ W', Ext W W' → K (fr (upd V 11 (.bool false))) W' from fun W' he => hK _ _ ⟨upd V 11 (.bool false), rfl, HS.ext he, HV.up 11 _ (fun x hx => Option.some.inj hx), fun h => Bs.ext (f1 (more_ne h rfl)) he, fun h => Bs.ext (f3 (more_ne h rfl)) he⟩)
            clear hK hC hW hL HV f1 f3
            rw [HFR.out]
            rw [e10]
            clear e10
            go_wp2_with fail
            show K _ _
            have := H.out _ (Ext.refl _)
            rw [HFR.out] at this
            obtain u10 := HU.out
            rw [u10] at this
            exact this
          · rintro L A W K hL hC hW ⟨V, rfl, HS, HV, f1, f3⟩ hK
            have e11 : V 11 = .bool false := HV 11 _ rfl (hW 11 rfl)
            have u11 : (upd V 12 (.bool false)) 11 = .bool false := e11
            have HU := Lib.hid (show (upd V 12 (.bool false)) 11 = .bool false from u11)
            clear u11
            have H := Lib.hid (show ∀ W', Ext W W' → K (fr (upd V 12 (.bool false))) W' from fun W' he => hK _ _ ⟨upd V 12 (.bool false), rfl, HS.ext he, HV.up 12 _ (fun x hx => Option.some.inj hx), fun h => Bs.ext (f1 (more_ne h rfl)) he, fun h => Bs.ext (f3 (more_ne h rfl)) he⟩)
            clear hK hC hW hL HV f1 f3
            rw [HFR.out]
            rw [e11]
            clear e11
            go_wp2_with fail
            show K _ _
            have := H.out _ (Ext.refl _)
            rw [HFR.out] at this
            obtain u11 := HU.out
            rw [u11] at this
            exact this
          · rintro L A W K hL hC hW ⟨V, rfl, HS, HV, f1, f3⟩ hK
            have e11 : V 11 = .bool false := HV 11 _ rfl (hW 11 rfl)
            have e12 : V 12 = .bool false := HV 12 _ rfl (hW 12 rfl)
            have u11 : (upd V 13 (.bool false)) 11 = .bool false := e11
            have u12 : (upd V 13 (.bool false)) 12 = .bool false := e12
            have HU := Lib.hid (show (upd V 13 (.bool false)) 11 = .bool false ∧ (upd V 13 (.bool false)) 12 = .bool false from ⟨u11, u12⟩)
            clear u11 u12
            have H := Lib.hid (show ∀ W', Ext W W' → K (fr (upd V 13 (.bool false))) W' from fun W' he => hK _ _ ⟨upd V 13 (.bool false), rfl, HS.ext he, HV.up 13 _ (fun x hx => Option.some.inj hx), fun h => Bs.ext (f1 (more_ne h rfl)) he, fun h => Bs.ext (f3 (more_ne h rfl)) he⟩)
            clear hK hC hW hL HV f1 f3
            rw [HFR.out]
            rw [e11, e12]
            clear e11 e12
            go_wp2_with fail
            show K _ _
            have := H.out _ (Ext.refl _)
            rw [HFR.out] at this
            obtain ⟨u11, u12⟩ := HU.out
            rw [u11, u12] at this
            exact this
          · rintro L A W K hL hC hW ⟨V, rfl, HS, HV, f1, f3⟩ hK
            have e13 : V 13 = .bool false := HV 13 _ rfl (hW 13 rfl)
            have u13 : (upd V 14 (undef)) 13 = .bool false := e13
            have HU := Lib.hid (show (upd V 14 (undef)) 13 = .bool false from u13)
            clear u13
            have H := Lib.hid (show ∀ W', Ext W W' → K (fr (upd V 14 (undef))) W' from fun W' he => hK _ _ ⟨upd V 14 (undef), rfl, HS.ext he, HV.up 14 _ (fun x hx => Option.some.inj hx), fun h => Bs.ext (f1 (more_ne h rfl)) he, fun h => Bs.ext (f3 (more_ne h rfl)) he⟩)
            clear hK hC hW hL HV f1 f3
            rw [HFR.out]
            rw [e13]
            clear e13
            go_wp2_with fail
            show K _ _
            have := H.out _ (Ext.refl _)
            rw [HFR.out] at this
            obtain u13 := HU.out
            rw [u13] at this
            exact this
          · rintro L A W K hL hC hW ⟨V, rfl, HS, HV, f1, f3⟩ hK
            have e13 : V 13 = .bool false := HV 13 _ rfl (hW 13 rfl)
            have u13 : (upd V 15 (undef)) 13 = .bool false := e13
            have HU := Lib.hid (show (upd V 15 (undef)) 13 = .bool false from u13)
            clear u13
            have H := Lib.hid (show ∀ W', Ext W W' → K (fr (upd V 15 (undef))) W' from fun W' he => hK _ _ ⟨upd V 15 (undef), rfl, HS.ext he, HV.up 15 _ (fun x hx => Option.some.inj hx), fun h => Bs.ext (f1 (more_ne h rfl)) he, fun h => Bs.ext (f3 (more_ne h rfl)) he⟩)
            clear hK hC hW hL HV f1 f3
            rw [HFR.out]
            rw [e13]
            clear e13
            go_wp2_with fail
            show K _ _
            have := H.out _ (Ext.refl _)
            rw [HFR.out] at this
            obtain u13 := HU.out
            rw [u13] at this
            exact this
          · rintro L A W K hL hC hW ⟨V, rfl, HS, HV, f1, f3⟩ hK
            have e13 : V 13 = .bool false := HV 13 _ rfl (hW 13 rfl)
            have u13 : (upd V 16 (undef)) 13 = .bool false := e13
            have HU := Lib.hid (show (upd V 16 (undef)) 13 = .bool false from u13)
            clear u13
            have H := Lib.hid (show ∀ W', Ext W W' → K (fr (upd V 16 (undef))) W' from fun W' he => hK _ _ ⟨upd V 16 (undef), rfl, HS.ext he, HV.up 16 _ (fun x hx => Option.some.inj hx), fun h => Bs.ext (f1 (more_ne h rfl)) he, fun h => Bs.ext (f3 (more_ne h rfl)) he⟩)
            clear hK hC hW hL HV f1 f3
            rw [HFR.out]
            rw [e13]
            clear e13
            go_wp2_with fail
            show K _ _
            have := H.out _ (Ext.refl _)
            rw [HFR.out] at this
            obtain u13 := HU.out
            rw [u13] at this
            exact this
          · rintro L A W K hL hC hW ⟨V, rfl, HS, HV, f1, f3⟩ hK
            have e13 : V 13 = .bool false := HV 13 _ rfl (hW 13 rfl)
            have u13 : (upd V 17 (undef)) 13 = .bool false := e13
            have HU := Lib.hid (show (upd V 17 (undef)) 13 = .bool false from u13)
            clear u13
            have H := Lib.hid (show ∀ W', Ext W W' → K (fr (upd V 17 (undef))) W' from fun W' he => hK _ _ ⟨upd V 17 (undef), rfl, HS.ext he, HV.up 17 _ (fun x hx => Option.some.inj hx), fun h => Bs.ext (f1 (more_ne h rfl)) he, fun h => Bs.ext (f3 (more_ne h rfl)) he⟩)
            clear hK hC hW hL HV f1 f3
            rw [HFR.out]
            rw [e13]
            clear e13
            go_wp2_with fail
            show K _ _
            have := H.out _ (Ext.refl _)
            rw [HFR.out] at this
            obtain u13 := HU.out
            rw [u13] at this
            exact this
          · rintro L A W K hL hC hW ⟨V, rfl, HS, HV, f1, f3⟩ hK
            have e11 : V 11 = .bool false := HV 11 _ rfl (hW 11 rfl)
            have e13 : V 13 = .bool false := HV 13 _ rfl (hW 13 rfl)
            have e17 : V 17 = undef := HV 17 _ rfl (hW 17 rfl)
            have u11 : (upd V 18 (.bool false)) 11 = .bool false := e11
            have u13 : (upd V 18 (.bool false)) 13 = .bool false := e13
            have u17 : (upd V 18 (.bool false)) 17 = undef := e17
            have HU := Lib.hid (show (upd V 18 (.bool false)) 11 = .bool false ∧ (upd V 18 (.bool false)) 13 = .bool false ∧ (upd V 18 (.bool false)) 17 = undef from ⟨u11, u13, u17⟩)
            clear u11 u13 u17
            have H := Lib.hid (show ∀ W', Ext W W' → K (fr (upd V 18 (.bool false))) W' from fun W' he => hK _ _ ⟨upd V 18 (.bool false), rfl, HS.ext he, HV.up 18 _ (fun x hx => Option.some.inj hx), fun h => Bs.ext (f1 (more_ne h rfl)) he, fun h => Bs.ext (f3 (more_ne h rfl)) he⟩)
            clear hK hC hW hL HV f1 f3
            rw [HFR.out]
            rw [e11, e13, e17]
            clear e11 e13 e17
            go_wp2_with fail
            show K _ _
            have := H.out _ (Ext.refl _)
            rw [HFR.out] at this
            obtain ⟨u11, u13, u17⟩ := HU.out
            rw [u11, u13, u17] at this
            exact this
          · rintro L A W K hL hC hW ⟨V, rfl, HS, HV, f1, f3⟩ hK
            have e11 : V 11 = .bool false := HV 11 _ rfl (hW 11 rfl)
            have e18 : V 18 = .bool false := HV 18 _ rfl (hW 18 rfl)
            have u11 : (upd V 19 (.bool false)) 11 = .bool false := e11
            have u18 : (upd V 19 (.bool false)) 18 = .bool false := e18
            have HU := Lib.hid (show (upd V 19 (.bool false)) 11 = .bool false ∧ (upd V 19 (.bool false)) 18 = .bool false from ⟨u11, u18⟩)
            clear u11 u18
            have H := Lib.hid (show ∀ W', Ext W W' → K (fr (upd V 19 (.bool false))) W' from fun W' he => hK _ _ ⟨upd V 19 (.bool false), rfl, HS.ext he, HV.up 19 _ (fun x hx => Option.some.inj hx), fun h => Bs.ext (f1 (more_ne h rfl)) he, fun h => Bs.ext (f3 (more_ne h rfl)) he⟩)
            clear hK hC hW hL HV f1 f3
            rw [HFR.out]
            rw [e11, e18]
            clear e11 e18
            go_wp2_with fail
            show K _ _
            have := H.out _ (Ext.refl _)
            rw [HFR.out] at this
            obtain ⟨u11, u18⟩ := HU.out
            rw [u11, u18] at this
            exact this
          · rintro L A W K hL hC hW ⟨V, rfl, HS, HV, f1, f3⟩ hK
            have e19 : V 19 = .bool false := HV 19 _ rfl (hW 19 rfl)
            have u19 : (upd V 20 (.bool false)) 19 = .bool false := e19
            have HU := Lib.hid (show (upd V 20 (.bool false)) 19 = .bool false from u19)
            clear u19
            have H := Lib.hid (show ∀ W', Ext W W' → K (fr (upd V 20 (.bool false))) W' from fun W' he => hK _ _ ⟨upd V 20 (.bool false), rfl, HS.ext he, HV.up 20 _ (fun x hx => Option.some.inj hx), fun h => Bs.ext (f1 (more_ne h rfl)) he, fun h => Bs.ext (f3 (more_ne h rfl)) he⟩)
            clear hK hC hW hL HV f1 f3
            rw [HFR.out]
            rw [e19]
            clear e19
            go_wp2_with fail
            show K _ _
            have := H.out _ (Ext.refl _)
            rw [HFR.out] at this
            obtain u19 := HU.out
            rw [u19] at this
            exact this
          · rintro L A W K hL hC hW ⟨V, rfl, HS, HV, f1, f3⟩ hK
            have e20 : V 20 = .bool false := HV 20 _ rfl (hW 20 rfl)
            have u20 : (upd V 21 (.bool false)) 20 = .bool false := e20
            have HU := Lib.hid (show (upd V 21 (.bool false)) 20 = .bool false from u20)
            clear u20
            have H := Lib.hid (show ∀ W', Ext W W' → K (fr (upd V 21 (.bool false))) W' from fun W' he => hK _ _ ⟨upd V 21 (.bool false), rfl, HS.ext he, HV.up 21 _ (fun x hx => Option.some.inj hx), fun h => Bs.ext (f1 (more_ne h rfl)) he, fun h => Bs.ext (f3 (more_ne h rfl)) he⟩)
            clear hK hC hW hL HV f1 f3
            rw [HFR.out]
            rw [e20]
            clear e20
            go_wp2_with fail
            show K _ _
            have := H.out _ (Ext.refl _)
            rw [HFR.out] at this
            obtain u20 := HU.out
            rw [u20] at this
            exact this
          · rintro L A W K hL hC hW ⟨V, rfl, HS, HV, f1, f3⟩ hK
            have e20 : V 20 = .bool false := HV 20 _ rfl (hW 20 rfl)
            have e21 : V 21 = .bool false := HV 21 _ rfl (hW 21 rfl)
            have u20 : (upd V 22 (.bool true)) 20 = .bool false := e20
            have u21 : (upd V 22 (.bool true)) 21 = .bool false := e21
            have HU := Lib.hid (show (upd V 22 (.bool true)) 20 = .bool false ∧ (upd V 22 (.bool true)) 21 = .bool false from ⟨u20, u21⟩)
            clear u20 u21
            have H := Lib.hid (show ∀ W', Ext W W' → K (fr (upd V 22 (.bool true))) W' from fun W' he => hK _ _ ⟨upd V 22 (.bool true), rfl, HS.ext he, HV.up 22 _ (fun x hx => Option.some.inj hx), fun h => Bs.ext (f1 (more_ne h rfl)) he, fun h => Bs.ext (f3 (more_ne h rfl)) he⟩)
            clear hK hC hW hL HV f1 f3
            rw [HFR.out]
            rw [e20, e21]
            clear e20 e21
            go_wp2_with fail
            show K _ _
            have := H.out _ (Ext.refl _)
            rw [HFR.out] at this
            obtain ⟨u20, u21⟩ := HU.out
            rw [u20, u21] at this
            exact this
          · rintro L A W K hL hC hW ⟨V, rfl, HS, HV, f1, f3⟩ hK
            have e20 : V 20 = .bool false := HV 20 _ rfl (hW 20 rfl)
            have e22 : V 22 = .bool true := HV 22 _ rfl (hW 22 rfl)
            have u20 : (upd V 23 (.bool true)) 20 = .bool false := e20
            have u22 : (upd V 23 (.bool true)) 22 = .bool true := e22
            have HU := Lib.hid (show (upd V 23 (.bool true)) 20 = .bool false ∧ (upd V 23 (.bool true)) 22 = .bool true from ⟨u20, u22⟩)
            clear u20 u22
            have H := Lib.hid (show ∀ W', Ext W W' → K (fr (upd V 23 (.bool true))) W' from fun W' he => hK _ _ ⟨upd V 23 (.bool true), rfl, HS.ext he, HV.up 23 _ (fun x hx => Option.some.inj hx), fun h => Bs.ext (f1 (more_ne h rfl)) he, fun h => Bs.ext (f3 (more_ne h rfl)) he⟩)
            clear hK hC hW hL HV f1 f3
            rw [HFR.out]
            rw [e20, e22]
            clear e20 e22
            go_wp2_with fail
            show K _ _
            have := H.out _ (Ext.refl _)
            rw [HFR.out] at this
            obtain ⟨u20, u22⟩ := HU.out
            rw [u20, u22] at this
            exact this
          · rintro L A W K hL hC hW ⟨V, rfl, HS, HV, f1, f3⟩ hK
            have e23 : V 23 = .bool true := HV 23 _ rfl (hW 23 rfl)
            have u23 : (upd V 24 (.int .u64 0)) 23 = .bool true := e23
            have HU := Lib.hid (show (upd V 24 (.int .u64 0)) 23 = .bool true from u23)
            clear u23
            have H := Lib.hid (show ∀ W', Ext W W' → K (fr (upd V 24 (.int .u64 0))) W' from fun W' he => hK _ _ ⟨upd V 24 (.int .u64 0), rfl, HS.ext he, HV.up 24 _ (fun x hx => Option.some.inj hx), fun h => Bs.ext (f1 (more_ne h rfl)) he, fun h => Bs.ext (f3 (more_ne h rfl)) he⟩)
            clear hK hC hW hL HV f1 f3
            rw [HFR.out]
            rw [e23]
            clear e23
            go_wp2_with fail
            show K _ _
            have := H.out _ (Ext.refl _)
            rw [HFR.out] at this
            obtain u23 := HU.out
            rw [u23] at this
            exact this
          · rintro L A W K hL hC hW ⟨V, rfl, HS, HV, f1, f3⟩ hK
            have e23 : V 23 = .bool true := HV 23 _ rfl (hW 23 rfl)
            have e24 : V 24 = .int .u64 0 := HV 24 _ rfl (hW 24 rfl)
            have u23 : (upd V 25 (.bool false)) 23 = .bool true := e23
            have u24 : (upd V 25 (.bool false)) 24 = .int .u64 0 := e24
            have HU := Lib.hid (show (upd V 25 (.bool false)) 23 = .bool true ∧ (upd V 25 (.bool false)) 24 = .int .u64 0 from ⟨u23, u24⟩)
            clear u23 u24
            have H := Lib.hid (show ∀ W', Ext W W' → K (fr (upd V 25 (.bool false))) W' from fun W' he => hK _ _ ⟨upd V 25 (.bool false), rfl, HS.ext he, HV.up 25 _ (fun x hx => Option.some.inj hx), fun h => Bs.ext (f1 (more_ne h rfl)) he, fun h => Bs.ext (f3 (more_ne h rfl)) he⟩)
            clear hK hC hW hL HV f1 f3
            rw [HFR.out]
            rw [e23, e24]
            clear e23 e24
            go_wp2_with fail
            show K _ _
            have := H.out _ (Ext.refl _)
            rw [HFR.out] at this
            obtain ⟨u23, u24⟩ := HU.out
            rw [u23, u24] at this
            exact this
          · rintro L A W K hL hC hW ⟨V, rfl, HS, HV, f1, f3⟩ hK
            have e20 : V 20 = .bool false := HV 20 _ rfl (hW 20 rfl)
            have e23 : V 23 = .bool true := HV 23 _ rfl (hW 23 rfl)
            have e25 : V 25 = .bool false := HV 25 _ rfl (hW 25 rfl)
            have u20 : (upd V 26 (.bool false)) 20 = .bool false := e20
            have u23 : (upd V 26 (.bool false)) 23 = .bool true := e23
            have u25 : (upd V 26 (.bool false)) 25 = .bool false := e25
            have HU := Lib.hid (show (upd V 26 (.bool false)) 20 = .bool false ∧ (upd V 26 (.bool false)) 23 = .bool true ∧ (upd V 26 (.bool false)) 25 = .bool false from ⟨u20, u23, u25⟩)
            clear u20 u23 u25
            have H := Lib.hid (show ∀ W', Ext W W' → K (fr (upd V 26 (.bool false))) W' from fun W' he => hK _ _ ⟨upd V 26 (.bool false), rfl, HS.ext he, HV.up 26 _ (fun x hx => Option.some.inj hx), fun h => Bs.ext (f1 (more_ne h rfl)) he, fun h => Bs.ext (f3 (more_ne h rfl)) he⟩)
            clear hK hC hW hL HV f1 f3
            rw [HFR.out]
            rw [e20, e23, e25]
            clear e20 e23 e25
            go_wp2_with fail
            show K _ _
            have := H.out _ (Ext.refl _)
            rw [HFR.out] at this
            obtain ⟨u20, u23, u25⟩ := HU.out
            rw [u20, u23, u25] at this
            exact this
          · rintro L A W K hL hC hW ⟨V, rfl, HS, HV, f1, f3⟩ hK
            have e20 : V 20 = .bool false := HV 20 _ rfl (hW 20 rfl)
            have e26 : V 26 = .bool false := HV 26 _ rfl (hW 26 rfl)
            have u20 : (upd V 27 (.bool false)) 20 = .bool false := e20
            have u26 : (upd V 27 (.bool false)) 26 = .bool false := e26
            have HU := Lib.hid (show (upd V 27 (.bool false)) 20 = .bool false ∧ (upd V 27 (.bool false)) 26 = .bool false from ⟨u20, u26⟩)
            clear u20 u26
            have H := Lib.hid (show ∀ W', Ext W W' → K (fr (upd V 27 (.bool false))) W' from fun W' he => hK _ _ ⟨upd V 27 (.bool false), rfl, HS.ext he, HV.up 27 _ (fun x hx => Option.some.inj hx), fun h => Bs.ext (f1 (more_ne h rfl)) he, fun h => Bs.ext (f3 (more_ne h rfl)) he⟩)
            clear hK hC hW hL HV f1 f3
            rw [HFR.out]
            rw [e20, e26]
            clear e20 e26
            go_wp2_with fail
            show K _ _
            have := H.out _ (Ext.refl _)
            rw [HFR.out] at this
            obtain ⟨u20, u26⟩ := HU.out
            rw [u20, u26] at this
            exact this
          · rintro L A W hL ⟨V, rfl, HS, HV, f1, f3⟩
            have e0 : V 0 = wv (x) := HV 0 _ rfl (hL 0 (by simp))
            have e2 : V 2 = wv (x) := HV 2 _ rfl (hL 2 (by simp))
            have e4 : V 4 = .bool true := HV 4 _ rfl (hL 4 (by simp))
            have e5 : V 5 = .bool false := HV 5 _ rfl (hL 5 (by simp))
            have e6 : V 6 = .bool false := HV 6 _ rfl (hL 6 (by simp))
            have e7 : V 7 = .bool false := HV 7 _ rfl (hL 7 (by simp))
            have e8 : V 8 = .bool false := HV 8 _ rfl (hL 8 (by simp))
            have e9 : V 9 = .bool false := HV 9 _ rfl (hL 9 (by simp))
            have e10 : V 10 = .bool false := HV 10 _ rfl (hL 10 (by simp))
            have e11 : V 11 = .bool false := HV 11 _ rfl (hL 11 (by simp))
            have e12 : V 12 = .bool false := HV 12 _ rfl (hL 12 (by simp))
            have e13 : V 13 = .bool false := HV 13 _ rfl (hL 13 (by simp))
            have e14 : V 14 = undef := HV 14 _ rfl (hL 14 (by simp))
            have e15 : V 15 = undef := HV 15 _ rfl (hL 15 (by simp))
            have e16 : V 16 = undef := HV 16 _ rfl (hL 16 (by simp))
            have e17 : V 17 = undef := HV 17 _ rfl (hL 17 (by simp))
            have e18 : V 18 = .bool false := HV 18 _ rfl (hL 18 (by simp))
            have e19 : V 19 = .bool false := HV 19 _ rfl (hL 19 (by simp))
            have e20 : V 20 = .bool false := HV 20 _ rfl (hL 20 (by simp))
            have e21 : V 21 = .bool false := HV 21 _ rfl (hL 21 (by simp))
            have e22 : V 22 = .bool true := HV 22 _ rfl (hL 22 (by simp))
            have e23 : V 23 = .bool true := HV 23 _ rfl (hL 23 (by simp))
            have e24 : V 24 = .int .u64 0 := HV 24 _ rfl (hL 24 (by simp))
            have e25 : V 25 = .bool false := HV 25 _ rfl (hL 25 (by simp))
            have e26 : V 26 = .bool false := HV 26 _ rfl (hL 26 (by simp))
            have e27 : V 27 = .bool false := HV 27 _ rfl (hL 27 (by simp))
            have q51 := f1 (hL 1 (by simp))
            have q53 := f3 (hL 3 (by simp))
            rw [HFR.out]
            rw [e0, e2, e4, e5, e6, e7, e8, e9, e10, e11, e12, e13, e14, e15, e16, e17, e18, e19, e20, e21, e22, e23, e24, e25, e26, e27]
            clear hL HV e0 e2 e4 e5 e6 e7 e8 e9 e10 e11 e12 e13 e14 e15 e16 e17 e18 e19 e20 e21 e22 e23 e24 e25 e26 e27 f1 f3
            have HE := Lib.hid HS.2
            clear HFR HS
            go_wp2_with fail
            go_roundw
            case rel => exact ⟨k + 1, by omega, by omega, by go_num, HE⟩
            case measure => simp [intOf]; omega
    · have HE4 := he
      clear he
      go_wp2_with fail
      go_loopw [12, 13, 14, 15, 81, 82, 83, 84, 85, 86, 87, 88, 89, 90, 91, 92, 93, 94, 95, 96, 97, 98, 99, 100, 101, 102, 103, 104, 105, 106, 107, 108, 109, 110, 111, 112, 113, 114, 115, 116] (fun _ _ _ _ i _ _ _ _ _ _ _ _ _ _ _ _ _ _ _ _ _ _ _ _ _ _ _ _ _ _ _ _ _ _ _ _ _ _ _ wr => ∃ k : Nat, k ≤ raw.length ∧ k ≤ 12 ∧ i = .int .i64 k ∧ Hid (Ext w wr)) (fun _ _ _ _ i _ _ _ _ _ _ _ _ _ _ _ _ _ _ _ _ _ _ _ _ _ _ _ _ _ _ _ _ _ _ _ _ _ _ _ _ => raw.length - (intOf i).toNat)
      case atStart => exact ⟨0, by omega, by omega, rfl, HE4⟩
      case round =>
        clear HE4
        obtain ⟨k, hk, hk12, rfl, he⟩ := hrel
        by_cases hlt : k < raw.length
        · obtain ⟨b0, o0, u0, rfl, hc, hu⟩ := HRR.out.at k hlt
          have hcell := he.out.cell hc
          clear hc
          generalize raw.getD k [] = x at *
          have HX := Lib.hid (hu.ext he.out)
          obtain ⟨A3, c3, rfl, hx1, hx2, _⟩ := hu
          unfold maxLen at hx2
          by_cases h12 : k = 12
          · have hd : ((k : Int) == 12) = true := by rw [h12]; rfl
            clear h12
            go_wp2_with fail
            go_ret
            exact ⟨rfl, he.out⟩
          · have hd : ((k : Int) == 12) = false := by simp only [beq_eq_false_iff_ne]; omega
            obtain ⟨m, hm⟩ : ∃ m, m = min x.length 40 := ⟨_, rfl⟩
            have HY := Lib.hid (HX.out.takeMin 40 m hm)
            have hlen : (x.take 40).length = m := by simp; omega
            have hm40 : m ≤ 40 := by omega
            have hmx : m ≤ x.length := by omega
            have hmi : min (x.length : Int) 40 = (m : Int) := by omega
            have HM := Lib.hid hm
            have hk13 : k + 1 ≤ 12 := by omega
            clear hm h12
            generalize x.take 40 = y at *
            go_wp2_with fail
            refine (read_any _ y _ HY.out).mono ?_
            rintro e w7 ⟨rfl, he7⟩
            have HS := (show Ks w [] w7 from ⟨fun x hx => (by cases hx), he.out.trans he7⟩)
            have HEY0 := Lib.hid he7
            clear he7 hcell HX he
            by_cases hl : y.length ≤ 32
            · rw [show readV y = .tuple #[wv (beN y), .int .i64 0] by unfold readV; rw [if_pos hl]]
              have hby : beN y < M256 := by
                have h1 := beN_lt y
                have h2 : 256 ^ y.length ≤ 256 ^ 32 := Nat.pow_le_pow_right (by decide) hl
                have h3 : (256 : Nat) ^ 32 = M256 := by decide
                omega
              have hgt : decide ((32 : Int) < (m : Int)) = false := by simp; omega
              have HYL := Lib.hid hlen
              clear hlen
              go_wp2_with ((with_reducible refine wpList_store_word rfl rfl 27 (.tmp 14) (.tmp 96) rfl winfo (w7.heap.size) (wc 0) (beN y) ?_ ?_ ?_ ?_ ?_); (exact rfl); (exact rfl); (exact heap_alloc_new _ _); (exact rfl); intro w8 kz gz; have HS := HS.put gz kz; have HEY := Lib.hid (HEY0.out.trans (((Ext.refl _).alloc _).grown gz (Nat.le_refl _))); clear kz gz HEY0)
              have HE8 := Lib.hid HS.2
              have HS := (show Ks w8 [(w7.heap.size, beN y)] w8 from ⟨HS.1, Ext.refl _⟩)
              refine wp_named fun a0 ha0 => ?_
              obtain ⟨fr, hfr⟩ : ∃ fr : (Nat → Value) → Act, ∀ V, fr V = ((((((((a0.put (some 108) (V 0)).put (some 109) (V 1)).put (some 110) (V 2)).put (some 111) (V 3)).put (some 112) (V 4)).put (some 113) (V 5)).put (some 114) (V 6)).put (some 115) (V 7)) := ⟨fun V => ((((((((a0.put (some 108) (V 0)).put (some 109) (V 1)).put (some 110) (V 2)).put (some 111) (V 3)).put (some 112) (V 4)).put (some 113) (V 5)).put (some 114) (V 6)).put (some 115) (V 7)), fun _ => rfl⟩
              rw [ha0] at hfr
              simp only [Act.put, List.setIfInBounds_toArray, List.set_cons_zero, List.set_cons_succ] at hfr
              have HFR := Lib.hid hfr
              clear hfr
              refine wp_region_inv (by kernel_rfl) (by kernel_rfl) (fun L A W => ∃ V : Nat → Value, A = fr V ∧ Ks w8 [(w7.heap.size, beN y)] W ∧ Vals (fun j => ([some (.int .i64 0), some (.bool false), some (.bool false), some (wv (beN y)), some (.slice A3 m c3), some (wv (beN y)), some (.bool false), some (.bool false)] : List (Option Value)).getD j none) L V) ?_ ⟨?_, ?_, ?_, ?_, ?_, ?_, ?_, ?_, trivial⟩ ?_
              · refine ⟨fun j => a0.tmps.getD (([108, 109, 110, 111, 112, 113, 114, 115] : List Nat).getD j 0) undef, ?_, HS.drew, Vals.no _ _ _ (far_none _ _ rfl)⟩
                rw [HFR.out, ha0]
                rfl
              all_goals clear ha0
              · rintro L A W K hL hC hW ⟨V, rfl, HS, HV⟩ hK
                have H := Lib.hid (show ∀ W', Ext W W' → K (fr (upd V 0 (.int .i64 0))) W' from fun W' he => hK _ _ ⟨upd V 0 (.int .i64 0), rfl, HS.ext he, HV.up 0 _ (fun x hx => Option.some.inj hx)⟩)
                clear hK hC hW hL HV 
                rw [HFR.out]
                go_wp2_with fail
                show K _ _
                have := H.out _ (Ext.refl _)
                rw [HFR.out] at this
                exact this
              · rintro L A W K hL hC hW ⟨V, rfl, HS, HV⟩ hK
                have e0 : V 0 = .int .i64 0 := HV 0 _ rfl (hW 0 rfl)
                have u0 : (upd V 1 (.bool false)) 0 = .int .i64 0 := e0
                have HU := Lib.hid (show (upd V 1 (.bool false)) 0 = .int .i64 0 from u0)
                clear u0
                have H := Lib.hid (show ∀ W', Ext W W' → K (fr (upd V 1 (.bool false))) W' from fun W' he => hK _ _ ⟨upd V 1 (.bool false), rfl, HS.ext he, HV.up 1 _ (fun x hx => Option.some.inj hx)⟩)
                clear hK hC hW hL HV 
                rw [HFR.out]
                rw [e0]
                clear e0
                go_wp2_with fail
                show K _ _
                have := H.out _ (Ext.refl _)
                rw [HFR.out] at this
                obtain u0 := HU.out
                rw [u0] at this
                exact this
              · rintro L A W K hL hC hW ⟨V, rfl, HS, HV⟩ hK
                have e1 : V 1 = .bool false := HV 1 _ rfl (hW 1 rfl)
                have u1 : (upd V 2 (.bool false)) 1 = .bool false := e1
                have HU := Lib.hid (show (upd V 2 (.bool false)) 1 = .bool false from u1)
                clear u1
                have H := Lib.hid (show ∀ W', Ext W W' → K (fr (upd V 2 (.bool false))) W' from fun W' he => hK _ _ ⟨upd V 2 (.bool false), rfl, HS.ext he, HV.up 2 _ (fun x hx => Option.some.inj hx)⟩)
                clear hK hC hW hL HV 
                rw [HFR.out]
                rw [e1]
                clear e1
                go_wp2_with fail
                show K _ _
                have := H.out _ (Ext.refl _)
                rw [HFR.out] at this
                obtain u1 := HU.out
                rw [u1] at this
                exact this
              · rintro L A W K hL hC hW ⟨V, rfl, HS, HV⟩ hK
                have e2 : V 2 = .bool false := HV 2 _ rfl (hW 2 rfl)
                have u2 : (upd V 3 (wv (beN y))) 2 = .bool false := e2
                have HU := Lib.hid (show (upd V 3 (wv (beN y))) 2 = .bool false from u2)
                clear u2
                have H := Lib.hid (show ∀ W', Ext W W' → K (fr (upd V 3 (wv (beN y)))) W' from fun W' he => hK _ _ ⟨upd V 3 (wv (beN y)), rfl, HS.ext he, HV.up 3 _ (fun x hx => Option.some.inj hx)⟩)
                clear hK hC hW hL HV 
                rw [HFR.out]
                rw [e2]
                clear e2
                refine wpList_load_wordG rfl 27 25 (.tmp 14) rfl Try.underlying27 winfo (w7.heap.size) (beN y) rfl (HS.at (w7.heap.size) (beN y) (by simp)) ?_
                show K _ _
                have := H.out _ (Ext.refl _)
                rw [HFR.out] at this
                obtain u2 := HU.out
                rw [u2] at this
                exact this
              · rintro L A W K hL hC hW ⟨V, rfl, HS, HV⟩ hK
                have e2 : V 2 = .bool false := HV 2 _ rfl (hW 2 rfl)
                have u2 : (upd V 4 (.slice A3 m c3)) 2 = .bool false := e2
                have HU := Lib.hid (show (upd V 4 (.slice A3 m c3)) 2 = .bool false from u2)
                clear u2
                have H := Lib.hid (show ∀ W', Ext W W' → K (fr (upd V 4 (.slice A3 m c3))) W' from fun W' he => hK _ _ ⟨upd V 4 (.slice A3 m c3), rfl, HS.ext he, HV.up 4 _ (fun x hx => Option.some.inj hx)⟩)
                clear hK hC hW hL HV 
                rw [HFR.out]
                rw [e2]
                clear e2
                go_wp2_with fail
                show K _ _
                have := H.out _ (Ext.refl _)
                rw [HFR.out] at this
                obtain u2 := HU.out
                rw [u2] at this
                exact this
              · rintro L A W K hL hC hW ⟨V, rfl, HS, HV⟩ hK
                have e2 : V 2 = .bool false := HV 2 _ rfl (hW 2 rfl)
                have e4 : V 4 = .slice A3 m c3 := HV 4 _ rfl (hW 4 rfl)
                have u2 : (upd V 5 (wv (beN y))) 2 = .bool false := e2
                have u4 : (upd V 5 (wv (beN y))) 4 = .slice A3 m c3 := e4
                have HU := Lib.hid (show (upd V 5 (wv (beN y))) 2 = .bool false ∧ (upd V 5 (wv (beN y))) 4 = .slice A3 m c3 from ⟨u2, u4⟩)
                clear u2 u4
                have H := Lib.hid (show ∀ W', Ext W W' → K (fr (upd V 5 (wv (beN y)))) W' from fun W' he => hK _ _ ⟨upd V 5 (wv (beN y)), rfl, HS.ext he, HV.up 5 _ (fun x hx => Option.some.inj hx)⟩)
                clear hK hC hW hL HV 
                rw [HFR.out]
                rw [e2, e4]
                clear e2 e4
                go_wp2_with fail
                refine (refRead_any _ y _ (HY.out.ext (HEY.out.trans HS.2)) hl).mono ?_
                rintro e wx ⟨rfl, he⟩
                have := H.out _ he
                clear H
                go_wp2_with fail
                show K _ _
                rw [HFR.out] at this
                obtain ⟨u2, u4⟩ := HU.out
                rw [u2, u4] at this
                exact this
              · rintro L A W K hL hC hW ⟨V, rfl, HS, HV⟩ hK
                have e2 : V 2 = .bool false := HV 2 _ rfl (hW 2 rfl)
                have e3 : V 3 = wv (beN y) := HV 3 _ rfl (hW 3 rfl)
                have e5 : V 5 = wv (beN y) := HV 5 _ rfl (hW 5 rfl)
                have u2 : (upd V 6 (.bool false)) 2 = .bool false := e2
                have u3 : (upd V 6 (.bool false)) 3 = wv (beN y) := e3
                have u5 : (upd V 6 (.bool false)) 5 = wv (beN y) := e5
                have HU := Lib.hid (show (upd V 6 (.bool false)) 2 = .bool false ∧ (upd V 6 (.bool false)) 3 = wv (beN y) ∧ (upd V 6 (.bool false)) 5 = wv (beN y) from ⟨u2, u3, u5⟩)
                clear u2 u3 u5
                have H := Lib.hid (show ∀ W', Ext W W' → K (fr (upd V 6 (.bool false))) W' from fun W' he => hK _ _ ⟨upd V 6 (.bool false), rfl, HS.ext he, HV.up 6 _ (fun x hx => Option.some.inj hx)⟩)
                clear hK hC hW hL HV 
                rw [HFR.out]
                rw [e2, e3, e5]
                clear e2 e3 e5
                refine wpList_neq_word rfl (.tmp 111) (.tmp 113) rfl (beN y) (beN y) (hby) (hby) rfl rfl ?_
                rw [show ((beN y) != (beN y)) = false from bne_self_eq_false _]
                show K _ _
                have := H.out _ (Ext.refl _)
                rw [HFR.out] at this
                obtain ⟨u2, u3, u5⟩ := HU.out
                rw [u2, u3, u5] at this
                exact this
              · rintro L A W K hL hC hW ⟨V, rfl, HS, HV⟩ hK
                have e2 : V 2 = .bool false := HV 2 _ rfl (hW 2 rfl)
                have e6 : V 6 = .bool false := HV 6 _ rfl (hW 6 rfl)
                have u2 : (upd V 7 (.bool false)) 2 = .bool false := e2
                have u6 : (upd V 7 (.bool false)) 6 = .bool false := e6
                have HU := Lib.hid (show (upd V 7 (.bool false)) 2 = .bool false ∧ (upd V 7 (.bool false)) 6 = .bool false from ⟨u2, u6⟩)
                clear u2 u6
                have H := Lib.hid (show ∀ W', Ext W W' → K (fr (upd V 7 (.bool false))) W' from fun W' he => hK _ _ ⟨upd V 7 (.bool false), rfl, HS.ext he, HV.up 7 _ (fun x hx => Option.some.inj hx)⟩)
                clear hK hC hW hL HV 
                rw [HFR.out]
                rw [e2, e6]
                clear e2 e6
                go_wp2_with fail
                show K _ _
                have := H.out _ (Ext.refl _)
                rw [HFR.out] at this
                obtain ⟨u2, u6⟩ := HU.out
                rw [u2, u6] at this
                exact this
              · rintro L A W hL ⟨V, rfl, HS, HV⟩
                have e0 : V 0 = .int .i64 0 := HV 0 _ rfl (hL 0 (by simp))
                have e1 : V 1 = .bool false := HV 1 _ rfl (hL 1 (by simp))
                have e2 : V 2 = .bool false := HV 2 _ rfl (hL 2 (by simp))
                have e3 : V 3 = wv (beN y) := HV 3 _ rfl (hL 3 (by simp))
                have e4 : V 4 = .slice A3 m c3 := HV 4 _ rfl (hL 4 (by simp))
                have e5 : V 5 = wv (beN y) := HV 5 _ rfl (hL 5 (by simp))
                have e6 : V 6 = .bool false := HV 6 _ rfl (hL 6 (by simp))
                have e7 : V 7 = .bool false := HV 7 _ rfl (hL 7 (by simp))
                rw [HFR.out]
                rw [e0, e1, e2, e3, e4, e5, e6, e7]
                clear hL HV e0 e1 e2 e3 e4 e5 e6 e7
                have HE := Lib.hid (HE8.out.trans HS.2)
                clear HFR HS HE8 HEY
                go_wp2_with fail
                go_roundw
                case rel => exact ⟨k + 1, by omega, by omega, by go_num, HE⟩
                case measure => simp [intOf]; omega
            · rw [show readV y = .tuple #[wv 0, .int .i64 3] by unfold readV; rw [if_neg hl]]
              have hgt : decide ((32 : Int) < (m : Int)) = true := by simp; omega
              clear hlen HEY0
              go_wp2_with (first
                | ((with_reducible refine wpList_store_word rfl rfl 27 (.tmp 14) (.tmp 96) rfl winfo (w7.heap.size) (wc 0) (0) ?_ ?_ ?_ ?_ ?_); (exact rfl); (exact rfl); (exact heap_alloc_new _ _); (exact rfl); intro w8 kz gz; have HS := HS.put gz kz; clear kz gz)
                | ((with_reducible refine wpList_load_wordG ?_ 27 25 (.tmp 14) rfl Try.underlying27 winfo (w7.heap.size) (0) ?_ ?_ ?_); (exact rfl); (exact rfl); (exact HS.at (w7.heap.size) (0) (by simp)))
                | ((with_reducible refine wpList_neq_word ?_ (.tmp 104) (.tmp 105) rfl (0) (0) ((by decide)) ((by decide)) ?_ ?_ ?_); (exact rfl); (exact rfl); (exact rfl); rw [show ((0 : Nat) != 0) = false from rfl]))
              have HE := Lib.hid HS.2
              clear HS
              go_wp2_with fail
              go_roundw
              case rel => exact ⟨k + 1, by omega, by omega, by go_num, HE⟩
              case measure => simp [intOf]; omega
        · go_wp2_with fail
          go_ret
          exact ⟨rfl, he.out⟩

set_option maxRecDepth 100000 in
theorem wbytes_told (W : World) (args : Array Value) (h : Told Try.f5 W args) : Calls Try.prog 5 args W (RetT W) := by
  obtain ⟨H, enc, base, ds, p, hval, hA⟩ := h
  rw [Try.params5] at hA hval
  obtain ⟨v0, vs, d0, ds', p0, q0, e0, rfl, rfl, h0, h1⟩ := trodAll_cons hA
  obtain ⟨v1, vs1, d1, ds1, p1, q1, rfl, rfl, rfl, k1, h2⟩ := trodAll_cons h1
  obtain ⟨v2, vs2, d2, ds2, p2, q2, rfl, rfl, rfl, k2, h3⟩ := trodAll_cons h2
  obtain ⟨rfl, rfl, rfl⟩ := trodAll_nil h3
  obtain rfl : args = #[v0, v1, v2] := Array.toList_inj.1 e0
  obtain ⟨l, hl⟩ := ws_came (hval 0 _ v0 rfl rfl) h0
  obtain ⟨n, rfl, hn⟩ := u64_came Try.underlying25 (hval 1 _ v1 rfl rfl) k1
  obtain ⟨f2, k2⟩ := k2
  obtain ⟨v, raw, hv, hraw⟩ := slice_came (α := List UInt8) Try.underlying37 (s := 1) (by kernel_rfl) (by decide) (fun cs x => ∃ u, cs = [u] ∧ Bs W u x) (fun fuel cs x h => by
    obtain ⟨u, l, e, hl⟩ := bytes_trod Try.underlying42 Try.underlying5 (by kernel_rfl) h
    exact ⟨l, u, e, hl⟩) k2
  obtain rfl : v2 = v := by
    obtain ⟨a2, n2, c2, rfl⟩ := okWide_slice Try.underlying37 (hval 2 _ v2 rfl rfl)
    simpa [Value.cells] using hv
  exact wbytes_walk v0 l n v2 raw W hl hn hraw

set_option maxRecDepth 100000 in
theorem wbytes_spec (H : Type) : ∀ ds : List (DataW H), ds.length = Try.f5.params.toList.length → Rows.wordBytesSpec.fn H ds = { results := [.lit (.bool true)], args := ds }
  | [_, _, _], _ => rfl
  | [], h | [_], h | [_, _], h | _ :: _ :: _ :: _ :: _, h => by rw [Try.params5] at h; simp at h

set_option maxRecDepth 100000 in
theorem wordBytes_holds : Rows.WordBytesSaid :=
  OpenClaim.holds_of_wide 5 Try.f5 rfl rfl rfl rfl rfl rfl rfl ⟨rfl, rfl, rfl, rfl, rfl⟩ rfl rfl rfl rfl rfl (by kernel_rfl) Try.func5 (by kernel_rfl)
    (of_decide_eq_true (by kernel_rfl)) (by unfold Func.isWrapper; first | (rw [if_pos (by decide +kernel)]; kernel_rfl) | (rw [if_neg (by decide +kernel)]; exact ⟨rfl, rfl⟩))
    (fun os started H enc _ => law_lifted started (by kernel_rfl) Try.func5 rfl rfl (wbytes_spec H) (of_decide_eq_true (by kernel_rfl))
      (ChangeSpec.witness6 (enc := enc) (C := Try.checked) false ⟨#[], #[.slice none 0 0, .int .u64 0, .slice none 0 0], []⟩ 8 (by kernel_rfl) (by kernel_rfl) (by kernel_rfl) (by kernel_rfl)) wbytes_told)
end Go.Proofs.Ytgmmkoahnednfaa
