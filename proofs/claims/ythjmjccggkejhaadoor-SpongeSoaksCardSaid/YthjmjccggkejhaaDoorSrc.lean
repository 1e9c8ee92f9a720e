/- The document's Rows. -/
import Derived.Test.YthjmjccggkejhaaDoorSrb
import Derived.Test.YthjmjccggkejhaaDoorSpx
import Derived.IntWalk
namespace Go.Proofs.YthjmjccggkejhaaDoor
open Go.RowKit Go.Shelf

def m5 (y : Nat) : Nat := 5 * y
def r5 (a : Nat) : Nat := a % 5
set_option maxRecDepth 100000 in
theorem notL_sub (b : Nat) (hb : b < 18446744073709551616) : 18446744073709551615 - b = notL b := by
  unfold notL
  apply Nat.eq_of_testBit_eq
  intro i
  have h1 := Nat.testBit_two_pow_sub_succ (n := 64) (x := b) hb i
  rw [show 2 ^ 64 - (b + 1) = 18446744073709551615 - b by omega] at h1
  have h2 := Nat.testBit_two_pow_sub_one 64 i
  rw [show (2 : Nat) ^ 64 - 1 = 18446744073709551615 by decide] at h2
  rw [h1, Nat.testBit_xor, h2]
  by_cases h : i < 64
  · simp [h]
  · rw [bit_far b i hb (by omega)]
    simp [h]
set_option maxRecDepth 100000 in
theorem u64_notAnd (a b : Nat) (ha : a < 18446744073709551616) (hb : b < 18446744073709551616) : bits .andNot .u64 (a : Int) (b : Int) = ((notL b &&& a : Nat) : Int) := by
  rw [u64_andNot_nat a b ha hb, notL_sub b hb, Nat.and_comm]
/-- The first k lanes gone over, the others as they were. -/
def rrP (f : Nat → Nat) (k : Nat) : Nat → Nat := fun i => if i < k then rowF f i else f i
set_option maxRecDepth 100000 in
theorem rrP_step (f : Nat → Nat) (k : Nat) : (fun i => if i = k then rowF f k else rrP f k i) = rrP f (k + 1) := by
  funext i
  unfold rrP
  by_cases h : i = k
  · subst h
    rw [if_pos rfl, if_pos (by omega)]
  · rw [if_neg h]
    by_cases h2 : i < k
    · rw [if_pos h2, if_pos (by omega)]
    · rw [if_neg h2, if_neg (by omega)]
set_option maxRecDepth 100000 in
theorem rrP_all (f : Nat → Nat) : lc (rrP f 25) = lc (rowF f) := lc_congr fun i hi => by unfold rrP; rw [if_pos hi]
def RJ (w : World) (f : Nat → Nat) (k : Nat) (W : World) : Prop := Ln W (w.heap.size) (rrP f k) ∧ Ln W (w.heap.size + 1) (fun _ => 0) ∧ Ln W (w.heap.size + 1 + 1) f ∧ Ext w W
set_option maxRecDepth 100000 in
theorem RJ.drew {w : World} {f : Nat → Nat} {k : Nat} {W : World} (h : RJ w f k W) : RJ w f k W.drew := ⟨h.1, h.2.1, h.2.2.1, h.2.2.2.drew⟩
set_option maxRecDepth 100000 in
theorem RJ.put {w : World} {f : Nat → Nat} {k : Nat} {W : World} (h : RJ w f k W) (p v : Nat) (hp : p = k) (hv : v = rowF f k) : RJ w f (k + 1) (W.setCell ⟨w.heap.size, p, none⟩ (.int .u64 (v : Nat))) := by
  subst hp
  subst hv
  refine ⟨?_, h.2.1.kept (grown_set _ _ _ _) (some_ne (by omega)), h.2.2.1.kept (grown_set _ _ _ _) (some_ne (by omega)), h.2.2.2.grown (grown_set _ _ _ _) (Nat.le_refl _)⟩
  have := h.1.set p (rowF f p)
  rwa [rrP_step] at this

set_option maxRecDepth 100000 in
set_option maxHeartbeats 1000000 in
theorem refRows_any (f : Nat → Nat) (w : World) (hf : Lok f) : Calls Tryd.prog 21 #[lnv f] w fun e w' => e = .returned (lnv (rowF f)) ∧ Ext w w' := by
  have HF := Lib.hid hf
  clear hf
  have HL1 : Hid (Ln ((w.alloc (.cells (lc f) 35)).alloc (.cells (lc fun _ => 0) 35)) w.heap.size f) := (Cs.new _ _ _ _ rfl).alloc _
  have HL2 : Hid (Ln ((w.alloc (.cells (lc f) 35)).alloc (.cells (lc fun _ => 0) 35)) (w.heap.size + 1) (fun _ => 0)) := Cs.new _ _ _ _ (by simp)
  have HL3 : Hid (Cs (((w.alloc (.cells (lc f) 35)).alloc (.cells (lc fun _ => 0) 35)).alloc (.cells (lc fun _ => 0) 35)) (w.heap.size + 1 + 1) 35 (lc fun _ => 0)) := Cs.new _ _ _ _ (by simp)
  have HE : Hid (Ext w ((w.alloc (.cells (lc f) 35)).alloc (.cells (lc fun _ => 0) 35))) := ((Ext.refl w).alloc _).alloc _
  rw [lc_zero] at HL1 HL2 HL3 HE
  unfold lnv
  go_enter Tryd.func21, Tryd.ntmps21
  go_wp2_with (first
    | ((with_reducible refine wpList_load_lanes ?_ (.tmp 1) ?_ w.heap.size f ?_ ?_ ?_); (exact rfl); (exact rfl); (exact rfl); (exact HL1.out))
    | ((with_reducible refine wpList_store_lanes ?_ ?_ (.tmp 3) (.tmp 6) ?_ (w.heap.size + 1 + 1) (lc fun _ => 0) f ?_ ?_ ?_ ?_ ?_); (exact rfl); (exact rfl); (exact rfl); (exact rfl); (exact rfl); (exact HL3.out); (exact lc_size _); intro w3 k3 g3; have HJ : Hid (RJ w f (5 * 0) w3) := Lib.hid ⟨Ln.kept (Cs.alloc HL1.out _) g3 (some_ne (by omega)), Ln.kept (Cs.alloc HL2.out _) g3 (some_ne (by omega)), k3, (HE.out.alloc _).grown g3 (by omega)⟩; clear k3 g3))
  clear HL1 HL2 HL3 HE
  go_loopw [4, 5, 7, 8, 9, 10, 11, 12, 13, 14, 15, 16, 17, 18, 19, 20, 21, 22, 23, 24, 25, 26, 27, 28, 29, 30, 31, 32, 33, 34, 35, 36, 37, 38, 39, 40, 41, 42, 43] (fun _ _ u _ _ _ _ _ _ _ _ _ _ _ _ _ _ _ _ _ _ _ _ _ _ _ _ _ _ _ _ _ _ _ _ _ _ _ _ wr => ∃ y : Nat, y ≤ 5 ∧ u = .int .i64 y ∧ Hid (RJ w f (5 * y) wr)) (fun _ _ u _ _ _ _ _ _ _ _ _ _ _ _ _ _ _ _ _ _ _ _ _ _ _ _ _ _ _ _ _ _ _ _ _ _ _ _ _ => 5 - (intOf u).toNat)
  case atStart => exact ⟨0, by omega, rfl, HJ⟩
  case round =>
    clear HJ
    obtain ⟨y, hy, rfl, HJ⟩ := hrel
    by_cases hlt : y < 5
    · have hd : decide ((y : Int) < 5) = true := by simp; omega
      go_wp2_with fail
      go_loopw [5, 10, 11, 12, 13, 14, 15, 16, 17, 18, 19, 20, 21, 22, 23, 24, 25, 26, 27, 28, 29, 30, 31, 32, 33, 34, 35, 36, 37, 38, 39, 40, 41, 42] (fun _ u _ _ _ _ _ _ _ _ _ _ _ _ _ _ _ _ _ _ _ _ _ _ _ _ _ _ _ _ _ _ _ _ wr => ∃ x : Nat, x ≤ 5 ∧ u = .int .i64 x ∧ Hid (RJ w f (5 * y + x) wr)) (fun _ u _ _ _ _ _ _ _ _ _ _ _ _ _ _ _ _ _ _ _ _ _ _ _ _ _ _ _ _ _ _ _ _ _ => 5 - (intOf u).toNat)
      case atStart => exact ⟨0, by omega, rfl, HJ⟩
      case round =>
        clear HJ
        obtain ⟨x, hx, rfl, HJ⟩ := hrel
        by_cases hlx : x < 5
        · have hd2 : decide ((x : Int) < 5) = true := by simp; omega
          have HNM := Lib.hid (show nm x y = 5 * y + x by unfold nm; omega)
          have HRV := Lib.hid (show rowV f x y = rowF f (5 * y + x) by unfold rowF; rw [show (5 * y + x) % 5 = x by omega, show (5 * y + x) / 5 % 5 = y by omega])
          go_upto_region 8 with fail
          refine wp_named fun a0 ha0 => ?_
          obtain ⟨fr, hfr⟩ : ∃ fr : (Nat → Value) → Act, ∀ V, fr V = (((((((((((((((((((((((((((((a0.put (some 13) (V 0)).put (some 14) (V 1)).put (some 15) (V 2)).put (some 16) (V 3)).put (some 17) (V 4)).put (some 18) (V 5)).put (some 19) (V 6)).put (some 20) (V 7)).put (some 21) (V 8)).put (some 22) (V 9)).put (some 23) (V 10)).put (some 24) (V 11)).put (some 25) (V 12)).put (some 26) (V 13)).put (some 27) (V 14)).put (some 28) (V 15)).put (some 29) (V 16)).put (some 30) (V 17)).put (some 31) (V 18)).put (some 32) (V 19)).put (some 33) (V 20)).put (some 34) (V 21)).put (some 35) (V 22)).put (some 36) (V 23)).put (some 37) (V 24)).put (some 38) (V 25)).put (some 39) (V 26)).put (some 40) (V 27)).put (some 41) (V 28)) := ⟨fun V => (((((((((((((((((((((((((((((a0.put (some 13) (V 0)).put (some 14) (V 1)).put (some 15) (V 2)).put (some 16) (V 3)).put (some 17) (V 4)).put (some 18) (V 5)).put (some 19) (V 6)).put (some 20) (V 7)).put (some 21) (V 8)).put (some 22) (V 9)).put (some 23) (V 10)).put (some 24) (V 11)).put (some 25) (V 12)).put (some 26) (V 13)).put (some 27) (V 14)).put (some 28) (V 15)).put (some 29) (V 16)).put (some 30) (V 17)).put (some 31) (V 18)).put (some 32) (V 19)).put (some 33) (V 20)).put (some 34) (V 21)).put (some 35) (V 22)).put (some 36) (V 23)).put (some 37) (V 24)).put (some 38) (V 25)).put (some 39) (V 26)).put (some 40) (V 27)).put (some 41) (V 28)), fun _ => rfl⟩
          rw [ha0] at hfr
          simp only [Act.put, List.setIfInBounds_toArray, List.set_cons_zero, List.set_cons_succ] at hfr
          have HFR := Lib.hid hfr
          clear hfr
          refine wp_region_inv (by kernel_rfl) (by kernel_rfl) (fun L A W => ∃ V : Nat → Value, A = fr V ∧ Vals (fun j => ([some (.int .i64 (y : Nat)), some (.int .i64 (m5 y : Nat)), some (.int .i64 (x : Nat)), some (.int .i64 (nm x y : Nat)), some (.int .i64 (y : Nat)), some (.int .i64 (m5 y : Nat)), some (.int .i64 (x : Nat)), some (.int .i64 (nm x y : Nat)), some (.pointer (some ⟨w.heap.size + 1 + 1, nm x y, none⟩)), some (.int .u64 (f (nm x y) : Nat)), some (.int .i64 (y : Nat)), some (.int .i64 (m5 y : Nat)), some (.int .i64 (x : Nat)), some (.int .i64 (x + 2 : Nat)), some (.int .i64 (r5 (x + 2) : Nat)), some (.int .i64 (nm (x + 2) y : Nat)), some (.pointer (some ⟨w.heap.size + 1 + 1, nm (x + 2) y, none⟩)), some (.int .u64 (f (nm (x + 2) y) : Nat)), some (.int .i64 (y : Nat)), some (.int .i64 (m5 y : Nat)), some (.int .i64 (x : Nat)), some (.int .i64 (x + 1 : Nat)), some (.int .i64 (r5 (x + 1) : Nat)), some (.int .i64 (nm (x + 1) y : Nat)), some (.pointer (some ⟨w.heap.size + 1 + 1, nm (x + 1) y, none⟩)), some (.int .u64 (f (nm (x + 1) y) : Nat)), some (.int .u64 (notL (f (nm (x + 1) y)) &&& f (nm (x + 2) y) : Nat)), some (.int .u64 (rowV f x y : Nat)), some (.pointer (some ⟨w.heap.size, nm x y, none⟩)), none] : List (Option Value)).getD j none) L V ∧ (L 29 = false → RJ w f (5 * y + x) W) ∧ (L 29 = true → RJ w f (5 * y + x + 1) W)) ?_ ⟨?_, ?_, ?_, ?_, ?_, ?_, ?_, ?_, ?_, ?_, ?_, ?_, ?_, ?_, ?_, ?_, ?_, ?_, ?_, ?_, ?_, ?_, ?_, ?_, ?_, ?_, ?_, ?_, ?_, ?_, trivial⟩ ?_
          · refine ⟨fun j => a0.tmps.getD (([13, 14, 15, 16, 17, 18, 19, 20, 21, 22, 23, 24, 25, 26, 27, 28, 29, 30, 31, 32, 33, 34, 35, 36, 37, 38, 39, 40, 41, 0] : List Nat).getD j 0) undef, ?_, Vals.no _ _ _ (far_none _ _ rfl), fun _ => RJ.drew HJ.out, fun h => absurd h (by decide)⟩
            rw [HFR.out, ha0]
            rfl
          all_goals clear ha0
          · rintro L A W K hL hC hW ⟨V, rfl, HV, hb, ha⟩ hK
            have h0 : L 29 = false := hC.no hL 29 _ rfl rfl
            have hB := hb h0
            have H := Lib.hid (hK _ W ⟨upd V 0 (.int .i64 (y : Nat)), rfl, HV.up 0 _ (fun x hx => Option.some.inj hx), fun _ => hB, fun h => absurd (more_ne h rfl) (by rw [h0]; simp)⟩)
            clear hK hC hW hL HV hb ha h0
            rw [HFR.out]
            clear hB
            go_wp2_with fail
            show K _ _
            have := H.out
            rw [HFR.out] at this
            exact this
          · rintro L A W K hL hC hW ⟨V, rfl, HV, hb, ha⟩ hK
            have e0 : V 0 = .int .i64 (y : Nat) := HV 0 _ rfl (hW 0 rfl)
            have h0 : L 29 = false := hC.no hL 29 _ rfl rfl
            have hB := hb h0
            have H := Lib.hid (hK _ W ⟨upd V 1 (.int .i64 (m5 y : Nat)), rfl, HV.up 1 _ (fun x hx => Option.some.inj hx), fun _ => hB, fun h => absurd (more_ne h rfl) (by rw [h0]; simp)⟩)
            clear hK hC hW hL HV hb ha h0
            have u0 : (upd V 1 (.int .i64 (m5 y : Nat))) 0 = .int .i64 (y : Nat) := e0
            have HU := Lib.hid (show (upd V 1 (.int .i64 (m5 y : Nat))) 0 = .int .i64 (y : Nat) from u0)
            clear u0
            rw [HFR.out]
            rw [e0]
            clear e0
            have hq : IntKind.i64.wrap (5 * (y : Int)) = ((m5 y : Nat) : Int) := by unfold m5; rw [IntWalk.i64_in _ (by omega)]; omega
            clear hB
            go_wp2_with fail
            show K _ _
            have := H.out
            rw [HFR.out] at this
            obtain u0 := HU.out
            rw [u0] at this
            exact this
          · rintro L A W K hL hC hW ⟨V, rfl, HV, hb, ha⟩ hK
            have h0 : L 29 = false := hC.no hL 29 _ rfl rfl
            have hB := hb h0
            have H := Lib.hid (hK _ W ⟨upd V 2 (.int .i64 (x : Nat)), rfl, HV.up 2 _ (fun x hx => Option.some.inj hx), fun _ => hB, fun h => absurd (more_ne h rfl) (by rw [h0]; simp)⟩)
            clear hK hC hW hL HV hb ha h0
            rw [HFR.out]
            clear hB
            go_wp2_with fail
            show K _ _
            have := H.out
            rw [HFR.out] at this
            exact this
          · rintro L A W K hL hC hW ⟨V, rfl, HV, hb, ha⟩ hK
            have e1 : V 1 = .int .i64 (m5 y : Nat) := HV 1 _ rfl (hW 1 rfl)
            have e2 : V 2 = .int .i64 (x : Nat) := HV 2 _ rfl (hW 2 rfl)
            have h0 : L 29 = false := hC.no hL 29 _ rfl rfl
            have hB := hb h0
            have H := Lib.hid (hK _ W ⟨upd V 3 (.int .i64 (nm x y : Nat)), rfl, HV.up 3 _ (fun x hx => Option.some.inj hx), fun _ => hB, fun h => absurd (more_ne h rfl) (by rw [h0]; simp)⟩)
            clear hK hC hW hL HV hb ha h0
            have u1 : (upd V 3 (.int .i64 (nm x y : Nat))) 1 = .int .i64 (m5 y : Nat) := e1
            have u2 : (upd V 3 (.int .i64 (nm x y : Nat))) 2 = .int .i64 (x : Nat) := e2
            have HU := Lib.hid (show (upd V 3 (.int .i64 (nm x y : Nat))) 1 = .int .i64 (m5 y : Nat) ∧ (upd V 3 (.int .i64 (nm x y : Nat))) 2 = .int .i64 (x : Nat) from ⟨u1, u2⟩)
            clear u1 u2
            rw [HFR.out]
            rw [e1, e2]
            clear e1 e2
            have hq : IntKind.i64.wrap ((m5 y : Int) + (x : Int)) = ((nm x y : Nat) : Int) := by (try unfold r5); unfold nm m5; rw [IntWalk.i64_in _ (by omega)]; omega
            clear hB
            go_wp2_with fail
            show K _ _
            have := H.out
            rw [HFR.out] at this
            obtain ⟨u1, u2⟩ := HU.out
            rw [u1, u2] at this
            exact this
          · rintro L A W K hL hC hW ⟨V, rfl, HV, hb, ha⟩ hK
            have h0 : L 29 = false := hC.no hL 29 _ rfl rfl
            have hB := hb h0
            have H := Lib.hid (hK _ W ⟨upd V 4 (.int .i64 (y : Nat)), rfl, HV.up 4 _ (fun x hx => Option.some.inj hx), fun _ => hB, fun h => absurd (more_ne h rfl) (by rw [h0]; simp)⟩)
            clear hK hC hW hL HV hb ha h0
            rw [HFR.out]
            clear hB
            go_wp2_with fail
            show K _ _
            have := H.out
            rw [HFR.out] at this
            exact this
          · rintro L A W K hL hC hW ⟨V, rfl, HV, hb, ha⟩ hK
            have e4 : V 4 = .int .i64 (y : Nat) := HV 4 _ rfl (hW 4 rfl)
            have h0 : L 29 = false := hC.no hL 29 _ rfl rfl
            have hB := hb h0
            have H := Lib.hid (hK _ W ⟨upd V 5 (.int .i64 (m5 y : Nat)), rfl, HV.up 5 _ (fun x hx => Option.some.inj hx), fun _ => hB, fun h => absurd (more_ne h rfl) (by rw [h0]; simp)⟩)
            clear hK hC hW hL HV hb ha h0
            have u4 : (upd V 5 (.int .i64 (m5 y : Nat))) 4 = .int .i64 (y : Nat) := e4
            have HU := Lib.hid (show (upd V 5 (.int .i64 (m5 y : Nat))) 4 = .int .i64 (y : Nat) from u4)
            clear u4
            rw [HFR.out]
            rw [e4]
            clear e4
            have hq : IntKind.i64.wrap (5 * (y : Int)) = ((m5 y : Nat) : Int) := by unfold m5; rw [IntWalk.i64_in _ (by omega)]; omega
            clear hB
            go_wp2_with fail
            show K _ _
            have := H.out
            rw [HFR.out] at this
            obtain u4 := HU.out
            rw [u4] at this
            exact this
          · rintro L A W K hL hC hW ⟨V, rfl, HV, hb, ha⟩ hK
            have h0 : L 29 = false := hC.no hL 29 _ rfl rfl
            have hB := hb h0
            have H := Lib.hid (hK _ W ⟨upd V 6 (.int .i64 (x : Nat)), rfl, HV.up 6 _ (fun x hx => Option.some.inj hx), fun _ => hB, fun h => absurd (more_ne h rfl) (by rw [h0]; simp)⟩)
            clear hK hC hW hL HV hb ha h0
            rw [HFR.out]
            clear hB
            go_wp2_with fail
            show K _ _
            have := H.out
            rw [HFR.out] at this
            exact this
          · rintro L A W K hL hC hW ⟨V, rfl, HV, hb, ha⟩ hK
            have e5 : V 5 = .int .i64 (m5 y : Nat) := HV 5 _ rfl (hW 5 rfl)
            have e6 : V 6 = .int .i64 (x : Nat) := HV 6 _ rfl (hW 6 rfl)
            have h0 : L 29 = false := hC.no hL 29 _ rfl rfl
            have hB := hb h0
            have H := Lib.hid (hK _ W ⟨upd V 7 (.int .i64 (nm x y : Nat)), rfl, HV.up 7 _ (fun x hx => Option.some.inj hx), fun _ => hB, fun h => absurd (more_ne h rfl) (by rw [h0]; simp)⟩)
            clear hK hC hW hL HV hb ha h0
            have u5 : (upd V 7 (.int .i64 (nm x y : Nat))) 5 = .int .i64 (m5 y : Nat) := e5
            have u6 : (upd V 7 (.int .i64 (nm x y : Nat))) 6 = .int .i64 (x : Nat) := e6
            have HU := Lib.hid (show (upd V 7 (.int .i64 (nm x y : Nat))) 5 = .int .i64 (m5 y : Nat) ∧ (upd V 7 (.int .i64 (nm x y : Nat))) 6 = .int .i64 (x : Nat) from ⟨u5, u6⟩)
            clear u5 u6
            rw [HFR.out]
            rw [e5, e6]
            clear e5 e6
            have hq : IntKind.i64.wrap ((m5 y : Int) + (x : Int)) = ((nm x y : Nat) : Int) := by (try unfold r5); unfold nm m5; rw [IntWalk.i64_in _ (by omega)]; omega
            clear hB
            go_wp2_with fail
            show K _ _
            have := H.out
            rw [HFR.out] at this
            obtain ⟨u5, u6⟩ := HU.out
            rw [u5, u6] at this
            exact this
          · rintro L A W K hL hC hW ⟨V, rfl, HV, hb, ha⟩ hK
            have e7 : V 7 = .int .i64 (nm x y : Nat) := HV 7 _ rfl (hW 7 rfl)
            have h0 : L 29 = false := hC.no hL 29 _ rfl rfl
            have hB := hb h0
            have H := Lib.hid (hK _ W ⟨upd V 8 (.pointer (some ⟨w.heap.size + 1 + 1, nm x y, none⟩)), rfl, HV.up 8 _ (fun x hx => Option.some.inj hx), fun _ => hB, fun h => absurd (more_ne h rfl) (by rw [h0]; simp)⟩)
            clear hK hC hW hL HV hb ha h0
            have u7 : (upd V 8 (.pointer (some ⟨w.heap.size + 1 + 1, nm x y, none⟩))) 7 = .int .i64 (nm x y : Nat) := e7
            have HU := Lib.hid (show (upd V 8 (.pointer (some ⟨w.heap.size + 1 + 1, nm x y, none⟩))) 7 = .int .i64 (nm x y : Nat) from u7)
            clear u7
            rw [HFR.out]
            rw [e7]
            clear e7
            have hi := nm_lt x y
            have h1 : (0 : Int) ≤ (nm x y : Int) := by omega
            have h2 : (nm x y : Int) < 25 := by omega
            clear hB
            go_wp2_with fail
            show K _ _
            have := H.out
            rw [HFR.out] at this
            obtain u7 := HU.out
            rw [u7] at this
            exact this
          · rintro L A W K hL hC hW ⟨V, rfl, HV, hb, ha⟩ hK
            have e8 : V 8 = .pointer (some ⟨w.heap.size + 1 + 1, nm x y, none⟩) := HV 8 _ rfl (hW 8 rfl)
            have h0 : L 29 = false := hC.no hL 29 _ rfl rfl
            have hB := hb h0
            have H := Lib.hid (hK _ W ⟨upd V 9 (.int .u64 (f (nm x y) : Nat)), rfl, HV.up 9 _ (fun x hx => Option.some.inj hx), fun _ => hB, fun h => absurd (more_ne h rfl) (by rw [h0]; simp)⟩)
            clear hK hC hW hL HV hb ha h0
            have u8 : (upd V 9 (.int .u64 (f (nm x y) : Nat))) 8 = .pointer (some ⟨w.heap.size + 1 + 1, nm x y, none⟩) := e8
            have HU := Lib.hid (show (upd V 9 (.int .u64 (f (nm x y) : Nat))) 8 = .pointer (some ⟨w.heap.size + 1 + 1, nm x y, none⟩) from u8)
            clear u8
            rw [HFR.out]
            rw [e8]
            clear e8
            have hc := Ln.cell hB.2.2.1 (nm x y) (nm_lt _ _)
            clear hB
            go_wp2_with fail
            show K _ _
            have := H.out
            rw [HFR.out] at this
            obtain u8 := HU.out
            rw [u8] at this
            exact this
          · rintro L A W K hL hC hW ⟨V, rfl, HV, hb, ha⟩ hK
            have h0 : L 29 = false := hC.no hL 29 _ rfl rfl
            have hB := hb h0
            have H := Lib.hid (hK _ W ⟨upd V 10 (.int .i64 (y : Nat)), rfl, HV.up 10 _ (fun x hx => Option.some.inj hx), fun _ => hB, fun h => absurd (more_ne h rfl) (by rw [h0]; simp)⟩)
            clear hK hC hW hL HV hb ha h0
            rw [HFR.out]
            clear hB
            go_wp2_with fail
            show K _ _
            have := H.out
            rw [HFR.out] at this
            exact this
          · rintro L A W K hL hC hW ⟨V, rfl, HV, hb, ha⟩ hK
            have e10 : V 10 = .int .i64 (y : Nat) := HV 10 _ rfl (hW 10 rfl)
            have h0 : L 29 = false := hC.no hL 29 _ rfl rfl
            have hB := hb h0
            have H := Lib.hid (hK _ W ⟨upd V 11 (.int .i64 (m5 y : Nat)), rfl, HV.up 11 _ (fun x hx => Option.some.inj hx), fun _ => hB, fun h => absurd (more_ne h rfl) (by rw [h0]; simp)⟩)
            clear hK hC hW hL HV hb ha h0
            have u10 : (upd V 11 (.int .i64 (m5 y : Nat))) 10 = .int .i64 (y : Nat) := e10
            have HU := Lib.hid (show (upd V 11 (.int .i64 (m5 y : Nat))) 10 = .int .i64 (y : Nat) from u10)
            clear u10
            rw [HFR.out]
            rw [e10]
            clear e10
            have hq : IntKind.i64.wrap (5 * (y : Int)) = ((m5 y : Nat) : Int) := by unfold m5; rw [IntWalk.i64_in _ (by omega)]; omega
            clear hB
            go_wp2_with fail
            show K _ _
            have := H.out
            rw [HFR.out] at this
            obtain u10 := HU.out
            rw [u10] at this
            exact this
          · rintro L A W K hL hC hW ⟨V, rfl, HV, hb, ha⟩ hK
            have h0 : L 29 = false := hC.no hL 29 _ rfl rfl
            have hB := hb h0
            have H := Lib.hid (hK _ W ⟨upd V 12 (.int .i64 (x : Nat)), rfl, HV.up 12 _ (fun x hx => Option.some.inj hx), fun _ => hB, fun h => absurd (more_ne h rfl) (by rw [h0]; simp)⟩)
            clear hK hC hW hL HV hb ha h0
            rw [HFR.out]
            clear hB
            go_wp2_with fail
            show K _ _
            have := H.out
            rw [HFR.out] at this
            exact this
          · rintro L A W K hL hC hW ⟨V, rfl, HV, hb, ha⟩ hK
            have e12 : V 12 = .int .i64 (x : Nat) := HV 12 _ rfl (hW 12 rfl)
            have h0 : L 29 = false := hC.no hL 29 _ rfl rfl
            have hB := hb h0
            have H := Lib.hid (hK _ W ⟨upd V 13 (.int .i64 (x + 2 : Nat)), rfl, HV.up 13 _ (fun x hx => Option.some.inj hx), fun _ => hB, fun h => absurd (more_ne h rfl) (by rw [h0]; simp)⟩)
            clear hK hC hW hL HV hb ha h0
            have u12 : (upd V 13 (.int .i64 (x + 2 : Nat))) 12 = .int .i64 (x : Nat) := e12
            have HU := Lib.hid (show (upd V 13 (.int .i64 (x + 2 : Nat))) 12 = .int .i64 (x : Nat) from u12)
            clear u12
            rw [HFR.out]
            rw [e12]
            clear e12
            have hq : IntKind.i64.wrap ((x : Int) + 2) = ((x + 2 : Nat) : Int) := by rw [IntWalk.i64_in _ (by omega)]; omega
            clear hB
            go_wp2_with fail
            show K _ _
            have := H.out
            rw [HFR.out] at this
            obtain u12 := HU.out
            rw [u12] at this
            exact this
          · rintro L A W K hL hC hW ⟨V, rfl, HV, hb, ha⟩ hK
            have e13 : V 13 = .int .i64 (x + 2 : Nat) := HV 13 _ rfl (hW 13 rfl)
            have h0 : L 29 = false := hC.no hL 29 _ rfl rfl
            have hB := hb h0
            have H := Lib.hid (hK _ W ⟨upd V 14 (.int .i64 (r5 (x + 2) : Nat)), rfl, HV.up 14 _ (fun x hx => Option.some.inj hx), fun _ => hB, fun h => absurd (more_ne h rfl) (by rw [h0]; simp)⟩)
            clear hK hC hW hL HV hb ha h0
            have u13 : (upd V 14 (.int .i64 (r5 (x + 2) : Nat))) 13 = .int .i64 (x + 2 : Nat) := e13
            have HU := Lib.hid (show (upd V 14 (.int .i64 (r5 (x + 2) : Nat))) 13 = .int .i64 (x + 2 : Nat) from u13)
            clear u13
            rw [HFR.out]
            rw [e13]
            clear e13
            have hq : Int.tmod ((x + 2 : Nat) : Int) 5 = ((r5 (x + 2) : Nat) : Int) := by unfold r5; rw [Int.tmod_eq_emod_of_nonneg (by omega)]; omega
            have hq2 : ((x + 2 : Nat) : Int) % 5 = ((r5 (x + 2) : Nat) : Int) := by unfold r5; omega
            have hq3 : ((x : Int) + 2) % 5 = ((r5 (x + 2) : Nat) : Int) := by unfold r5; omega
            clear hB
            go_wp2_with fail
            show K _ _
            have := H.out
            rw [HFR.out] at this
            obtain u13 := HU.out
            rw [u13] at this
            exact this
          · rintro L A W K hL hC hW ⟨V, rfl, HV, hb, ha⟩ hK
            have e11 : V 11 = .int .i64 (m5 y : Nat) := HV 11 _ rfl (hW 11 rfl)
            have e14 : V 14 = .int .i64 (r5 (x + 2) : Nat) := HV 14 _ rfl (hW 14 rfl)
            have h0 : L 29 = false := hC.no hL 29 _ rfl rfl
            have hB := hb h0
            have H := Lib.hid (hK _ W ⟨upd V 15 (.int .i64 (nm (x + 2) y : Nat)), rfl, HV.up 15 _ (fun x hx => Option.some.inj hx), fun _ => hB, fun h => absurd (more_ne h rfl) (by rw [h0]; simp)⟩)
            clear hK hC hW hL HV hb ha h0
            have u11 : (upd V 15 (.int .i64 (nm (x + 2) y : Nat))) 11 = .int .i64 (m5 y : Nat) := e11
            have u14 : (upd V 15 (.int .i64 (nm (x + 2) y : Nat))) 14 = .int .i64 (r5 (x + 2) : Nat) := e14
            have HU := Lib.hid (show (upd V 15 (.int .i64 (nm (x + 2) y : Nat))) 11 = .int .i64 (m5 y : Nat) ∧ (upd V 15 (.int .i64 (nm (x + 2) y : Nat))) 14 = .int .i64 (r5 (x + 2) : Nat) from ⟨u11, u14⟩)
            clear u11 u14
            rw [HFR.out]
            rw [e11, e14]
            clear e11 e14
            have hq : IntKind.i64.wrap ((m5 y : Int) + (r5 (x + 2) : Int)) = ((nm (x + 2) y : Nat) : Int) := by (try unfold r5); unfold nm m5; rw [IntWalk.i64_in _ (by omega)]; omega
            clear hB
            go_wp2_with fail
            show K _ _
            have := H.out
            rw [HFR.out] at this
            obtain ⟨u11, u14⟩ := HU.out
            rw [u11, u14] at this
            exact this
          · rintro L A W K hL hC hW ⟨V, rfl, HV, hb, ha⟩ hK
            have e15 : V 15 = .int .i64 (nm (x + 2) y : Nat) := HV 15 _ rfl (hW 15 rfl)
            have h0 : L 29 = false := hC.no hL 29 _ rfl rfl
            have hB := hb h0
            have H := Lib.hid (hK _ W ⟨upd V 16 (.pointer (some ⟨w.heap.size + 1 + 1, nm (x + 2) y, none⟩)), rfl, HV.up 16 _ (fun x hx => Option.some.inj hx), fun _ => hB, fun h => absurd (more_ne h rfl) (by rw [h0]; simp)⟩)
            clear hK hC hW hL HV hb ha h0
            have u15 : (upd V 16 (.pointer (some ⟨w.heap.size + 1 + 1, nm (x + 2) y, none⟩))) 15 = .int .i64 (nm (x + 2) y : Nat) := e15
            have HU := Lib.hid (show (upd V 16 (.pointer (some ⟨w.heap.size + 1 + 1, nm (x + 2) y, none⟩))) 15 = .int .i64 (nm (x + 2) y : Nat) from u15)
            clear u15
            rw [HFR.out]
            rw [e15]
            clear e15
            have hi := nm_lt (x + 2) y
            have h1 : (0 : Int) ≤ (nm (x + 2) y : Int) := by omega
            have h2 : (nm (x + 2) y : Int) < 25 := by omega
            clear hB
            go_wp2_with fail
            show K _ _
            have := H.out
            rw [HFR.out] at this
            obtain u15 := HU.out
            rw [u15] at this
            exact this
          · rintro L A W K hL hC hW ⟨V, rfl, HV, hb, ha⟩ hK
            have e16 : V 16 = .pointer (some ⟨w.heap.size + 1 + 1, nm (x + 2) y, none⟩) := HV 16 _ rfl (hW 16 rfl)
            have h0 : L 29 = false := hC.no hL 29 _ rfl rfl
            have hB := hb h0
            have H := Lib.hid (hK _ W ⟨upd V 17 (.int .u64 (f (nm (x + 2) y) : Nat)), rfl, HV.up 17 _ (fun x hx => Option.some.inj hx), fun _ => hB, fun h => absurd (more_ne h rfl) (by rw [h0]; simp)⟩)
            clear hK hC hW hL HV hb ha h0
            have u16 : (upd V 17 (.int .u64 (f (nm (x + 2) y) : Nat))) 16 = .pointer (some ⟨w.heap.size + 1 + 1, nm (x + 2) y, none⟩) := e16
            have HU := Lib.hid (show (upd V 17 (.int .u64 (f (nm (x + 2) y) : Nat))) 16 = .pointer (some ⟨w.heap.size + 1 + 1, nm (x + 2) y, none⟩) from u16)
            clear u16
            rw [HFR.out]
            rw [e16]
            clear e16
            have hc := Ln.cell hB.2.2.1 (nm (x + 2) y) (nm_lt _ _)
            clear hB
            go_wp2_with fail
            show K _ _
            have := H.out
            rw [HFR.out] at this
            obtain u16 := HU.out
            rw [u16] at this
            exact this
          · rintro L A W K hL hC hW ⟨V, rfl, HV, hb, ha⟩ hK
            have h0 : L 29 = false := hC.no hL 29 _ rfl rfl
            have hB := hb h0
            have H := Lib.hid (hK _ W ⟨upd V 18 (.int .i64 (y : Nat)), rfl, HV.up 18 _ (fun x hx => Option.some.inj hx), fun _ => hB, fun h => absurd (more_ne h rfl) (by rw [h0]; simp)⟩)
            clear hK hC hW hL HV hb ha h0
            rw [HFR.out]
            clear hB
            go_wp2_with fail
            show K _ _
            have := H.out
            rw [HFR.out] at this
            exact this
          · rintro L A W K hL hC hW ⟨V, rfl, HV, hb, ha⟩ hK
            have e18 : V 18 = .int .i64 (y : Nat) := HV 18 _ rfl (hW 18 rfl)
            have h0 : L 29 = false := hC.no hL 29 _ rfl rfl
            have hB := hb h0
            have H := Lib.hid (hK _ W ⟨upd V 19 (.int .i64 (m5 y : Nat)), rfl, HV.up 19 _ (fun x hx => Option.some.inj hx), fun _ => hB, fun h => absurd (more_ne h rfl) (by rw [h0]; simp)⟩)
            clear hK hC hW hL HV hb ha h0
            have u18 : (upd V 19 (.int .i64 (m5 y : Nat))) 18 = .int .i64 (y : Nat) := e18
            have HU := Lib.hid (show (upd V 19 (.int .i64 (m5 y : Nat))) 18 = .int .i64 (y : Nat) from u18)
            clear u18
            rw [HFR.out]
            rw [e18]
            clear e18
            have hq : IntKind.i64.wrap (5 * (y : Int)) = ((m5 y : Nat) : Int) := by unfold m5; rw [IntWalk.i64_in _ (by omega)]; omega
            clear hB
            go_wp2_with fail
            show K _ _
            have := H.out
            rw [HFR.out] at this
            obtain u18 := HU.out
            rw [u18] at this
            exact this
          · rintro L A W K hL hC hW ⟨V, rfl, HV, hb, ha⟩ hK
            have h0 : L 29 = false := hC.no hL 29 _ rfl rfl
            have hB := hb h0
            have H := Lib.hid (hK _ W ⟨upd V 20 (.int .i64 (x : Nat)), rfl, HV.up 20 _ (fun x hx => Option.some.inj hx), fun _ => hB, fun h => absurd (more_ne h rfl) (by rw [h0]; simp)⟩)
            clear hK hC hW hL HV hb ha h0
            rw [HFR.out]
            clear hB
            go_wp2_with fail
            show K _ _
            have := H.out
            rw [HFR.out] at this
            exact this
          · rintro L A W K hL hC hW ⟨V, rfl, HV, hb, ha⟩ hK
            have e20 : V 20 = .int .i64 (x : Nat) := HV 20 _ rfl (hW 20 rfl)
            have h0 : L 29 = false := hC.no hL 29 _ rfl rfl
            have hB := hb h0
            have H := Lib.hid (hK _ W ⟨upd V 21 (.int .i64 (x + 1 : Nat)), rfl, HV.up 21 _ (fun x hx => Option.some.inj hx), fun _ => hB, fun h => absurd (more_ne h rfl) (by rw [h0]; simp)⟩)
            clear hK hC hW hL HV hb ha h0
            have u20 : (upd V 21 (.int .i64 (x + 1 : Nat))) 20 = .int .i64 (x : Nat) := e20
            have HU := Lib.hid (show (upd V 21 (.int .i64 (x + 1 : Nat))) 20 = .int .i64 (x : Nat) from u20)
            clear u20
            rw [HFR.out]
            rw [e20]
            clear e20
            have hq : IntKind.i64.wrap ((x : Int) + 1) = ((x + 1 : Nat) : Int) := by rw [IntWalk.i64_in _ (by omega)]; omega
            clear hB
            go_wp2_with fail
            show K _ _
            have := H.out
            rw [HFR.out] at this
            obtain u20 := HU.out
            rw [u20] at this
            exact this
          · rintro L A W K hL hC hW ⟨V, rfl, HV, hb, ha⟩ hK
            have e21 : V 21 = .int .i64 (x + 1 : Nat) := HV 21 _ rfl (hW 21 rfl)
            have h0 : L 29 = false := hC.no hL 29 _ rfl rfl
            have hB := hb h0
            have H := Lib.hid (hK _ W ⟨upd V 22 (.int .i64 (r5 (x + 1) : Nat)), rfl, HV.up 22 _ (fun x hx => Option.some.inj hx), fun _ => hB, fun h => absurd (more_ne h rfl) (by rw [h0]; simp)⟩)
            clear hK hC hW hL HV hb ha h0
            have u21 : (upd V 22 (.int .i64 (r5 (x + 1) : Nat))) 21 = .int .i64 (x + 1 : Nat) := e21
            have HU := Lib.hid (show (upd V 22 (.int .i64 (r5 (x + 1) : Nat))) 21 = .int .i64 (x + 1 : Nat) from u21)
            clear u21
            rw [HFR.out]
            rw [e21]
            clear e21
            have hq : Int.tmod ((x + 1 : Nat) : Int) 5 = ((r5 (x + 1) : Nat) : Int) := by unfold r5; rw [Int.tmod_eq_emod_of_nonneg (by omega)]; omega
            have hq2 : ((x + 1 : Nat) : Int) % 5 = ((r5 (x + 1) : Nat) : Int) := by unfold r5; omega
            have hq3 : ((x : Int) + 1) % 5 = ((r5 (x + 1) : Nat) : Int) := by unfold r5; omega
            clear hB
            go_wp2_with fail
            show K _ _
            have := H.out
            rw [HFR.out] at this
            obtain u21 := HU.out
            rw [u21] at this
            exact this
          · rintro L A W K hL hC hW ⟨V, rfl, HV, hb, ha⟩ hK
            have e19 : V 19 = .int .i64 (m5 y : Nat) := HV 19 _ rfl (hW 19 rfl)
            have e22 : V 22 = .int .i64 (r5 (x + 1) : Nat) := HV 22 _ rfl (hW 22 rfl)
            have h0 : L 29 = false := hC.no hL 29 _ rfl rfl
            have hB := hb h0
            have H := Lib.hid (hK _ W ⟨upd V 23 (.int .i64 (nm (x + 1) y : Nat)), rfl, HV.up 23 _ (fun x hx => Option.some.inj hx), fun _ => hB, fun h => absurd (more_ne h rfl) (by rw [h0]; simp)⟩)
            clear hK hC hW hL HV hb ha h0
            have u19 : (upd V 23 (.int .i64 (nm (x + 1) y : Nat))) 19 = .int .i64 (m5 y : Nat) := e19
            have u22 : (upd V 23 (.int .i64 (nm (x + 1) y : Nat))) 22 = .int .i64 (r5 (x + 1) : Nat) := e22
            have HU := Lib.hid (show (upd V 23 (.int .i64 (nm (x + 1) y : Nat))) 19 = .int .i64 (m5 y : Nat) ∧ (upd V 23 (.int .i64 (nm (x + 1) y : Nat))) 22 = .int .i64 (r5 (x + 1) : Nat) from ⟨u19, u22⟩)
            clear u19 u22
            rw [HFR.out]
            rw [e19, e22]
            clear e19 e22
            have hq : IntKind.i64.wrap ((m5 y : Int) + (r5 (x + 1) : Int)) = ((nm (x + 1) y : Nat) : Int) := by (try unfold r5); unfold nm m5; rw [IntWalk.i64_in _ (by omega)]; omega
            clear hB
            go_wp2_with fail
            show K _ _
            have := H.out
            rw [HFR.out] at this
            obtain ⟨u19, u22⟩ := HU.out
            rw [u19, u22] at this
            exact this
          · rintro L A W K hL hC hW ⟨V, rfl, HV, hb, ha⟩ hK
            have e23 : V 23 = .int .i64 (nm (x + 1) y : Nat) := HV 23 _ rfl (hW 23 rfl)
            have h0 : L 29 = false := hC.no hL 29 _ rfl rfl
            have hB := hb h0
            have H := Lib.hid (hK _ W ⟨upd V 24 (.pointer (some ⟨w.heap.size + 1 + 1, nm (x + 1) y, none⟩)), rfl, HV.up 24 _ (fun x hx => Option.some.inj hx), fun _ => hB, fun h => absurd (more_ne h rfl) (by rw [h0]; simp)⟩)
            clear hK hC hW hL HV hb ha h0
            have u23 : (upd V 24 (.pointer (some ⟨w.heap.size + 1 + 1, nm (x + 1) y, none⟩))) 23 = .int .i64 (nm (x + 1) y : Nat) := e23
            have HU := Lib.hid (show (upd V 24 (.pointer (some ⟨w.heap.size + 1 + 1, nm (x + 1) y, none⟩))) 23 = .int .i64 (nm (x + 1) y : Nat) from u23)
            clear u23
            rw [HFR.out]
            rw [e23]
            clear e23
            have hi := nm_lt (x + 1) y
            have h1 : (0 : Int) ≤ (nm (x + 1) y : Int) := by omega
            have h2 : (nm (x + 1) y : Int) < 25 := by omega
            clear hB
            go_wp2_with fail
            show K _ _
            have := H.out
            rw [HFR.out] at this
            obtain u23 := HU.out
            rw [u23] at this
            exact this
          · rintro L A W K hL hC hW ⟨V, rfl, HV, hb, ha⟩ hK
            have e24 : V 24 = .pointer (some ⟨w.heap.size + 1 + 1, nm (x + 1) y, none⟩) := HV 24 _ rfl (hW 24 rfl)
            have h0 : L 29 = false := hC.no hL 29 _ rfl rfl
            have hB := hb h0
            have H := Lib.hid (hK _ W ⟨upd V 25 (.int .u64 (f (nm (x + 1) y) : Nat)), rfl, HV.up 25 _ (fun x hx => Option.some.inj hx), fun _ => hB, fun h => absurd (more_ne h rfl) (by rw [h0]; simp)⟩)
            clear hK hC hW hL HV hb ha h0
            have u24 : (upd V 25 (.int .u64 (f (nm (x + 1) y) : Nat))) 24 = .pointer (some ⟨w.heap.size + 1 + 1, nm (x + 1) y, none⟩) := e24
            have HU := Lib.hid (show (upd V 25 (.int .u64 (f (nm (x + 1) y) : Nat))) 24 = .pointer (some ⟨w.heap.size + 1 + 1, nm (x + 1) y, none⟩) from u24)
            clear u24
            rw [HFR.out]
            rw [e24]
            clear e24
            have hc := Ln.cell hB.2.2.1 (nm (x + 1) y) (nm_lt _ _)
            clear hB
            go_wp2_with fail
            show K _ _
            have := H.out
            rw [HFR.out] at this
            obtain u24 := HU.out
            rw [u24] at this
            exact this
          · rintro L A W K hL hC hW ⟨V, rfl, HV, hb, ha⟩ hK
            have e17 : V 17 = .int .u64 (f (nm (x + 2) y) : Nat) := HV 17 _ rfl (hW 17 rfl)
            have e25 : V 25 = .int .u64 (f (nm (x + 1) y) : Nat) := HV 25 _ rfl (hW 25 rfl)
            have h0 : L 29 = false := hC.no hL 29 _ rfl rfl
            have hB := hb h0
            have H := Lib.hid (hK _ W ⟨upd V 26 (.int .u64 (notL (f (nm (x + 1) y)) &&& f (nm (x + 2) y) : Nat)), rfl, HV.up 26 _ (fun x hx => Option.some.inj hx), fun _ => hB, fun h => absurd (more_ne h rfl) (by rw [h0]; simp)⟩)
            clear hK hC hW hL HV hb ha h0
            have u17 : (upd V 26 (.int .u64 (notL (f (nm (x + 1) y)) &&& f (nm (x + 2) y) : Nat))) 17 = .int .u64 (f (nm (x + 2) y) : Nat) := e17
            have u25 : (upd V 26 (.int .u64 (notL (f (nm (x + 1) y)) &&& f (nm (x + 2) y) : Nat))) 25 = .int .u64 (f (nm (x + 1) y) : Nat) := e25
            have HU := Lib.hid (show (upd V 26 (.int .u64 (notL (f (nm (x + 1) y)) &&& f (nm (x + 2) y) : Nat))) 17 = .int .u64 (f (nm (x + 2) y) : Nat) ∧ (upd V 26 (.int .u64 (notL (f (nm (x + 1) y)) &&& f (nm (x + 2) y) : Nat))) 25 = .int .u64 (f (nm (x + 1) y) : Nat) from ⟨u17, u25⟩)
            clear u17 u25
            rw [HFR.out]
            rw [e17, e25]
            clear e17 e25
            have hn := u64_notAnd (f (nm (x + 2) y)) (f (nm (x + 1) y)) (HF.out _ (nm_lt _ _)) (HF.out _ (nm_lt _ _))
            clear hB
            go_wp2_with fail
            show K _ _
            have := H.out
            rw [HFR.out] at this
            obtain ⟨u17, u25⟩ := HU.out
            rw [u17, u25] at this
            exact this
          · rintro L A W K hL hC hW ⟨V, rfl, HV, hb, ha⟩ hK
            have e9 : V 9 = .int .u64 (f (nm x y) : Nat) := HV 9 _ rfl (hW 9 rfl)
            have e26 : V 26 = .int .u64 (notL (f (nm (x + 1) y)) &&& f (nm (x + 2) y) : Nat) := HV 26 _ rfl (hW 26 rfl)
            have h0 : L 29 = false := hC.no hL 29 _ rfl rfl
            have hB := hb h0
            have H := Lib.hid (hK _ W ⟨upd V 27 (.int .u64 (rowV f x y : Nat)), rfl, HV.up 27 _ (fun x hx => Option.some.inj hx), fun _ => hB, fun h => absurd (more_ne h rfl) (by rw [h0]; simp)⟩)
            clear hK hC hW hL HV hb ha h0
            have u9 : (upd V 27 (.int .u64 (rowV f x y : Nat))) 9 = .int .u64 (f (nm x y) : Nat) := e9
            have u26 : (upd V 27 (.int .u64 (rowV f x y : Nat))) 26 = .int .u64 (notL (f (nm (x + 1) y)) &&& f (nm (x + 2) y) : Nat) := e26
            have HU := Lib.hid (show (upd V 27 (.int .u64 (rowV f x y : Nat))) 9 = .int .u64 (f (nm x y) : Nat) ∧ (upd V 27 (.int .u64 (rowV f x y : Nat))) 26 = .int .u64 (notL (f (nm (x + 1) y)) &&& f (nm (x + 2) y) : Nat) from ⟨u9, u26⟩)
            clear u9 u26
            rw [HFR.out]
            rw [e9, e26]
            clear e9 e26
            have hn := u64_xor_nat (f (nm x y)) (notL (f (nm (x + 1) y)) &&& f (nm (x + 2) y)) (HF.out _ (nm_lt _ _)) (and_lt64 _ _ (HF.out _ (nm_lt _ _)))
            clear hB
            go_wp2_with fail
            show K _ _
            have := H.out
            rw [HFR.out] at this
            obtain ⟨u9, u26⟩ := HU.out
            rw [u9, u26] at this
            exact this
          · rintro L A W K hL hC hW ⟨V, rfl, HV, hb, ha⟩ hK
            have e3 : V 3 = .int .i64 (nm x y : Nat) := HV 3 _ rfl (hW 3 rfl)
            have h0 : L 29 = false := hC.no hL 29 _ rfl rfl
            have hB := hb h0
            have H := Lib.hid (hK _ W ⟨upd V 28 (.pointer (some ⟨w.heap.size, nm x y, none⟩)), rfl, HV.up 28 _ (fun x hx => Option.some.inj hx), fun _ => hB, fun h => absurd (more_ne h rfl) (by rw [h0]; simp)⟩)
            clear hK hC hW hL HV hb ha h0
            have u3 : (upd V 28 (.pointer (some ⟨w.heap.size, nm x y, none⟩))) 3 = .int .i64 (nm x y : Nat) := e3
            have HU := Lib.hid (show (upd V 28 (.pointer (some ⟨w.heap.size, nm x y, none⟩))) 3 = .int .i64 (nm x y : Nat) from u3)
            clear u3
            rw [HFR.out]
            rw [e3]
            clear e3
            have hi := nm_lt x y
            have h1 : (0 : Int) ≤ (nm x y : Int) := by omega
            have h2 : (nm x y : Int) < 25 := by omega
            clear hB
            go_wp2_with fail
            show K _ _
            have := H.out
            rw [HFR.out] at this
            obtain u3 := HU.out
            rw [u3] at this
            exact this
          · rintro L A W K hL hC hW ⟨V, rfl, HV, hb, ha⟩ hK
            have e28 : V 28 = .pointer (some ⟨w.heap.size, nm x y, none⟩) := HV 28 _ rfl (hW 28 rfl)
            have e27 : V 27 = .int .u64 (rowV f x y : Nat) := HV 27 _ rfl (hW 27 rfl)
            have hB := hb hL
            have H := Lib.hid (show ∀ W', RJ w f (5 * y + x + 1) W' → K (fr V) W' from fun W' hA => hK _ W' ⟨V, rfl, HV.st 29 rfl, fun h => absurd h (by unfold More; rw [if_pos rfl]; simp), fun _ => hA⟩)
            clear hK hC hW hL HV hb ha
            have HU := Lib.hid (show V 28 = .pointer (some ⟨w.heap.size, nm x y, none⟩) ∧ V 27 = .int .u64 (rowV f x y : Nat) from ⟨e28, e27⟩)
            rw [HFR.out]
            rw [e28, e27]
            clear e28 e27
            have hz := Ln.cell hB.1 (nm x y) (nm_lt _ _)
            have hf := Cs.frozen hB.1 (nm x y)
            have HA := Lib.hid (RJ.put hB (nm x y) (rowV f x y) HNM.out HRV.out)
            clear hB
            go_wp2_with fail
            show K _ _
            have := H.out _ HA.out
            rw [HFR.out] at this
            obtain ⟨u28, u27⟩ := HU.out
            rw [u28, u27] at this
            exact this
          · rintro L A W hL ⟨V, rfl, HV, hb, ha⟩
            have e0 : V 0 = .int .i64 (y : Nat) := HV 0 _ rfl (hL 0 (by simp))
            have e1 : V 1 = .int .i64 (m5 y : Nat) := HV 1 _ rfl (hL 1 (by simp))
            have e2 : V 2 = .int .i64 (x : Nat) := HV 2 _ rfl (hL 2 (by simp))
            have e3 : V 3 = .int .i64 (nm x y : Nat) := HV 3 _ rfl (hL 3 (by simp))
            have e4 : V 4 = .int .i64 (y : Nat) := HV 4 _ rfl (hL 4 (by simp))
            have e5 : V 5 = .int .i64 (m5 y : Nat) := HV 5 _ rfl (hL 5 (by simp))
            have e6 : V 6 = .int .i64 (x : Nat) := HV 6 _ rfl (hL 6 (by simp))
            have e7 : V 7 = .int .i64 (nm x y : Nat) := HV 7 _ rfl (hL 7 (by simp))
            have e8 : V 8 = .pointer (some ⟨w.heap.size + 1 + 1, nm x y, none⟩) := HV 8 _ rfl (hL 8 (by simp))
            have e9 : V 9 = .int .u64 (f (nm x y) : Nat) := HV 9 _ rfl (hL 9 (by simp))
            have e10 : V 10 = .int .i64 (y : Nat) := HV 10 _ rfl (hL 10 (by simp))
            have e11 : V 11 = .int .i64 (m5 y : Nat) := HV 11 _ rfl (hL 11 (by simp))
            have e12 : V 12 = .int .i64 (x : Nat) := HV 12 _ rfl (hL 12 (by simp))
            have e13 : V 13 = .int .i64 (x + 2 : Nat) := HV 13 _ rfl (hL 13 (by simp))
            have e14 : V 14 = .int .i64 (r5 (x + 2) : Nat) := HV 14 _ rfl (hL 14 (by simp))
            have e15 : V 15 = .int .i64 (nm (x + 2) y : Nat) := HV 15 _ rfl (hL 15 (by simp))
            have e16 : V 16 = .pointer (some ⟨w.heap.size + 1 + 1, nm (x + 2) y, none⟩) := HV 16 _ rfl (hL 16 (by simp))
            have e17 : V 17 = .int .u64 (f (nm (x + 2) y) : Nat) := HV 17 _ rfl (hL 17 (by simp))
            have e18 : V 18 = .int .i64 (y : Nat) := HV 18 _ rfl (hL 18 (by simp))
            have e19 : V 19 = .int .i64 (m5 y : Nat) := HV 19 _ rfl (hL 19 (by simp))
            have e20 : V 20 = .int .i64 (x : Nat) := HV 20 _ rfl (hL 20 (by simp))
            have e21 : V 21 = .int .i64 (x + 1 : Nat) := HV 21 _ rfl (hL 21 (by simp))
            have e22 : V 22 = .int .i64 (r5 (x + 1) : Nat) := HV 22 _ rfl (hL 22 (by simp))
            have e23 : V 23 = .int .i64 (nm (x + 1) y : Nat) := HV 23 _ rfl (hL 23 (by simp))
            have e24 : V 24 = .pointer (some ⟨w.heap.size + 1 + 1, nm (x + 1) y, none⟩) := HV 24 _ rfl (hL 24 (by simp))
            have e25 : V 25 = .int .u64 (f (nm (x + 1) y) : Nat) := HV 25 _ rfl (hL 25 (by simp))
            have e26 : V 26 = .int .u64 (notL (f (nm (x + 1) y)) &&& f (nm (x + 2) y) : Nat) := HV 26 _ rfl (hL 26 (by simp))
            have e27 : V 27 = .int .u64 (rowV f x y : Nat) := HV 27 _ rfl (hL 27 (by simp))
            have e28 : V 28 = .pointer (some ⟨w.heap.size, nm x y, none⟩) := HV 28 _ rfl (hL 28 (by simp))
            have hA := ha (hL 29 (by simp))
            rw [HFR.out]
            rw [e0, e1, e2, e3, e4, e5, e6, e7, e8, e9, e10, e11, e12, e13, e14, e15, e16, e17, e18, e19, e20, e21, e22, e23, e24, e25, e26, e27, e28]
            clear hL HV HFR e0 e1 e2 e3 e4 e5 e6 e7 e8 e9 e10 e11 e12 e13 e14 e15 e16 e17 e18 e19 e20 e21 e22 e23 e24 e25 e26 e27 e28 hb ha
            clear HNM HRV
            have HJ2 := Lib.hid hA
            clear hA HJ
            go_wp2_with fail
            exact ⟨⟨x + 1, by omega, by go_num, HJ2⟩, by simp [intOf]; omega⟩
        · obtain rfl : x = 5 := by omega
          go_wp2_with fail
          exact ⟨⟨y + 1, by omega, by go_num, HJ⟩, by simp [intOf]; omega⟩
    · obtain rfl : y = 5 := by omega
      have HL1 := Lib.hid HJ.out.1
      have HL2 := Lib.hid HJ.out.2.1
      have HE := Lib.hid HJ.out.2.2.2
      clear HJ
      go_wp2_with (first
        | ((with_reducible refine wpList_load_lanes ?_ (.tmp 1) ?_ w.heap.size (rrP f 25) ?_ ?_ ?_); (exact rfl); (exact rfl); (exact rfl); (exact HL1.out))
        | ((with_reducible refine wpList_store_lanes ?_ ?_ (.tmp 2) (.tmp 44) ?_ (w.heap.size + 1) (lc fun _ => 0) (rrP f 25) ?_ ?_ ?_ ?_ ?_); (exact rfl); (exact rfl); (exact rfl); (exact rfl); (exact rfl); (exact HL2.out); (exact lc_size _); intro w7 k7 g7; have K7 := Lib.hid k7; have HE7 := Lib.hid (HE.out.grown g7 (by omega)); clear k7 g7))
      exact bodyPost_ret (results_lanes Tryd.results21 _ _ (w.heap.size + 1) _ rfl K7.out) rfl ⟨by unfold lnv; rw [rrP_all], HE7.out⟩
end Go.Proofs.YthjmjccggkejhaaDoor
