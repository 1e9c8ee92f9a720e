/- The document's Mix. -/
import Derived.Test.YthjmjccggkejhaaDoorSrc
namespace Go.Proofs.YthjmjccggkejhaaDoor
open Go.RowKit Go.Shelf

set_option maxRecDepth 100000 in
theorem r5_lt (a : Nat) : r5 a < 5 := Nat.mod_lt _ (by decide)
set_option maxRecDepth 100000 in
theorem left_one (a : Nat) (w : World) (ha : a < 18446744073709551616) : Calls Tryd.prog 51 #[.int .u64 (a : Int), .int .i64 1] w fun e w' => e = .returned (.int .u64 (rot 1 a : Nat)) ∧ Ext w w' := left_any a 1 w ha (by decide)
set_option maxRecDepth 100000 in
theorem idx_lanes25 (f : Nat → Nat) (i : Nat) (hi : i < 25) (u : World) : (Instr.index 35 (lnv f) (.int .i64 (i : Nat))).run Tryd.prog u = .ok (.int .u64 (f i : Nat)) u := by
  match i, hi with
  | 0, _ => rfl
  | 1, _ => rfl
  | 2, _ => rfl
  | 3, _ => rfl
  | 4, _ => rfl
  | 5, _ => rfl
  | 6, _ => rfl
  | 7, _ => rfl
  | 8, _ => rfl
  | 9, _ => rfl
  | 10, _ => rfl
  | 11, _ => rfl
  | 12, _ => rfl
  | 13, _ => rfl
  | 14, _ => rfl
  | 15, _ => rfl
  | 16, _ => rfl
  | 17, _ => rfl
  | 18, _ => rfl
  | 19, _ => rfl
  | 20, _ => rfl
  | 21, _ => rfl
  | 22, _ => rfl
  | 23, _ => rfl
  | 24, _ => rfl
  | n + 25, h => exact absurd h (by omega)
set_option maxRecDepth 100000 in
theorem nc5_zero : nc 5 (fun _ => 0) = #[.int .u64 0, .int .u64 0, .int .u64 0, .int .u64 0, .int .u64 0] := rfl
set_option maxRecDepth 100000 in
theorem colP_next (f : Nat → Nat) (k : Nat) (hk : k < 25) : nc 5 (fun i => if i = k % 5 then colP f (List.range k) (k % 5) ^^^ f k else colP f (List.range k) i) = nc 5 (colP f (List.range (k + 1))) := by
  have : (fun i => if i = k % 5 then colP f (List.range k) (k % 5) ^^^ f k else colP f (List.range k) i) = colP f (List.range (k + 1)) := by
    funext i
    rw [List.range_succ, colP_snoc, Nat.mod_eq_of_lt hk]
    by_cases h : i = k % 5
    · subst h
      simp
    · rw [if_neg h, if_neg (fun e => h e.symm)]
  rw [this]
/-- Columns, as far as k lanes have come. -/
def MC (w : World) (f : Nat → Nat) (k : Nat) (W : World) : Prop := Ln W (w.heap.size) f ∧ Ln W (w.heap.size + 1) (fun _ => 0) ∧ Cs W (w.heap.size + 1 + 1) 71 (nc 5 (colP f (List.range k))) ∧ Ext w W
set_option maxRecDepth 100000 in
theorem MC.put {w : World} {f : Nat → Nat} {k : Nat} {W : World} (h : MC w f k W) (hk : k < 25) (m v : Nat) (hm : k % 5 = m) (hv : v = colP f (List.range k) m ^^^ f k) : MC w f (k + 1) (W.setCell ⟨w.heap.size + 1 + 1, m, none⟩ (.int .u64 (v : Nat))) := by
  subst hm
  subst hv
  refine ⟨h.1.kept (grown_set _ _ _ _) (some_ne (by omega)), h.2.1.kept (grown_set _ _ _ _) (some_ne (by omega)), ?_, h.2.2.2.grown (grown_set _ _ _ _) (by omega)⟩
  have := h.2.2.1.set (k % 5) (.int .u64 ((colP f (List.range k) (k % 5) ^^^ f k : Nat)))
  rw [show Value.int .u64 ((colP f (List.range k) (k % 5) ^^^ f k : Nat) : Int) = lv (colP f (List.range k) (k % 5) ^^^ f k) from rfl, nc_set, colP_next f k hk] at this
  exact this
/-- The first k lanes with their columns, the others as they were. -/
def thP (f : Nat → Nat) (k : Nat) : Nat → Nat := fun i => if i < k then thT f i else f i
set_option maxRecDepth 100000 in
theorem thP_zero (f : Nat → Nat) : thP f 0 = f := by funext i; unfold thP; rw [if_neg (by omega)]
def MJ (w : World) (f : Nat → Nat) (k : Nat) (W : World) : Prop := Ln W (w.heap.size) (thP f k) ∧ Ln W (w.heap.size + 1) (fun _ => 0) ∧ Cs W (w.heap.size + 1 + 1) 71 (nc 5 (colF f)) ∧ Ext w W
set_option maxRecDepth 100000 in
theorem MJ.ext {w : World} {f : Nat → Nat} {k : Nat} {W W' : World} (h : MJ w f k W) (he : Ext W W') : MJ w f k W' := ⟨h.1.ext he, h.2.1.ext he, h.2.2.1.ext he, h.2.2.2.trans he⟩
set_option maxRecDepth 100000 in
theorem MJ.put {w : World} {f : Nat → Nat} {k : Nat} {W : World} (h : MJ w f k W) (v : Nat) (_hk : k < 25) (hv : v = thT f k) : MJ w f (k + 1) (W.setCell ⟨w.heap.size, k, none⟩ (.int .u64 (v : Nat))) := by
  subst hv
  refine ⟨?_, h.2.1.kept (grown_set _ _ _ _) (some_ne (by omega)), h.2.2.1.kept (grown_set _ _ _ _) (some_ne (by omega)), h.2.2.2.grown (grown_set _ _ _ _) (Nat.le_refl _)⟩
  have := h.1.set k (thT f k)
  have e : (fun i => if i = k then thT f k else thP f k i) = thP f (k + 1) := thP_step f k
  rwa [e] at this
set_option maxRecDepth 100000 in
theorem thT_at (f : Nat → Nat) (k m : Nat) (hm : k % 5 = m) : f k ^^^ (colF f (r5 (m + 4)) ^^^ rot 1 (colF f (r5 (m + 1)))) = thT f k := by subst hm; rfl
/-- Lanes behind t steps. -/
def MR (w : World) (f : Nat → Nat) (t : Nat) (W : World) : Prop := Ln W (w.heap.size) (rhP (thT f) t) ∧ Ln W (w.heap.size + 1) (fun _ => 0) ∧ Ext w W
set_option maxRecDepth 100000 in
theorem MR.ext {w : World} {f : Nat → Nat} {t : Nat} {W W' : World} (h : MR w f t W) (he : Ext W W') : MR w f t W' := ⟨h.1.ext he, h.2.1.ext he, h.2.2.trans he⟩
set_option maxRecDepth 100000 in
theorem MR.put {w : World} {f : Nat → Nat} {t : Nat} {W : World} (h : MR w f t W) (N v : Nat) (hN : N = ppN (t + 1)) (hv : v = rot ((t + 1) * (t + 2) / 2 % 64) (thT f (ppN t))) : MR w f (t + 1) (W.setCell ⟨w.heap.size, N, none⟩ (.int .u64 (v : Nat))) := by
  subst hN
  subst hv
  exact ⟨h.1.set _ _, h.2.1.kept (grown_set _ _ _ _) (some_ne (by omega)), h.2.2.grown (grown_set _ _ _ _) (Nat.le_refl _)⟩
set_option maxRecDepth 100000 in
theorem MJ.mr {w : World} {f : Nat → Nat} {W : World} (h : MJ w f 25 W) : MR w f 0 W := by
  refine ⟨?_, h.2.1, h.2.2.2⟩
  have e : lc (thP f 25) = lc (rhP (thT f) 0) := lc_congr fun i hi => by unfold thP; rw [if_pos hi]; rfl
  have := h.1
  unfold Ln at this ⊢
  rwa [e] at this
set_option maxRecDepth 100000 in
theorem rhP_all (f : Nat → Nat) (hf : Lok f) : lc (rhP (thT f) 24) = lc (mixF f) := lc_congr fun i hi => rhP_mix f hf i hi
set_option maxRecDepth 100000 in
theorem i64_prod (t : Nat) (ht : t < 24) : IntKind.i64.wrap (((t : Int) + 1) * ((t : Int) + 2)) = (((t + 1) * (t + 2) : Nat) : Int) := by
  have h : ∀ s : Fin 24, IntKind.i64.wrap (((s.val : Int) + 1) * ((s.val : Int) + 2)) = (((s.val + 1) * (s.val + 2) : Nat) : Int) := by decide +kernel
  exact h ⟨t, ht⟩
set_option maxRecDepth 100000 in
theorem tri_le (t : Nat) (ht : t < 24) : (t + 1) * (t + 2) ≤ 600 := Nat.mul_le_mul (show t + 1 ≤ 24 by omega) (show t + 2 ≤ 25 by omega)

set_option maxRecDepth 100000 in
set_option maxHeartbeats 1000000 in
theorem refMix_any (f : Nat → Nat) (w : World) (hf : Lok f) : Calls Tryd.prog 19 #[lnv f] w fun e w' => e = .returned (lnv (mixF f)) ∧ Ext w w' := by
  have HF := Lib.hid hf
  clear hf
  have HJ : Hid (MC w f 0 (((w.alloc (.cells (lc f) 35)).alloc (.cells (lc fun _ => 0) 35)).alloc (.cells (nc 5 fun _ => 0) 71))) :=
    Lib.hid ⟨((Cs.new _ _ _ _ rfl).alloc _).alloc _, (Cs.new _ _ _ _ (by simp)).alloc _, Cs.new _ _ _ _ (by simp), (((Ext.refl w).alloc _).alloc _).alloc _⟩
  rw [lc_zero, nc5_zero] at HJ
  unfold lnv
  go_enter Tryd.func19, Tryd.ntmps19
  go_wp2_with ((with_reducible refine wpList_load_lanes ?_ (.tmp 1) ?_ w.heap.size f ?_ ?_ ?_); (exact rfl); (exact rfl); (exact rfl); (exact HJ.out.1))
  go_loopw [4, 5, 13, 14, 15, 16, 17, 18, 19, 20, 21, 22, 23, 24] (fun _ _ u _ _ _ _ _ _ _ _ _ _ _ wr => ∃ k : Nat, k ≤ 25 ∧ u = .int .i64 k ∧ Hid (MC w f k wr)) (fun _ _ u _ _ _ _ _ _ _ _ _ _ _ _ => 25 - (intOf u).toNat)
  case atStart => exact ⟨0, by omega, rfl, HJ⟩
  case round =>
    clear HJ
    obtain ⟨k, hk, rfl, HJ⟩ := hrel
    by_cases hlt : k < 25
    · have hd : decide ((k : Int) < 25) = true := by simp; omega
      have hix := idx_lanes25 f k hlt
      obtain ⟨m, hm⟩ : ∃ m, k % 5 = m := ⟨_, rfl⟩
      have hmi : (k : Int) % 5 = (m : Int) := by omega
      have hm5 : m < 5 := by omega
      have hm0 : (0 : Int) ≤ (m : Int) := by omega
      have hm6 : (m : Int) < 5 := by omega
      have hc := Cs.cell HJ.out.2.2.1 m _ (nc_get 5 _ m hm5)
      unfold lv at hc
      have hf := Cs.frozen HJ.out.2.2.1 m
      have hx := u64_xor_nat (colP f (List.range k) m) (f k) (colP_lt f HF.out _ m) (HF.out k hlt)
      have HP := Lib.hid (MC.put HJ.out hlt m _ hm rfl)
      clear hm hm5 HJ
      generalize colP f (List.range k) m ^^^ f k = v at *
      generalize colP f (List.range k) m = c at *
      generalize f k = b at *
      go_wp2_with fail
      exact ⟨⟨k + 1, by omega, by go_num, HP⟩, by simp [intOf]; omega⟩
    · obtain rfl : k = 25 := by omega
      have HJ2 : Hid (MJ w f 0 wr) := Lib.hid ⟨by rw [thP_zero]; exact HJ.out.1, HJ.out.2.1, HJ.out.2.2.1, HJ.out.2.2.2⟩
      clear HJ
      go_wp2_with fail
      go_loopw [6, 7, 25, 26, 27, 28, 29, 30, 31, 32, 33, 34, 35, 36, 37, 38, 39, 40, 41, 42, 43, 44, 45, 46, 47] (fun _ _ u _ _ _ _ _ _ _ _ _ _ _ _ _ _ _ _ _ _ _ _ _ _ wr => ∃ k : Nat, k ≤ 25 ∧ u = .int .i64 k ∧ Hid (MJ w f k wr)) (fun _ _ u _ _ _ _ _ _ _ _ _ _ _ _ _ _ _ _ _ _ _ _ _ _ _ => 25 - (intOf u).toNat)
      case atStart => exact ⟨0, by omega, rfl, HJ2⟩
      case round =>
        clear HJ2
        obtain ⟨k, hk, rfl, HJ⟩ := hrel
        by_cases hlt : k < 25
        · have hd : decide ((k : Int) < 25) = true := by simp; omega
          obtain ⟨m, hm⟩ : ∃ m, k % 5 = m := ⟨_, rfl⟩
          have hmi : (k : Int) % 5 = (m : Int) := by omega
          have hm5 : m < 5 := by omega
          have HTT := Lib.hid (thT_at f k m hm)
          have HTK := Lib.hid (show thP f k k = f k by unfold thP; rw [if_neg (by omega)])
          clear hm
          go_upto_region 11 with fail
          rw [hmi]
          clear hmi
          refine wp_named fun a0 ha0 => ?_
          obtain ⟨fr, hfr⟩ : ∃ fr : (Nat → Value) → Act, ∀ V, fr V = (((((((((((((((((a0.put (some 30) (V 0)).put (some 31) (V 1)).put (some 32) (V 2)).put (some 33) (V 3)).put (some 34) (V 4)).put (some 35) (V 5)).put (some 36) (V 6)).put (some 37) (V 7)).put (some 38) (V 8)).put (some 39) (V 9)).put (some 40) (V 10)).put (some 41) (V 11)).put (some 42) (V 12)).put (some 43) (V 13)).put (some 44) (V 14)).put (some 45) (V 15)).put (some 46) (V 16)) := ⟨fun V => (((((((((((((((((a0.put (some 30) (V 0)).put (some 31) (V 1)).put (some 32) (V 2)).put (some 33) (V 3)).put (some 34) (V 4)).put (some 35) (V 5)).put (some 36) (V 6)).put (some 37) (V 7)).put (some 38) (V 8)).put (some 39) (V 9)).put (some 40) (V 10)).put (some 41) (V 11)).put (some 42) (V 12)).put (some 43) (V 13)).put (some 44) (V 14)).put (some 45) (V 15)).put (some 46) (V 16)), fun _ => rfl⟩
          rw [ha0] at hfr
          simp only [Act.put, List.setIfInBounds_toArray, List.set_cons_zero, List.set_cons_succ] at hfr
          have HFR := Lib.hid hfr
          clear hfr
          refine wp_region_inv (by kernel_rfl) (by kernel_rfl) (fun L A W => ∃ V : Nat → Value, A = fr V ∧ Vals (fun j => ([some (.int .i64 (k : Nat)), some (.pointer (some ⟨w.heap.size, k, none⟩)), some (.int .u64 (f k : Nat)), some (.int .i64 (m : Nat)), some (.int .i64 (m + 4 : Nat)), some (.int .i64 (r5 (m + 4) : Nat)), some (.pointer (some ⟨w.heap.size + 1 + 1, r5 (m + 4), none⟩)), some (.int .u64 (colF f (r5 (m + 4)) : Nat)), some (.int .i64 (m : Nat)), some (.int .i64 (m + 1 : Nat)), some (.int .i64 (r5 (m + 1) : Nat)), some (.pointer (some ⟨w.heap.size + 1 + 1, r5 (m + 1), none⟩)), some (.int .u64 (colF f (r5 (m + 1)) : Nat)), some (.int .u64 (rot 1 (colF f (r5 (m + 1))) : Nat)), some (.int .u64 (colF f (r5 (m + 4)) ^^^ rot 1 (colF f (r5 (m + 1))) : Nat)), some (.int .u64 (thT f k : Nat)), some (.pointer (some ⟨w.heap.size, k, none⟩)), none] : List (Option Value)).getD j none) L V ∧ (L 17 = false → MJ w f k W) ∧ (L 17 = true → MJ w f (k + 1) W)) ?_ ⟨?_, ?_, ?_, ?_, ?_, ?_, ?_, ?_, ?_, ?_, ?_, ?_, ?_, ?_, ?_, ?_, ?_, ?_, trivial⟩ ?_
          · refine ⟨fun j => a0.tmps.getD (([30, 31, 32, 33, 34, 35, 36, 37, 38, 39, 40, 41, 42, 43, 44, 45, 46, 0] : List Nat).getD j 0) undef, ?_, Vals.no _ _ _ (far_none _ _ rfl), fun _ => MJ.ext HJ.out (Ext.refl _).drew, fun h => absurd h (by decide)⟩
            rw [HFR.out, ha0]
            rfl
          all_goals clear ha0
          · rintro L A W K hL hC hW ⟨V, rfl, HV, hb, ha⟩ hK
            have h0 : L 17 = false := hC.no hL 17 _ rfl rfl
            have hB := hb h0
            have H := Lib.hid (show ∀ W', Ext W W' → K (fr (upd V 0 (.int .i64 (k : Nat)))) W' from fun W' he => hK _ W' ⟨upd V 0 (.int .i64 (k : Nat)), rfl, HV.up 0 _ (fun x hx => Option.some.inj hx), fun _ => MJ.ext hB he, fun h => absurd (more_ne h rfl) (by rw [h0]; simp)⟩)
            clear hK hC hW hL HV hb ha h0
            rw [HFR.out]
            clear hB
            go_wp2_with fail
            show K _ _
            have := H.out _ (Ext.refl _)
            rw [HFR.out] at this
            exact this
          · rintro L A W K hL hC hW ⟨V, rfl, HV, hb, ha⟩ hK
            have e0 : V 0 = .int .i64 (k : Nat) := HV 0 _ rfl (hW 0 rfl)
            have h0 : L 17 = false := hC.no hL 17 _ rfl rfl
            have hB := hb h0
            have H := Lib.hid (show ∀ W', Ext W W' → K (fr (upd V 1 (.pointer (some ⟨w.heap.size, k, none⟩)))) W' from fun W' he => hK _ W' ⟨upd V 1 (.pointer (some ⟨w.heap.size, k, none⟩)), rfl, HV.up 1 _ (fun x hx => Option.some.inj hx), fun _ => MJ.ext hB he, fun h => absurd (more_ne h rfl) (by rw [h0]; simp)⟩)
            clear hK hC hW hL HV hb ha h0
            have u0 : (upd V 1 (.pointer (some ⟨w.heap.size, k, none⟩))) 0 = .int .i64 (k : Nat) := e0
            have HU := Lib.hid (show (upd V 1 (.pointer (some ⟨w.heap.size, k, none⟩))) 0 = .int .i64 (k : Nat) from u0)
            clear u0
            rw [HFR.out]
            rw [e0]
            clear e0
            have h1 : (0 : Int) ≤ (k : Int) := by omega
            have h2 : (k : Int) < 25 := by omega
            clear hB
            go_wp2_with fail
            show K _ _
            have := H.out _ (Ext.refl _)
            rw [HFR.out] at this
            obtain u0 := HU.out
            rw [u0] at this
            exact this
          · rintro L A W K hL hC hW ⟨V, rfl, HV, hb, ha⟩ hK
            have e1 : V 1 = .pointer (some ⟨w.heap.size, k, none⟩) := HV 1 _ rfl (hW 1 rfl)
            have h0 : L 17 = false := hC.no hL 17 _ rfl rfl
            have hB := hb h0
            have H := Lib.hid (show ∀ W', Ext W W' → K (fr (upd V 2 (.int .u64 (f k : Nat)))) W' from fun W' he => hK _ W' ⟨upd V 2 (.int .u64 (f k : Nat)), rfl, HV.up 2 _ (fun x hx => Option.some.inj hx), fun _ => MJ.ext hB he, fun h => absurd (more_ne h rfl) (by rw [h0]; simp)⟩)
            clear hK hC hW hL HV hb ha h0
            have u1 : (upd V 2 (.int .u64 (f k : Nat))) 1 = .pointer (some ⟨w.heap.size, k, none⟩) := e1
            have HU := Lib.hid (show (upd V 2 (.int .u64 (f k : Nat))) 1 = .pointer (some ⟨w.heap.size, k, none⟩) from u1)
            clear u1
            rw [HFR.out]
            rw [e1]
            clear e1
            have hc := Ln.cell hB.1 k hlt
            rw [HTK.out] at hc
            clear hB
            go_wp2_with fail
            show K _ _
            have := H.out _ (Ext.refl _)
            rw [HFR.out] at this
            obtain u1 := HU.out
            rw [u1] at this
            exact this
          · rintro L A W K hL hC hW ⟨V, rfl, HV, hb, ha⟩ hK
            have h0 : L 17 = false := hC.no hL 17 _ rfl rfl
            have hB := hb h0
            have H := Lib.hid (show ∀ W', Ext W W' → K (fr (upd V 3 (.int .i64 (m : Nat)))) W' from fun W' he => hK _ W' ⟨upd V 3 (.int .i64 (m : Nat)), rfl, HV.up 3 _ (fun x hx => Option.some.inj hx), fun _ => MJ.ext hB he, fun h => absurd (more_ne h rfl) (by rw [h0]; simp)⟩)
            clear hK hC hW hL HV hb ha h0
            rw [HFR.out]
            clear hB
            go_wp2_with fail
            show K _ _
            have := H.out _ (Ext.refl _)
            rw [HFR.out] at this
            exact this
          · rintro L A W K hL hC hW ⟨V, rfl, HV, hb, ha⟩ hK
            have e3 : V 3 = .int .i64 (m : Nat) := HV 3 _ rfl (hW 3 rfl)
            have h0 : L 17 = false := hC.no hL 17 _ rfl rfl
            have hB := hb h0
            have H := Lib.hid (show ∀ W', Ext W W' → K (fr (upd V 4 (.int .i64 (m + 4 : Nat)))) W' from fun W' he => hK _ W' ⟨upd V 4 (.int .i64 (m + 4 : Nat)), rfl, HV.up 4 _ (fun x hx => Option.some.inj hx), fun _ => MJ.ext hB he, fun h => absurd (more_ne h rfl) (by rw [h0]; simp)⟩)
            clear hK hC hW hL HV hb ha h0
            have u3 : (upd V 4 (.int .i64 (m + 4 : Nat))) 3 = .int .i64 (m : Nat) := e3
            have HU := Lib.hid (show (upd V 4 (.int .i64 (m + 4 : Nat))) 3 = .int .i64 (m : Nat) from u3)
            clear u3
            rw [HFR.out]
            rw [e3]
            clear e3
            have hq : IntKind.i64.wrap ((m : Int) + 4) = ((m + 4 : Nat) : Int) := by rw [IntWalk.i64_in _ (by omega)]; omega
            clear hB
            go_wp2_with fail
            show K _ _
            have := H.out _ (Ext.refl _)
            rw [HFR.out] at this
            obtain u3 := HU.out
            rw [u3] at this
            exact this
          · rintro L A W K hL hC hW ⟨V, rfl, HV, hb, ha⟩ hK
            have e4 : V 4 = .int .i64 (m + 4 : Nat) := HV 4 _ rfl (hW 4 rfl)
            have h0 : L 17 = false := hC.no hL 17 _ rfl rfl
            have hB := hb h0
            have H := Lib.hid (show ∀ W', Ext W W' → K (fr (upd V 5 (.int .i64 (r5 (m + 4) : Nat)))) W' from fun W' he => hK _ W' ⟨upd V 5 (.int .i64 (r5 (m + 4) : Nat)), rfl, HV.up 5 _ (fun x hx => Option.some.inj hx), fun _ => MJ.ext hB he, fun h => absurd (more_ne h rfl) (by rw [h0]; simp)⟩)
            clear hK hC hW hL HV hb ha h0
            have u4 : (upd V 5 (.int .i64 (r5 (m + 4) : Nat))) 4 = .int .i64 (m + 4 : Nat) := e4
            have HU := Lib.hid (show (upd V 5 (.int .i64 (r5 (m + 4) : Nat))) 4 = .int .i64 (m + 4 : Nat) from u4)
            clear u4
            rw [HFR.out]
            rw [e4]
            clear e4
            have hq : Int.tmod ((m + 4 : Nat) : Int) 5 = ((r5 (m + 4) : Nat) : Int) := by unfold r5; rw [Int.tmod_eq_emod_of_nonneg (by omega)]; omega
            have hq2 : ((m + 4 : Nat) : Int) % 5 = ((r5 (m + 4) : Nat) : Int) := by unfold r5; omega
            have hq3 : ((m : Int) + 4) % 5 = ((r5 (m + 4) : Nat) : Int) := by unfold r5; omega
            clear hB
            go_wp2_with fail
            show K _ _
            have := H.out _ (Ext.refl _)
            rw [HFR.out] at this
            obtain u4 := HU.out
            rw [u4] at this
            exact this
          · rintro L A W K hL hC hW ⟨V, rfl, HV, hb, ha⟩ hK
            have e5 : V 5 = .int .i64 (r5 (m + 4) : Nat) := HV 5 _ rfl (hW 5 rfl)
            have h0 : L 17 = false := hC.no hL 17 _ rfl rfl
            have hB := hb h0
            have H := Lib.hid (show ∀ W', Ext W W' → K (fr (upd V 6 (.pointer (some ⟨w.heap.size + 1 + 1, r5 (m + 4), none⟩)))) W' from fun W' he => hK _ W' ⟨upd V 6 (.pointer (some ⟨w.heap.size + 1 + 1, r5 (m + 4), none⟩)), rfl, HV.up 6 _ (fun x hx => Option.some.inj hx), fun _ => MJ.ext hB he, fun h => absurd (more_ne h rfl) (by rw [h0]; simp)⟩)
            clear hK hC hW hL HV hb ha h0
            have u5 : (upd V 6 (.pointer (some ⟨w.heap.size + 1 + 1, r5 (m + 4), none⟩))) 5 = .int .i64 (r5 (m + 4) : Nat) := e5
            have HU := Lib.hid (show (upd V 6 (.pointer (some ⟨w.heap.size + 1 + 1, r5 (m + 4), none⟩))) 5 = .int .i64 (r5 (m + 4) : Nat) from u5)
            clear u5
            rw [HFR.out]
            rw [e5]
            clear e5
            have hm := r5_lt (m + 4)
            have h1 : (0 : Int) ≤ (r5 (m + 4) : Int) := by omega
            have h2 : (r5 (m + 4) : Int) < 5 := by omega
            clear hB
            go_wp2_with fail
            show K _ _
            have := H.out _ (Ext.refl _)
            rw [HFR.out] at this
            obtain u5 := HU.out
            rw [u5] at this
            exact this
          · rintro L A W K hL hC hW ⟨V, rfl, HV, hb, ha⟩ hK
            have e6 : V 6 = .pointer (some ⟨w.heap.size + 1 + 1, r5 (m + 4), none⟩) := HV 6 _ rfl (hW 6 rfl)
            have h0 : L 17 = false := hC.no hL 17 _ rfl rfl
            have hB := hb h0
            have H := Lib.hid (show ∀ W', Ext W W' → K (fr (upd V 7 (.int .u64 (colF f (r5 (m + 4)) : Nat)))) W' from fun W' he => hK _ W' ⟨upd V 7 (.int .u64 (colF f (r5 (m + 4)) : Nat)), rfl, HV.up 7 _ (fun x hx => Option.some.inj hx), fun _ => MJ.ext hB he, fun h => absurd (more_ne h rfl) (by rw [h0]; simp)⟩)
            clear hK hC hW hL HV hb ha h0
            have u6 : (upd V 7 (.int .u64 (colF f (r5 (m + 4)) : Nat))) 6 = .pointer (some ⟨w.heap.size + 1 + 1, r5 (m + 4), none⟩) := e6
            have HU := Lib.hid (show (upd V 7 (.int .u64 (colF f (r5 (m + 4)) : Nat))) 6 = .pointer (some ⟨w.heap.size + 1 + 1, r5 (m + 4), none⟩) from u6)
            clear u6
            rw [HFR.out]
            rw [e6]
            clear e6
            have hc := Cs.cell hB.2.2.1 (r5 (m + 4)) _ (nc_get 5 _ _ (r5_lt _))
            unfold lv at hc
            clear hB
            go_wp2_with fail
            show K _ _
            have := H.out _ (Ext.refl _)
            rw [HFR.out] at this
            obtain u6 := HU.out
            rw [u6] at this
            exact this
          · rintro L A W K hL hC hW ⟨V, rfl, HV, hb, ha⟩ hK
            have h0 : L 17 = false := hC.no hL 17 _ rfl rfl
            have hB := hb h0
            have H := Lib.hid (show ∀ W', Ext W W' → K (fr (upd V 8 (.int .i64 (m : Nat)))) W' from fun W' he => hK _ W' ⟨upd V 8 (.int .i64 (m : Nat)), rfl, HV.up 8 _ (fun x hx => Option.some.inj hx), fun _ => MJ.ext hB he, fun h => absurd (more_ne h rfl) (by rw [h0]; simp)⟩)
            clear hK hC hW hL HV hb ha h0
            rw [HFR.out]
            clear hB
            go_wp2_with fail
            show K _ _
            have := H.out _ (Ext.refl _)
            rw [HFR.out] at this
            exact this
          · rintro L A W K hL hC hW ⟨V, rfl, HV, hb, ha⟩ hK
            have e8 : V 8 = .int .i64 (m : Nat) := HV 8 _ rfl (hW 8 rfl)
            have h0 : L 17 = false := hC.no hL 17 _ rfl rfl
            have hB := hb h0
            have H := Lib.hid (show ∀ W', Ext W W' → K (fr (upd V 9 (.int .i64 (m + 1 : Nat)))) W' from fun W' he => hK _ W' ⟨upd V 9 (.int .i64 (m + 1 : Nat)), rfl, HV.up 9 _ (fun x hx => Option.some.inj hx), fun _ => MJ.ext hB he, fun h => absurd (more_ne h rfl) (by rw [h0]; simp)⟩)
            clear hK hC hW hL HV hb ha h0
            have u8 : (upd V 9 (.int .i64 (m + 1 : Nat))) 8 = .int .i64 (m : Nat) := e8
            have HU := Lib.hid (show (upd V 9 (.int .i64 (m + 1 : Nat))) 8 = .int .i64 (m : Nat) from u8)
            clear u8
            rw [HFR.out]
            rw [e8]
            clear e8
            have hq : IntKind.i64.wrap ((m : Int) + 1) = ((m + 1 : Nat) : Int) := by rw [IntWalk.i64_in _ (by omega)]; omega
            clear hB
            go_wp2_with fail
            show K _ _
            have := H.out _ (Ext.refl _)
            rw [HFR.out] at this
            obtain u8 := HU.out
            rw [u8] at this
            exact this
          · rintro L A W K hL hC hW ⟨V, rfl, HV, hb, ha⟩ hK
            have e9 : V 9 = .int .i64 (m + 1 : Nat) := HV 9 _ rfl (hW 9 rfl)
            have h0 : L 17 = false := hC.no hL 17 _ rfl rfl
            have hB := hb h0
            have H := Lib.hid (show ∀ W', Ext W W' → K (fr (upd V 10 (.int .i64 (r5 (m + 1) : Nat)))) W' from fun W' he => hK _ W' ⟨upd V 10 (.int .i64 (r5 (m + 1) : Nat)), rfl, HV.up 10 _ (fun x hx => Option.some.inj hx), fun _ => MJ.ext hB he, fun h => absurd (more_ne h rfl) (by rw [h0]; simp)⟩)
            clear hK hC hW hL HV hb ha h0
            have u9 : (upd V 10 (.int .i64 (r5 (m + 1) : Nat))) 9 = .int .i64 (m + 1 : Nat) := e9
            have HU := Lib.hid (show (upd V 10 (.int .i64 (r5 (m + 1) : Nat))) 9 = .int .i64 (m + 1 : Nat) from u9)
            clear u9
            rw [HFR.out]
            rw [e9]
            clear e9
            have hq : Int.tmod ((m + 1 : Nat) : Int) 5 = ((r5 (m + 1) : Nat) : Int) := by unfold r5; rw [Int.tmod_eq_emod_of_nonneg (by omega)]; omega
            have hq2 : ((m + 1 : Nat) : Int) % 5 = ((r5 (m + 1) : Nat) : Int) := by unfold r5; omega
            have hq3 : ((m : Int) + 1) % 5 = ((r5 (m + 1) : Nat) : Int) := by unfold r5; omega
            clear hB
            go_wp2_with fail
            show K _ _
            have := H.out _ (Ext.refl _)
            rw [HFR.out] at this
            obtain u9 := HU.out
            rw [u9] at this
            exact this
          · rintro L A W K hL hC hW ⟨V, rfl, HV, hb, ha⟩ hK
            have e10 : V 10 = .int .i64 (r5 (m + 1) : Nat) := HV 10 _ rfl (hW 10 rfl)
            have h0 : L 17 = false := hC.no hL 17 _ rfl rfl
            have hB := hb h0
            have H := Lib.hid (show ∀ W', Ext W W' → K (fr (upd V 11 (.pointer (some ⟨w.heap.size + 1 + 1, r5 (m + 1), none⟩)))) W' from fun W' he => hK _ W' ⟨upd V 11 (.pointer (some ⟨w.heap.size + 1 + 1, r5 (m + 1), none⟩)), rfl, HV.up 11 _ (fun x hx => Option.some.inj hx), fun _ => MJ.ext hB he, fun h => absurd (more_ne h rfl) (by rw [h0]; simp)⟩)
            clear hK hC hW hL HV hb ha h0
            have u10 : (upd V 11 (.pointer (some ⟨w.heap.size + 1 + 1, r5 (m + 1), none⟩))) 10 = .int .i64 (r5 (m + 1) : Nat) := e10
            have HU := Lib.hid (show (upd V 11 (.pointer (some ⟨w.heap.size + 1 + 1, r5 (m + 1), none⟩))) 10 = .int .i64 (r5 (m + 1) : Nat) from u10)
            clear u10
            rw [HFR.out]
            rw [e10]
            clear e10
            have hm := r5_lt (m + 1)
            have h1 : (0 : Int) ≤ (r5 (m + 1) : Int) := by omega
            have h2 : (r5 (m + 1) : Int) < 5 := by omega
            clear hB
            go_wp2_with fail
            show K _ _
            have := H.out _ (Ext.refl _)
            rw [HFR.out] at this
            obtain u10 := HU.out
            rw [u10] at this
            exact this
          · rintro L A W K hL hC hW ⟨V, rfl, HV, hb, ha⟩ hK
            have e11 : V 11 = .pointer (some ⟨w.heap.size + 1 + 1, r5 (m + 1), none⟩) := HV 11 _ rfl (hW 11 rfl)
            have h0 : L 17 = false := hC.no hL 17 _ rfl rfl
            have hB := hb h0
            have H := Lib.hid (show ∀ W', Ext W W' → K (fr (upd V 12 (.int .u64 (colF f (r5 (m + 1)) : Nat)))) W' from fun W' he => hK _ W' ⟨upd V 12 (.int .u64 (colF f (r5 (m + 1)) : Nat)), rfl, HV.up 12 _ (fun x hx => Option.some.inj hx), fun _ => MJ.ext hB he, fun h => absurd (more_ne h rfl) (by rw [h0]; simp)⟩)
            clear hK hC hW hL HV hb ha h0
            have u11 : (upd V 12 (.int .u64 (colF f (r5 (m + 1)) : Nat))) 11 = .pointer (some ⟨w.heap.size + 1 + 1, r5 (m + 1), none⟩) := e11
            have HU := Lib.hid (show (upd V 12 (.int .u64 (colF f (r5 (m + 1)) : Nat))) 11 = .pointer (some ⟨w.heap.size + 1 + 1, r5 (m + 1), none⟩) from u11)
            clear u11
            rw [HFR.out]
            rw [e11]
            clear e11
            have hc := Cs.cell hB.2.2.1 (r5 (m + 1)) _ (nc_get 5 _ _ (r5_lt _))
            unfold lv at hc
            clear hB
            go_wp2_with fail
            show K _ _
            have := H.out _ (Ext.refl _)
            rw [HFR.out] at this
            obtain u11 := HU.out
            rw [u11] at this
            exact this
          · rintro L A W K hL hC hW ⟨V, rfl, HV, hb, ha⟩ hK
            have e12 : V 12 = .int .u64 (colF f (r5 (m + 1)) : Nat) := HV 12 _ rfl (hW 12 rfl)
            have h0 : L 17 = false := hC.no hL 17 _ rfl rfl
            have hB := hb h0
            have H := Lib.hid (show ∀ W', Ext W W' → K (fr (upd V 13 (.int .u64 (rot 1 (colF f (r5 (m + 1))) : Nat)))) W' from fun W' he => hK _ W' ⟨upd V 13 (.int .u64 (rot 1 (colF f (r5 (m + 1))) : Nat)), rfl, HV.up 13 _ (fun x hx => Option.some.inj hx), fun _ => MJ.ext hB he, fun h => absurd (more_ne h rfl) (by rw [h0]; simp)⟩)
            clear hK hC hW hL HV hb ha h0
            have u12 : (upd V 13 (.int .u64 (rot 1 (colF f (r5 (m + 1))) : Nat))) 12 = .int .u64 (colF f (r5 (m + 1)) : Nat) := e12
            have HU := Lib.hid (show (upd V 13 (.int .u64 (rot 1 (colF f (r5 (m + 1))) : Nat))) 12 = .int .u64 (colF f (r5 (m + 1)) : Nat) from u12)
            clear u12
            rw [HFR.out]
            rw [e12]
            clear e12
            go_wp2_with fail
            refine (left_one (colF f (r5 (m + 1))) _ (colF_lt f HF.out _)).mono ?_
            rintro e wx ⟨rfl, he⟩
            go_wp2_with fail
            show K _ _
            have := H.out _ he
            rw [HFR.out] at this
            obtain u12 := HU.out
            rw [u12] at this
            exact this
          · rintro L A W K hL hC hW ⟨V, rfl, HV, hb, ha⟩ hK
            have e7 : V 7 = .int .u64 (colF f (r5 (m + 4)) : Nat) := HV 7 _ rfl (hW 7 rfl)
            have e13 : V 13 = .int .u64 (rot 1 (colF f (r5 (m + 1))) : Nat) := HV 13 _ rfl (hW 13 rfl)
            have h0 : L 17 = false := hC.no hL 17 _ rfl rfl
            have hB := hb h0
            have H := Lib.hid (show ∀ W', Ext W W' → K (fr (upd V 14 (.int .u64 (colF f (r5 (m + 4)) ^^^ rot 1 (colF f (r5 (m + 1))) : Nat)))) W' from fun W' he => hK _ W' ⟨upd V 14 (.int .u64 (colF f (r5 (m + 4)) ^^^ rot 1 (colF f (r5 (m + 1))) : Nat)), rfl, HV.up 14 _ (fun x hx => Option.some.inj hx), fun _ => MJ.ext hB he, fun h => absurd (more_ne h rfl) (by rw [h0]; simp)⟩)
            clear hK hC hW hL HV hb ha h0
            have u7 : (upd V 14 (.int .u64 (colF f (r5 (m + 4)) ^^^ rot 1 (colF f (r5 (m + 1))) : Nat))) 7 = .int .u64 (colF f (r5 (m + 4)) : Nat) := e7
            have u13 : (upd V 14 (.int .u64 (colF f (r5 (m + 4)) ^^^ rot 1 (colF f (r5 (m + 1))) : Nat))) 13 = .int .u64 (rot 1 (colF f (r5 (m + 1))) : Nat) := e13
            have HU := Lib.hid (show (upd V 14 (.int .u64 (colF f (r5 (m + 4)) ^^^ rot 1 (colF f (r5 (m + 1))) : Nat))) 7 = .int .u64 (colF f (r5 (m + 4)) : Nat) ∧ (upd V 14 (.int .u64 (colF f (r5 (m + 4)) ^^^ rot 1 (colF f (r5 (m + 1))) : Nat))) 13 = .int .u64 (rot 1 (colF f (r5 (m + 1))) : Nat) from ⟨u7, u13⟩)
            clear u7 u13
            rw [HFR.out]
            rw [e7, e13]
            clear e7 e13
            have hn := u64_xor_nat (colF f (r5 (m + 4))) (rot 1 (colF f (r5 (m + 1)))) (colF_lt f HF.out _) (rot_lt _ _ (colF_lt f HF.out _))
            clear hB
            go_wp2_with fail
            show K _ _
            have := H.out _ (Ext.refl _)
            rw [HFR.out] at this
            obtain ⟨u7, u13⟩ := HU.out
            rw [u7, u13] at this
            exact this
          · rintro L A W K hL hC hW ⟨V, rfl, HV, hb, ha⟩ hK
            have e2 : V 2 = .int .u64 (f k : Nat) := HV 2 _ rfl (hW 2 rfl)
            have e14 : V 14 = .int .u64 (colF f (r5 (m + 4)) ^^^ rot 1 (colF f (r5 (m + 1))) : Nat) := HV 14 _ rfl (hW 14 rfl)
            have h0 : L 17 = false := hC.no hL 17 _ rfl rfl
            have hB := hb h0
            have H := Lib.hid (show ∀ W', Ext W W' → K (fr (upd V 15 (.int .u64 (thT f k : Nat)))) W' from fun W' he => hK _ W' ⟨upd V 15 (.int .u64 (thT f k : Nat)), rfl, HV.up 15 _ (fun x hx => Option.some.inj hx), fun _ => MJ.ext hB he, fun h => absurd (more_ne h rfl) (by rw [h0]; simp)⟩)
            clear hK hC hW hL HV hb ha h0
            have u2 : (upd V 15 (.int .u64 (thT f k : Nat))) 2 = .int .u64 (f k : Nat) := e2
            have u14 : (upd V 15 (.int .u64 (thT f k : Nat))) 14 = .int .u64 (colF f (r5 (m + 4)) ^^^ rot 1 (colF f (r5 (m + 1))) : Nat) := e14
            have HU := Lib.hid (show (upd V 15 (.int .u64 (thT f k : Nat))) 2 = .int .u64 (f k : Nat) ∧ (upd V 15 (.int .u64 (thT f k : Nat))) 14 = .int .u64 (colF f (r5 (m + 4)) ^^^ rot 1 (colF f (r5 (m + 1))) : Nat) from ⟨u2, u14⟩)
            clear u2 u14
            rw [HFR.out]
            rw [e2, e14]
            clear e2 e14
            have hn := u64_xor_nat (f k) (colF f (r5 (m + 4)) ^^^ rot 1 (colF f (r5 (m + 1)))) (HF.out _ hlt) (xor_lt64 _ _ (colF_lt f HF.out _) (rot_lt _ _ (colF_lt f HF.out _)))
            rw [HTT.out] at hn
            clear hB
            go_wp2_with fail
            show K _ _
            have := H.out _ (Ext.refl _)
            rw [HFR.out] at this
            obtain ⟨u2, u14⟩ := HU.out
            rw [u2, u14] at this
            exact this
          · rintro L A W K hL hC hW ⟨V, rfl, HV, hb, ha⟩ hK
            have e0 : V 0 = .int .i64 (k : Nat) := HV 0 _ rfl (hW 0 rfl)
            have h0 : L 17 = false := hC.no hL 17 _ rfl rfl
            have hB := hb h0
            have H := Lib.hid (show ∀ W', Ext W W' → K (fr (upd V 16 (.pointer (some ⟨w.heap.size, k, none⟩)))) W' from fun W' he => hK _ W' ⟨upd V 16 (.pointer (some ⟨w.heap.size, k, none⟩)), rfl, HV.up 16 _ (fun x hx => Option.some.inj hx), fun _ => MJ.ext hB he, fun h => absurd (more_ne h rfl) (by rw [h0]; simp)⟩)
            clear hK hC hW hL HV hb ha h0
            have u0 : (upd V 16 (.pointer (some ⟨w.heap.size, k, none⟩))) 0 = .int .i64 (k : Nat) := e0
            have HU := Lib.hid (show (upd V 16 (.pointer (some ⟨w.heap.size, k, none⟩))) 0 = .int .i64 (k : Nat) from u0)
            clear u0
            rw [HFR.out]
            rw [e0]
            clear e0
            have h1 : (0 : Int) ≤ (k : Int) := by omega
            have h2 : (k : Int) < 25 := by omega
            clear hB
            go_wp2_with fail
            show K _ _
            have := H.out _ (Ext.refl _)
            rw [HFR.out] at this
            obtain u0 := HU.out
            rw [u0] at this
            exact this
          · rintro L A W K hL hC hW ⟨V, rfl, HV, hb, ha⟩ hK
            have e16 : V 16 = .pointer (some ⟨w.heap.size, k, none⟩) := HV 16 _ rfl (hW 16 rfl)
            have e15 : V 15 = .int .u64 (thT f k : Nat) := HV 15 _ rfl (hW 15 rfl)
            have hB := hb hL
            have H := Lib.hid (show ∀ W', MJ w f (k + 1) W' → K (fr V) W' from fun W' hA => hK _ W' ⟨V, rfl, HV.st 17 rfl, fun h => absurd h (by unfold More; rw [if_pos rfl]; simp), fun _ => hA⟩)
            clear hK hC hW hL HV hb ha
            have HU := Lib.hid (show V 16 = .pointer (some ⟨w.heap.size, k, none⟩) ∧ V 15 = .int .u64 (thT f k : Nat) from ⟨e16, e15⟩)
            rw [HFR.out]
            rw [e16, e15]
            clear e16 e15
            have hz := Ln.cell hB.1 k hlt
            have hf := Cs.frozen hB.1 k
            have HA := Lib.hid (MJ.put hB (thT f k) hlt rfl)
            clear hB
            go_wp2_with fail
            show K _ _
            have := H.out _ HA.out
            rw [HFR.out] at this
            obtain ⟨u16, u15⟩ := HU.out
            rw [u16, u15] at this
            exact this
          · rintro L A W hL ⟨V, rfl, HV, hb, ha⟩
            have e0 : V 0 = .int .i64 (k : Nat) := HV 0 _ rfl (hL 0 (by simp))
            have e1 : V 1 = .pointer (some ⟨w.heap.size, k, none⟩) := HV 1 _ rfl (hL 1 (by simp))
            have e2 : V 2 = .int .u64 (f k : Nat) := HV 2 _ rfl (hL 2 (by simp))
            have e3 : V 3 = .int .i64 (m : Nat) := HV 3 _ rfl (hL 3 (by simp))
            have e4 : V 4 = .int .i64 (m + 4 : Nat) := HV 4 _ rfl (hL 4 (by simp))
            have e5 : V 5 = .int .i64 (r5 (m + 4) : Nat) := HV 5 _ rfl (hL 5 (by simp))
            have e6 : V 6 = .pointer (some ⟨w.heap.size + 1 + 1, r5 (m + 4), none⟩) := HV 6 _ rfl (hL 6 (by simp))
            have e7 : V 7 = .int .u64 (colF f (r5 (m + 4)) : Nat) := HV 7 _ rfl (hL 7 (by simp))
            have e8 : V 8 = .int .i64 (m : Nat) := HV 8 _ rfl (hL 8 (by simp))
            have e9 : V 9 = .int .i64 (m + 1 : Nat) := HV 9 _ rfl (hL 9 (by simp))
            have e10 : V 10 = .int .i64 (r5 (m + 1) : Nat) := HV 10 _ rfl (hL 10 (by simp))
            have e11 : V 11 = .pointer (some ⟨w.heap.size + 1 + 1, r5 (m + 1), none⟩) := HV 11 _ rfl (hL 11 (by simp))
            have e12 : V 12 = .int .u64 (colF f (r5 (m + 1)) : Nat) := HV 12 _ rfl (hL 12 (by simp))
            have e13 : V 13 = .int .u64 (rot 1 (colF f (r5 (m + 1))) : Nat) := HV 13 _ rfl (hL 13 (by simp))
            have e14 : V 14 = .int .u64 (colF f (r5 (m + 4)) ^^^ rot 1 (colF f (r5 (m + 1))) : Nat) := HV 14 _ rfl (hL 14 (by simp))
            have e15 : V 15 = .int .u64 (thT f k : Nat) := HV 15 _ rfl (hL 15 (by simp))
            have e16 : V 16 = .pointer (some ⟨w.heap.size, k, none⟩) := HV 16 _ rfl (hL 16 (by simp))
            have hA := ha (hL 17 (by simp))
            rw [HFR.out]
            rw [e0, e1, e2, e3, e4, e5, e6, e7, e8, e9, e10, e11, e12, e13, e14, e15, e16]
            clear hL HV HFR e0 e1 e2 e3 e4 e5 e6 e7 e8 e9 e10 e11 e12 e13 e14 e15 e16 hb ha
            clear HTT HTK
            have HJ2 := Lib.hid hA
            clear hA HJ
            go_wp2_with fail
            exact ⟨⟨k + 1, by omega, by go_num, HJ2⟩, by simp [intOf]; omega⟩
        · obtain rfl : k = 25 := by omega
          have HJ3 := Lib.hid (MJ.mr HJ.out)
          have hc1 := HJ3.out.1.cell 1 (by decide)
          clear HJ
          go_wp2_with fail
          go_loopw [8, 9, 10, 11, 50, 51, 52, 53, 54, 55, 56, 57, 58, 59, 60, 61, 62, 63, 64, 65, 66, 67, 68, 69, 70, 71, 72, 73, 74, 75, 76, 77, 78, 79] (fun vx vy vn _ u _ _ _ _ _ _ _ _ _ _ _ _ _ _ _ _ _ _ _ _ _ _ _ _ _ _ _ _ _ wr => ∃ t : Nat, t ≤ 24 ∧ u = .int .i64 t ∧ vx = .int .i64 (ppX t : Nat) ∧ vy = .int .i64 (ppY t : Nat) ∧ vn = .int .u64 (thT f (ppN t) : Nat) ∧ Hid (MR w f t wr)) (fun vx vy vn _ u _ _ _ _ _ _ _ _ _ _ _ _ _ _ _ _ _ _ _ _ _ _ _ _ _ _ _ _ _ _ => 24 - (intOf u).toNat)
          case atStart => exact ⟨0, by omega, rfl, rfl, rfl, rfl, HJ3⟩
          case round =>
            clear HJ3 hc1
            obtain ⟨t, ht, rfl, rfl, rfl, rfl, HJ⟩ := hrel
            by_cases hlt : t < 24
            · have hd : decide ((t : Int) < 24) = true := by simp; omega
              obtain ⟨hs1, hs2, hs3, hs4⟩ := pp_step ⟨t, hlt⟩
              obtain ⟨hs5, hs6⟩ := pp_lt ⟨t + 1, by omega⟩
              dsimp only at hs1 hs2 hs3 hs4 hs5 hs6
              have hNW := thT_lt f HF.out (ppN t) (by unfold ppN; omega)
              have hT6 := tri_le t hlt
              have hNN : ppN (t + 1) = 5 * ppY (t + 1) + ppX (t + 1) := rfl
              rw [hs1] at hNN hs5
              have HY2 := Lib.hid (show (2 * (ppX t : Int) + 3 * (ppY t : Int)) % 5 = (ppY (t + 1) : Int) by omega)
              have HT2a := i64_prod t hlt
              have HT2b := (show ((t : Int) + 1) * ((t : Int) + 2) = (((t + 1) * (t + 2) : Nat) : Int) by simp)
              obtain ⟨N, eN⟩ : ∃ N, ppN (t + 1) = N := ⟨_, rfl⟩
              obtain ⟨nx, enx⟩ : ∃ nx, thT f N = nx := ⟨_, rfl⟩
              obtain ⟨now, enow⟩ : ∃ now, thT f (ppN t) = now := ⟨_, rfl⟩
              obtain ⟨tr2, etr2⟩ : ∃ tr2, (t + 1) * (t + 2) = tr2 := ⟨_, rfl⟩
              obtain ⟨tr, etr⟩ : ∃ tr, tr2 / 2 = tr := ⟨_, rfl⟩
              obtain ⟨y, ey⟩ : ∃ y, ppY (t + 1) = y := ⟨_, rfl⟩
              obtain ⟨x, ex⟩ : ∃ x, ppY t = x := ⟨_, rfl⟩
              obtain ⟨z, ez⟩ : ∃ z, ppX t = z := ⟨_, rfl⟩
              have HNX : Hid (rhP (thT f) t N = nx) := Lib.hid (by rw [← eN, rhP_next (thT f) t hlt, eN, enx])
              have HPUT := Lib.hid (fun W (h : MR w f t W) => MR.put h N (rot (tr % 64) now) eN.symm (by rw [← etr, ← etr2, enow]))
              rw [enow] at hNW
              rw [etr2] at hT6 HT2a HT2b
              rw [ey, ex, ez] at HY2
              rw [ey, ex, eN] at hNN
              rw [ex] at hs4 hs5
              rw [ey] at hs6
              rw [ez] at hs3
              have HNW := Lib.hid hNW
              have HT2 := Lib.hid (And.intro HT2a (show wrap64 (((t : Int) + 1) * ((t : Int) + 2)) = (tr2 : Int) by rw [HT2b]; unfold wrap64; omega))
              have HTR := Lib.hid (show wrap64 (Int.tdiv (tr2 : Int) 2) = (tr : Int) ∧ wrap64 ((tr2 : Int) / 2) = (tr : Int) ∧ IntKind.i64.wrap (Int.tdiv (tr2 : Int) 2) = (tr : Int) from ⟨by rw [Int.tdiv_eq_ediv_of_nonneg (by omega)]; unfold wrap64; omega, by unfold wrap64; omega, by rw [Int.tdiv_eq_ediv_of_nonneg (by omega), IntWalk.i64_in _ (by omega)]; omega⟩)
              have HTL := Lib.hid (show tr ≤ 100000 by omega)
              have HMN := Lib.hid (show IntKind.i64.wrap ((m5 y : Int) + (x : Int)) = (N : Int) by unfold m5; rw [IntWalk.i64_in _ (by omega)]; omega)
              have hN : N < 25 := by omega
              have HE1 := Lib.hid (show Value.int .i64 (x : Int) = .int .i64 ((ppX (t + 1) : Nat) : Int) by rw [hs1, ex])
              have HE2 := Lib.hid (show Value.int .i64 (y : Int) = .int .i64 ((ppY (t + 1) : Nat) : Int) by rw [ey])
              have HE3 := Lib.hid (show Value.int .u64 (nx : Int) = .int .u64 ((thT f (ppN (t + 1)) : Nat) : Int) by rw [eN, enx])
              rw [ex, ez, enow]
              have b1 : (0 : Int) ≤ (x : Int) := by omega
              have b2 : (x : Int) < 5 := by omega
              have b3 : (0 : Int) ≤ (z : Int) := by omega
              have b4 : (z : Int) < 5 := by omega
              clear eN enx enow etr2 etr ey ex ez hNW hT6 HT2a HT2b hNN hs1 hs2 hs3
              go_upto_region 19 with fail
              rw [HY2.out]
              refine wp_named fun a0 ha0 => ?_
              obtain ⟨fr, hfr⟩ : ∃ fr : (Nat → Value) → Act, ∀ V, fr V = ((((((((((((((((((((a0.put (some 60) (V 0)).put (some 61) (V 1)).put (some 62) (V 2)).put (some 63) (V 3)).put (some 64) (V 4)).put (some 65) (V 5)).put (some 66) (V 6)).put (some 67) (V 7)).put (some 68) (V 8)).put (some 69) (V 9)).put (some 70) (V 10)).put (some 71) (V 11)).put (some 72) (V 12)).put (some 73) (V 13)).put (some 74) (V 14)).put (some 75) (V 15)).put (some 76) (V 16)).put (some 77) (V 17)).put (some 10) (V 18)).put (some 78) (V 19)) := ⟨fun V => ((((((((((((((((((((a0.put (some 60) (V 0)).put (some 61) (V 1)).put (some 62) (V 2)).put (some 63) (V 3)).put (some 64) (V 4)).put (some 65) (V 5)).put (some 66) (V 6)).put (some 67) (V 7)).put (some 68) (V 8)).put (some 69) (V 9)).put (some 70) (V 10)).put (some 71) (V 11)).put (some 72) (V 12)).put (some 73) (V 13)).put (some 74) (V 14)).put (some 75) (V 15)).put (some 76) (V 16)).put (some 77) (V 17)).put (some 10) (V 18)).put (some 78) (V 19)), fun _ => rfl⟩
              rw [ha0] at hfr
              simp only [Act.put, List.setIfInBounds_toArray, List.set_cons_zero, List.set_cons_succ] at hfr
              have HFR := Lib.hid hfr
              clear hfr
              refine wp_region_inv (by kernel_rfl) (by kernel_rfl) (fun L A W => ∃ V : Nat → Value, A = fr V ∧ Vals (fun j => ([some (.int .i64 (y : Nat)), some (.int .i64 (m5 y : Nat)), some (.int .i64 (x : Nat)), some (.int .i64 (N : Nat)), some (.int .i64 (y : Nat)), some (.int .i64 (m5 y : Nat)), some (.int .i64 (x : Nat)), some (.int .i64 (N : Nat)), some (.pointer (some ⟨w.heap.size, N, none⟩)), some (.int .u64 (nx : Nat)), some (.int .u64 (now : Nat)), some (.int .i64 (t : Nat)), some (.int .i64 (t + 1 : Nat)), some (.int .i64 (t : Nat)), some (.int .i64 (t + 2 : Nat)), some (.int .i64 (tr2 : Nat)), some (.int .i64 (tr : Nat)), some (.int .u64 (rot (tr % 64) now : Nat)), some (.int .u64 (nx : Nat)), some (.pointer (some ⟨w.heap.size, N, none⟩)), none] : List (Option Value)).getD j none) L V ∧ (L 20 = false → MR w f t W) ∧ (L 20 = true → MR w f (t + 1) W) ∧ (L 18 = false → V 18 = .int .u64 (now : Nat))) ?_ ⟨?_, ?_, ?_, ?_, ?_, ?_, ?_, ?_, ?_, ?_, ?_, ?_, ?_, ?_, ?_, ?_, ?_, ?_, ?_, ?_, ?_, trivial⟩ ?_
              · refine ⟨fun j => a0.tmps.getD (([60, 61, 62, 63, 64, 65, 66, 67, 68, 69, 70, 71, 72, 73, 74, 75, 76, 77, 10, 78, 0] : List Nat).getD j 0) undef, ?_, Vals.no _ _ _ (far_none _ _ rfl), fun _ => MR.ext HJ.out (Ext.refl _).drew, fun h => absurd h (by decide), fun _ => by rw [ha0]; rfl⟩
                rw [HFR.out, ha0]
                rfl
              all_goals clear ha0
              · rintro L A W K hL hC hW ⟨V, rfl, HV, hb, ha, ho18⟩ hK
                have h0 : L 20 = false := hC.no hL 20 _ rfl rfl
                have hB := hb h0
                have H := Lib.hid (show ∀ W', Ext W W' → K (fr (upd V 0 (.int .i64 (y : Nat)))) W' from fun W' he => hK _ W' ⟨upd V 0 (.int .i64 (y : Nat)), rfl, HV.up 0 _ (fun x hx => Option.some.inj hx), fun _ => MR.ext hB he, fun h => absurd (more_ne h rfl) (by rw [h0]; simp), fun h => (show upd V 0 (.int .i64 (y : Nat)) 18 = V 18 from rfl).trans (ho18 (by unfold More at h; rwa [if_neg (by decide)] at h))⟩)
                clear hK hC hW hL HV hb ha h0 ho18
                rw [HFR.out]
                clear hB
                go_wp2_with fail
                show K _ _
                have := H.out _ (Ext.refl _)
                rw [HFR.out] at this
                exact this
              · rintro L A W K hL hC hW ⟨V, rfl, HV, hb, ha, ho18⟩ hK
                have e0 : V 0 = .int .i64 (y : Nat) := HV 0 _ rfl (hW 0 rfl)
                have h0 : L 20 = false := hC.no hL 20 _ rfl rfl
                have hB := hb h0
                have H := Lib.hid (show ∀ W', Ext W W' → K (fr (upd V 1 (.int .i64 (m5 y : Nat)))) W' from fun W' he => hK _ W' ⟨upd V 1 (.int .i64 (m5 y : Nat)), rfl, HV.up 1 _ (fun x hx => Option.some.inj hx), fun _ => MR.ext hB he, fun h => absurd (more_ne h rfl) (by rw [h0]; simp), fun h => (show upd V 1 (.int .i64 (m5 y : Nat)) 18 = V 18 from rfl).trans (ho18 (by unfold More at h; rwa [if_neg (by decide)] at h))⟩)
                clear hK hC hW hL HV hb ha h0 ho18
                have u0 : (upd V 1 (.int .i64 (m5 y : Nat))) 0 = .int .i64 (y : Nat) := e0
                have HU := Lib.hid (show (upd V 1 (.int .i64 (m5 y : Nat))) 0 = .int .i64 (y : Nat) from u0)
                clear u0
                rw [HFR.out]
                rw [e0]
                clear e0
                have hq : IntKind.i64.wrap (5 * (y : Int)) = ((m5 y : Nat) : Int) := by unfold m5; rw [IntWalk.i64_in _ (by omega)]; omega
                clear hB
                go_wp2_with fail
                show K _ _
                have := H.out _ (Ext.refl _)
                rw [HFR.out] at this
                obtain u0 := HU.out
                rw [u0] at this
                exact this
              · rintro L A W K hL hC hW ⟨V, rfl, HV, hb, ha, ho18⟩ hK
                have h0 : L 20 = false := hC.no hL 20 _ rfl rfl
                have hB := hb h0
                have H := Lib.hid (show ∀ W', Ext W W' → K (fr (upd V 2 (.int .i64 (x : Nat)))) W' from fun W' he => hK _ W' ⟨upd V 2 (.int .i64 (x : Nat)), rfl, HV.up 2 _ (fun x hx => Option.some.inj hx), fun _ => MR.ext hB he, fun h => absurd (more_ne h rfl) (by rw [h0]; simp), fun h => (show upd V 2 (.int .i64 (x : Nat)) 18 = V 18 from rfl).trans (ho18 (by unfold More at h; rwa [if_neg (by decide)] at h))⟩)
                clear hK hC hW hL HV hb ha h0 ho18
                rw [HFR.out]
                clear hB
                go_wp2_with fail
                show K _ _
                have := H.out _ (Ext.refl _)
                rw [HFR.out] at this
                exact this
              · rintro L A W K hL hC hW ⟨V, rfl, HV, hb, ha, ho18⟩ hK
                have e1 : V 1 = .int .i64 (m5 y : Nat) := HV 1 _ rfl (hW 1 rfl)
                have e2 : V 2 = .int .i64 (x : Nat) := HV 2 _ rfl (hW 2 rfl)
                have h0 : L 20 = false := hC.no hL 20 _ rfl rfl
                have hB := hb h0
                have H := Lib.hid (show ∀ W', Ext W W' → K (fr (upd V 3 (.int .i64 (N : Nat)))) W' from fun W' he => hK _ W' ⟨upd V 3 (.int .i64 (N : Nat)), rfl, HV.up 3 _ (fun x hx => Option.some.inj hx), fun _ => MR.ext hB he, fun h => absurd (more_ne h rfl) (by rw [h0]; simp), fun h => (show upd V 3 (.int .i64 (N : Nat)) 18 = V 18 from rfl).trans (ho18 (by unfold More at h; rwa [if_neg (by decide)] at h))⟩)
                clear hK hC hW hL HV hb ha h0 ho18
                have u1 : (upd V 3 (.int .i64 (N : Nat))) 1 = .int .i64 (m5 y : Nat) := e1
                have u2 : (upd V 3 (.int .i64 (N : Nat))) 2 = .int .i64 (x : Nat) := e2
                have HU := Lib.hid (show (upd V 3 (.int .i64 (N : Nat))) 1 = .int .i64 (m5 y : Nat) ∧ (upd V 3 (.int .i64 (N : Nat))) 2 = .int .i64 (x : Nat) from ⟨u1, u2⟩)
                clear u1 u2
                rw [HFR.out]
                rw [e1, e2]
                clear e1 e2
                have hq : IntKind.i64.wrap ((m5 y : Int) + (x : Int)) = (N : Int) := HMN.out
                clear hB
                go_wp2_with fail
                show K _ _
                have := H.out _ (Ext.refl _)
                rw [HFR.out] at this
                obtain ⟨u1, u2⟩ := HU.out
                rw [u1, u2] at this
                exact this
              · rintro L A W K hL hC hW ⟨V, rfl, HV, hb, ha, ho18⟩ hK
                have h0 : L 20 = false := hC.no hL 20 _ rfl rfl
                have hB := hb h0
                have H := Lib.hid (show ∀ W', Ext W W' → K (fr (upd V 4 (.int .i64 (y : Nat)))) W' from fun W' he => hK _ W' ⟨upd V 4 (.int .i64 (y : Nat)), rfl, HV.up 4 _ (fun x hx => Option.some.inj hx), fun _ => MR.ext hB he, fun h => absurd (more_ne h rfl) (by rw [h0]; simp), fun h => (show upd V 4 (.int .i64 (y : Nat)) 18 = V 18 from rfl).trans (ho18 (by unfold More at h; rwa [if_neg (by decide)] at h))⟩)
                clear hK hC hW hL HV hb ha h0 ho18
                rw [HFR.out]
                clear hB
                go_wp2_with fail
                show K _ _
                have := H.out _ (Ext.refl _)
                rw [HFR.out] at this
                exact this
              · rintro L A W K hL hC hW ⟨V, rfl, HV, hb, ha, ho18⟩ hK
                have e4 : V 4 = .int .i64 (y : Nat) := HV 4 _ rfl (hW 4 rfl)
                have h0 : L 20 = false := hC.no hL 20 _ rfl rfl
                have hB := hb h0
                have H := Lib.hid (show ∀ W', Ext W W' → K (fr (upd V 5 (.int .i64 (m5 y : Nat)))) W' from fun W' he => hK _ W' ⟨upd V 5 (.int .i64 (m5 y : Nat)), rfl, HV.up 5 _ (fun x hx => Option.some.inj hx), fun _ => MR.ext hB he, fun h => absurd (more_ne h rfl) (by rw [h0]; simp), fun h => (show upd V 5 (.int .i64 (m5 y : Nat)) 18 = V 18 from rfl).trans (ho18 (by unfold More at h; rwa [if_neg (by decide)] at h))⟩)
                clear hK hC hW hL HV hb ha h0 ho18
                have u4 : (upd V 5 (.int .i64 (m5 y : Nat))) 4 = .int .i64 (y : Nat) := e4
                have HU := Lib.hid (show (upd V 5 (.int .i64 (m5 y : Nat))) 4 = .int .i64 (y : Nat) from u4)
                clear u4
                rw [HFR.out]
                rw [e4]
                clear e4
                have hq : IntKind.i64.wrap (5 * (y : Int)) = ((m5 y : Nat) : Int) := by unfold m5; rw [IntWalk.i64_in _ (by omega)]; omega
                clear hB
                go_wp2_with fail
                show K _ _
                have := H.out _ (Ext.refl _)
                rw [HFR.out] at this
                obtain u4 := HU.out
                rw [u4] at this
                exact this
              · rintro L A W K hL hC hW ⟨V, rfl, HV, hb, ha, ho18⟩ hK
                have h0 : L 20 = false := hC.no hL 20 _ rfl rfl
                have hB := hb h0
                have H := Lib.hid (show ∀ W', Ext W W' → K (fr (upd V 6 (.int .i64 (x : Nat)))) W' from fun W' he => hK _ W' ⟨upd V 6 (.int .i64 (x : Nat)), rfl, HV.up 6 _ (fun x hx => Option.some.inj hx), fun _ => MR.ext hB he, fun h => absurd (more_ne h rfl) (by rw [h0]; simp), fun h => (show upd V 6 (.int .i64 (x : Nat)) 18 = V 18 from rfl).trans (ho18 (by unfold More at h; rwa [if_neg (by decide)] at h))⟩)
                clear hK hC hW hL HV hb ha h0 ho18
                rw [HFR.out]
                clear hB
                go_wp2_with fail
                show K _ _
                have := H.out _ (Ext.refl _)
                rw [HFR.out] at this
                exact this
              · rintro L A W K hL hC hW ⟨V, rfl, HV, hb, ha, ho18⟩ hK
                have e5 : V 5 = .int .i64 (m5 y : Nat) := HV 5 _ rfl (hW 5 rfl)
                have e6 : V 6 = .int .i64 (x : Nat) := HV 6 _ rfl (hW 6 rfl)
                have h0 : L 20 = false := hC.no hL 20 _ rfl rfl
                have hB := hb h0
                have H := Lib.hid (show ∀ W', Ext W W' → K (fr (upd V 7 (.int .i64 (N : Nat)))) W' from fun W' he => hK _ W' ⟨upd V 7 (.int .i64 (N : Nat)), rfl, HV.up 7 _ (fun x hx => Option.some.inj hx), fun _ => MR.ext hB he, fun h => absurd (more_ne h rfl) (by rw [h0]; simp), fun h => (show upd V 7 (.int .i64 (N : Nat)) 18 = V 18 from rfl).trans (ho18 (by unfold More at h; rwa [if_neg (by decide)] at h))⟩)
                clear hK hC hW hL HV hb ha h0 ho18
                have u5 : (upd V 7 (.int .i64 (N : Nat))) 5 = .int .i64 (m5 y : Nat) := e5
                have u6 : (upd V 7 (.int .i64 (N : Nat))) 6 = .int .i64 (x : Nat) := e6
                have HU := Lib.hid (show (upd V 7 (.int .i64 (N : Nat))) 5 = .int .i64 (m5 y : Nat) ∧ (upd V 7 (.int .i64 (N : Nat))) 6 = .int .i64 (x : Nat) from ⟨u5, u6⟩)
                clear u5 u6
                rw [HFR.out]
                rw [e5, e6]
                clear e5 e6
                have hq : IntKind.i64.wrap ((m5 y : Int) + (x : Int)) = (N : Int) := HMN.out
                clear hB
                go_wp2_with fail
                show K _ _
                have := H.out _ (Ext.refl _)
                rw [HFR.out] at this
                obtain ⟨u5, u6⟩ := HU.out
                rw [u5, u6] at this
                exact this
              · rintro L A W K hL hC hW ⟨V, rfl, HV, hb, ha, ho18⟩ hK
                have e7 : V 7 = .int .i64 (N : Nat) := HV 7 _ rfl (hW 7 rfl)
                have h0 : L 20 = false := hC.no hL 20 _ rfl rfl
                have hB := hb h0
                have H := Lib.hid (show ∀ W', Ext W W' → K (fr (upd V 8 (.pointer (some ⟨w.heap.size, N, none⟩)))) W' from fun W' he => hK _ W' ⟨upd V 8 (.pointer (some ⟨w.heap.size, N, none⟩)), rfl, HV.up 8 _ (fun x hx => Option.some.inj hx), fun _ => MR.ext hB he, fun h => absurd (more_ne h rfl) (by rw [h0]; simp), fun h => (show upd V 8 (.pointer (some ⟨w.heap.size, N, none⟩)) 18 = V 18 from rfl).trans (ho18 (by unfold More at h; rwa [if_neg (by decide)] at h))⟩)
                clear hK hC hW hL HV hb ha h0 ho18
                have u7 : (upd V 8 (.pointer (some ⟨w.heap.size, N, none⟩))) 7 = .int .i64 (N : Nat) := e7
                have HU := Lib.hid (show (upd V 8 (.pointer (some ⟨w.heap.size, N, none⟩))) 7 = .int .i64 (N : Nat) from u7)
                clear u7
                rw [HFR.out]
                rw [e7]
                clear e7
                have h1 : (0 : Int) ≤ (N : Int) := by omega
                have h2 : (N : Int) < 25 := by omega
                clear hB
                go_wp2_with fail
                show K _ _
                have := H.out _ (Ext.refl _)
                rw [HFR.out] at this
                obtain u7 := HU.out
                rw [u7] at this
                exact this
              · rintro L A W K hL hC hW ⟨V, rfl, HV, hb, ha, ho18⟩ hK
                have e8 : V 8 = .pointer (some ⟨w.heap.size, N, none⟩) := HV 8 _ rfl (hW 8 rfl)
                have h0 : L 20 = false := hC.no hL 20 _ rfl rfl
                have hB := hb h0
                have H := Lib.hid (show ∀ W', Ext W W' → K (fr (upd V 9 (.int .u64 (nx : Nat)))) W' from fun W' he => hK _ W' ⟨upd V 9 (.int .u64 (nx : Nat)), rfl, HV.up 9 _ (fun x hx => Option.some.inj hx), fun _ => MR.ext hB he, fun h => absurd (more_ne h rfl) (by rw [h0]; simp), fun h => (show upd V 9 (.int .u64 (nx : Nat)) 18 = V 18 from rfl).trans (ho18 (by unfold More at h; rwa [if_neg (by decide)] at h))⟩)
                clear hK hC hW hL HV hb ha h0 ho18
                have u8 : (upd V 9 (.int .u64 (nx : Nat))) 8 = .pointer (some ⟨w.heap.size, N, none⟩) := e8
                have HU := Lib.hid (show (upd V 9 (.int .u64 (nx : Nat))) 8 = .pointer (some ⟨w.heap.size, N, none⟩) from u8)
                clear u8
                rw [HFR.out]
                rw [e8]
                clear e8
                have hc := Ln.cell hB.1 N hN
                rw [HNX.out] at hc
                clear hB
                go_wp2_with fail
                show K _ _
                have := H.out _ (Ext.refl _)
                rw [HFR.out] at this
                obtain u8 := HU.out
                rw [u8] at this
                exact this
              · rintro L A W K hL hC hW ⟨V, rfl, HV, hb, ha, ho18⟩ hK
                have e18 : V 18 = .int .u64 (now : Nat) := ho18 (hC.no hL 18 _ rfl rfl)
                have h0 : L 20 = false := hC.no hL 20 _ rfl rfl
                have hB := hb h0
                have H := Lib.hid (show ∀ W', Ext W W' → K (fr (upd V 10 (.int .u64 (now : Nat)))) W' from fun W' he => hK _ W' ⟨upd V 10 (.int .u64 (now : Nat)), rfl, HV.up 10 _ (fun x hx => Option.some.inj hx), fun _ => MR.ext hB he, fun h => absurd (more_ne h rfl) (by rw [h0]; simp), fun h => (show upd V 10 (.int .u64 (now : Nat)) 18 = V 18 from rfl).trans (ho18 (by unfold More at h; rwa [if_neg (by decide)] at h))⟩)
                clear hK hC hW hL HV hb ha h0 ho18
                have u18 : (upd V 10 (.int .u64 (now : Nat))) 18 = .int .u64 (now : Nat) := e18
                have HU := Lib.hid (show (upd V 10 (.int .u64 (now : Nat))) 18 = .int .u64 (now : Nat) from u18)
                clear u18
                rw [HFR.out]
                rw [e18]
                clear e18
                clear hB
                go_wp2_with fail
                show K _ _
                have := H.out _ (Ext.refl _)
                rw [HFR.out] at this
                obtain u18 := HU.out
                rw [u18] at this
                exact this
              · rintro L A W K hL hC hW ⟨V, rfl, HV, hb, ha, ho18⟩ hK
                have h0 : L 20 = false := hC.no hL 20 _ rfl rfl
                have hB := hb h0
                have H := Lib.hid (show ∀ W', Ext W W' → K (fr (upd V 11 (.int .i64 (t : Nat)))) W' from fun W' he => hK _ W' ⟨upd V 11 (.int .i64 (t : Nat)), rfl, HV.up 11 _ (fun x hx => Option.some.inj hx), fun _ => MR.ext hB he, fun h => absurd (more_ne h rfl) (by rw [h0]; simp), fun h => (show upd V 11 (.int .i64 (t : Nat)) 18 = V 18 from rfl).trans (ho18 (by unfold More at h; rwa [if_neg (by decide)] at h))⟩)
                clear hK hC hW hL HV hb ha h0 ho18
                rw [HFR.out]
                clear hB
                go_wp2_with fail
                show K _ _
                have := H.out _ (Ext.refl _)
                rw [HFR.out] at this
                exact this
              · rintro L A W K hL hC hW ⟨V, rfl, HV, hb, ha, ho18⟩ hK
                have e11 : V 11 = .int .i64 (t : Nat) := HV 11 _ rfl (hW 11 rfl)
                have h0 : L 20 = false := hC.no hL 20 _ rfl rfl
                have hB := hb h0
                have H := Lib.hid (show ∀ W', Ext W W' → K (fr (upd V 12 (.int .i64 (t + 1 : Nat)))) W' from fun W' he => hK _ W' ⟨upd V 12 (.int .i64 (t + 1 : Nat)), rfl, HV.up 12 _ (fun x hx => Option.some.inj hx), fun _ => MR.ext hB he, fun h => absurd (more_ne h rfl) (by rw [h0]; simp), fun h => (show upd V 12 (.int .i64 (t + 1 : Nat)) 18 = V 18 from rfl).trans (ho18 (by unfold More at h; rwa [if_neg (by decide)] at h))⟩)
                clear hK hC hW hL HV hb ha h0 ho18
                have u11 : (upd V 12 (.int .i64 (t + 1 : Nat))) 11 = .int .i64 (t : Nat) := e11
                have HU := Lib.hid (show (upd V 12 (.int .i64 (t + 1 : Nat))) 11 = .int .i64 (t : Nat) from u11)
                clear u11
                rw [HFR.out]
                rw [e11]
                clear e11
                have hq : IntKind.i64.wrap ((t : Int) + 1) = ((t + 1 : Nat) : Int) := by rw [IntWalk.i64_in _ (by omega)]; omega
                clear hB
                go_wp2_with fail
                show K _ _
                have := H.out _ (Ext.refl _)
                rw [HFR.out] at this
                obtain u11 := HU.out
                rw [u11] at this
                exact this
              · rintro L A W K hL hC hW ⟨V, rfl, HV, hb, ha, ho18⟩ hK
                have h0 : L 20 = false := hC.no hL 20 _ rfl rfl
                have hB := hb h0
                have H := Lib.hid (show ∀ W', Ext W W' → K (fr (upd V 13 (.int .i64 (t : Nat)))) W' from fun W' he => hK _ W' ⟨upd V 13 (.int .i64 (t : Nat)), rfl, HV.up 13 _ (fun x hx => Option.some.inj hx), fun _ => MR.ext hB he, fun h => absurd (more_ne h rfl) (by rw [h0]; simp), fun h => (show upd V 13 (.int .i64 (t : Nat)) 18 = V 18 from rfl).trans (ho18 (by unfold More at h; rwa [if_neg (by decide)] at h))⟩)
                clear hK hC hW hL HV hb ha h0 ho18
                rw [HFR.out]
                clear hB
                go_wp2_with fail
                show K _ _
                have := H.out _ (Ext.refl _)
                rw [HFR.out] at this
                exact this
              · rintro L A W K hL hC hW ⟨V, rfl, HV, hb, ha, ho18⟩ hK
                have e13 : V 13 = .int .i64 (t : Nat) := HV 13 _ rfl (hW 13 rfl)
                have h0 : L 20 = false := hC.no hL 20 _ rfl rfl
                have hB := hb h0
                have H := Lib.hid (show ∀ W', Ext W W' → K (fr (upd V 14 (.int .i64 (t + 2 : Nat)))) W' from fun W' he => hK _ W' ⟨upd V 14 (.int .i64 (t + 2 : Nat)), rfl, HV.up 14 _ (fun x hx => Option.some.inj hx), fun _ => MR.ext hB he, fun h => absurd (more_ne h rfl) (by rw [h0]; simp), fun h => (show upd V 14 (.int .i64 (t + 2 : Nat)) 18 = V 18 from rfl).trans (ho18 (by unfold More at h; rwa [if_neg (by decide)] at h))⟩)
                clear hK hC hW hL HV hb ha h0 ho18
                have u13 : (upd V 14 (.int .i64 (t + 2 : Nat))) 13 = .int .i64 (t : Nat) := e13
                have HU := Lib.hid (show (upd V 14 (.int .i64 (t + 2 : Nat))) 13 = .int .i64 (t : Nat) from u13)
                clear u13
                rw [HFR.out]
                rw [e13]
                clear e13
                have hq : IntKind.i64.wrap ((t : Int) + 2) = ((t + 2 : Nat) : Int) := by rw [IntWalk.i64_in _ (by omega)]; omega
                clear hB
                go_wp2_with fail
                show K _ _
                have := H.out _ (Ext.refl _)
                rw [HFR.out] at this
                obtain u13 := HU.out
                rw [u13] at this
                exact this
              · rintro L A W K hL hC hW ⟨V, rfl, HV, hb, ha, ho18⟩ hK
                have e12 : V 12 = .int .i64 (t + 1 : Nat) := HV 12 _ rfl (hW 12 rfl)
                have e14 : V 14 = .int .i64 (t + 2 : Nat) := HV 14 _ rfl (hW 14 rfl)
                have h0 : L 20 = false := hC.no hL 20 _ rfl rfl
                have hB := hb h0
                have H := Lib.hid (show ∀ W', Ext W W' → K (fr (upd V 15 (.int .i64 (tr2 : Nat)))) W' from fun W' he => hK _ W' ⟨upd V 15 (.int .i64 (tr2 : Nat)), rfl, HV.up 15 _ (fun x hx => Option.some.inj hx), fun _ => MR.ext hB he, fun h => absurd (more_ne h rfl) (by rw [h0]; simp), fun h => (show upd V 15 (.int .i64 (tr2 : Nat)) 18 = V 18 from rfl).trans (ho18 (by unfold More at h; rwa [if_neg (by decide)] at h))⟩)
                clear hK hC hW hL HV hb ha h0 ho18
                have u12 : (upd V 15 (.int .i64 (tr2 : Nat))) 12 = .int .i64 (t + 1 : Nat) := e12
                have u14 : (upd V 15 (.int .i64 (tr2 : Nat))) 14 = .int .i64 (t + 2 : Nat) := e14
                have HU := Lib.hid (show (upd V 15 (.int .i64 (tr2 : Nat))) 12 = .int .i64 (t + 1 : Nat) ∧ (upd V 15 (.int .i64 (tr2 : Nat))) 14 = .int .i64 (t + 2 : Nat) from ⟨u12, u14⟩)
                clear u12 u14
                rw [HFR.out]
                rw [e12, e14]
                clear e12 e14
                obtain ⟨hq, hq2⟩ := HT2.out
                clear hB
                go_wp2_with fail
                show K _ _
                have := H.out _ (Ext.refl _)
                rw [HFR.out] at this
                obtain ⟨u12, u14⟩ := HU.out
                rw [u12, u14] at this
                exact this
              · rintro L A W K hL hC hW ⟨V, rfl, HV, hb, ha, ho18⟩ hK
                have e15 : V 15 = .int .i64 (tr2 : Nat) := HV 15 _ rfl (hW 15 rfl)
                have h0 : L 20 = false := hC.no hL 20 _ rfl rfl
                have hB := hb h0
                have H := Lib.hid (show ∀ W', Ext W W' → K (fr (upd V 16 (.int .i64 (tr : Nat)))) W' from fun W' he => hK _ W' ⟨upd V 16 (.int .i64 (tr : Nat)), rfl, HV.up 16 _ (fun x hx => Option.some.inj hx), fun _ => MR.ext hB he, fun h => absurd (more_ne h rfl) (by rw [h0]; simp), fun h => (show upd V 16 (.int .i64 (tr : Nat)) 18 = V 18 from rfl).trans (ho18 (by unfold More at h; rwa [if_neg (by decide)] at h))⟩)
                clear hK hC hW hL HV hb ha h0 ho18
                have u15 : (upd V 16 (.int .i64 (tr : Nat))) 15 = .int .i64 (tr2 : Nat) := e15
                have HU := Lib.hid (show (upd V 16 (.int .i64 (tr : Nat))) 15 = .int .i64 (tr2 : Nat) from u15)
                clear u15
                rw [HFR.out]
                rw [e15]
                clear e15
                obtain ⟨hq, hq2, hq3⟩ := HTR.out
                clear hB
                go_wp2_with fail
                rw [hq2]
                show K _ _
                have := H.out _ (Ext.refl _)
                rw [HFR.out] at this
                obtain u15 := HU.out
                rw [u15] at this
                exact this
              · rintro L A W K hL hC hW ⟨V, rfl, HV, hb, ha, ho18⟩ hK
                have e10 : V 10 = .int .u64 (now : Nat) := HV 10 _ rfl (hW 10 rfl)
                have e16 : V 16 = .int .i64 (tr : Nat) := HV 16 _ rfl (hW 16 rfl)
                have h0 : L 20 = false := hC.no hL 20 _ rfl rfl
                have hB := hb h0
                have H := Lib.hid (show ∀ W', Ext W W' → K (fr (upd V 17 (.int .u64 (rot (tr % 64) now : Nat)))) W' from fun W' he => hK _ W' ⟨upd V 17 (.int .u64 (rot (tr % 64) now : Nat)), rfl, HV.up 17 _ (fun x hx => Option.some.inj hx), fun _ => MR.ext hB he, fun h => absurd (more_ne h rfl) (by rw [h0]; simp), fun h => (show upd V 17 (.int .u64 (rot (tr % 64) now : Nat)) 18 = V 18 from rfl).trans (ho18 (by unfold More at h; rwa [if_neg (by decide)] at h))⟩)
                clear hK hC hW hL HV hb ha h0 ho18
                have u10 : (upd V 17 (.int .u64 (rot (tr % 64) now : Nat))) 10 = .int .u64 (now : Nat) := e10
                have u16 : (upd V 17 (.int .u64 (rot (tr % 64) now : Nat))) 16 = .int .i64 (tr : Nat) := e16
                have HU := Lib.hid (show (upd V 17 (.int .u64 (rot (tr % 64) now : Nat))) 10 = .int .u64 (now : Nat) ∧ (upd V 17 (.int .u64 (rot (tr % 64) now : Nat))) 16 = .int .i64 (tr : Nat) from ⟨u10, u16⟩)
                clear u10 u16
                rw [HFR.out]
                rw [e10, e16]
                clear e10 e16
                go_wp2_with fail
                refine (left_any now tr _ HNW.out HTL.out).mono ?_
                rintro e wx ⟨rfl, he⟩
                go_wp2_with fail
                show K _ _
                have := H.out _ he
                rw [HFR.out] at this
                obtain ⟨u10, u16⟩ := HU.out
                rw [u10, u16] at this
                exact this
              · rintro L A W K hL hC hW ⟨V, rfl, HV, hb, ha, ho18⟩ hK
                have e9 : V 9 = .int .u64 (nx : Nat) := HV 9 _ rfl (hW 9 rfl)
                have h0 : L 20 = false := hC.no hL 20 _ rfl rfl
                have hB := hb h0
                have H := Lib.hid (show ∀ W', Ext W W' → K (fr (upd V 18 (.int .u64 (nx : Nat)))) W' from fun W' he => hK _ W' ⟨upd V 18 (.int .u64 (nx : Nat)), rfl, HV.up 18 _ (fun x hx => Option.some.inj hx), fun _ => MR.ext hB he, fun h => absurd (more_ne h rfl) (by rw [h0]; simp), fun h => absurd h (by unfold More; rw [if_pos rfl]; simp)⟩)
                clear hK hC hW hL HV hb ha h0 ho18
                have u9 : (upd V 18 (.int .u64 (nx : Nat))) 9 = .int .u64 (nx : Nat) := e9
                have HU := Lib.hid (show (upd V 18 (.int .u64 (nx : Nat))) 9 = .int .u64 (nx : Nat) from u9)
                clear u9
                rw [HFR.out]
                rw [e9]
                clear e9
                clear hB
                go_wp2_with fail
                show K _ _
                have := H.out _ (Ext.refl _)
                rw [HFR.out] at this
                obtain u9 := HU.out
                rw [u9] at this
                exact this
              · rintro L A W K hL hC hW ⟨V, rfl, HV, hb, ha, ho18⟩ hK
                have e3 : V 3 = .int .i64 (N : Nat) := HV 3 _ rfl (hW 3 rfl)
                have h0 : L 20 = false := hC.no hL 20 _ rfl rfl
                have hB := hb h0
                have H := Lib.hid (show ∀ W', Ext W W' → K (fr (upd V 19 (.pointer (some ⟨w.heap.size, N, none⟩)))) W' from fun W' he => hK _ W' ⟨upd V 19 (.pointer (some ⟨w.heap.size, N, none⟩)), rfl, HV.up 19 _ (fun x hx => Option.some.inj hx), fun _ => MR.ext hB he, fun h => absurd (more_ne h rfl) (by rw [h0]; simp), fun h => (show upd V 19 (.pointer (some ⟨w.heap.size, N, none⟩)) 18 = V 18 from rfl).trans (ho18 (by unfold More at h; rwa [if_neg (by decide)] at h))⟩)
                clear hK hC hW hL HV hb ha h0 ho18
                have u3 : (upd V 19 (.pointer (some ⟨w.heap.size, N, none⟩))) 3 = .int .i64 (N : Nat) := e3
                have HU := Lib.hid (show (upd V 19 (.pointer (some ⟨w.heap.size, N, none⟩))) 3 = .int .i64 (N : Nat) from u3)
                clear u3
                rw [HFR.out]
                rw [e3]
                clear e3
                have h1 : (0 : Int) ≤ (N : Int) := by omega
                have h2 : (N : Int) < 25 := by omega
                clear hB
                go_wp2_with fail
                show K _ _
                have := H.out _ (Ext.refl _)
                rw [HFR.out] at this
                obtain u3 := HU.out
                rw [u3] at this
                exact this
              · rintro L A W K hL hC hW ⟨V, rfl, HV, hb, ha, ho18⟩ hK
                have e19 : V 19 = .pointer (some ⟨w.heap.size, N, none⟩) := HV 19 _ rfl (hW 19 rfl)
                have e17 : V 17 = .int .u64 (rot (tr % 64) now : Nat) := HV 17 _ rfl (hW 17 rfl)
                have hB := hb hL
                have H := Lib.hid (show ∀ W', MR w f (t + 1) W' → K (fr V) W' from fun W' hA => hK _ W' ⟨V, rfl, HV.st 20 rfl, fun h => absurd h (by unfold More; rw [if_pos rfl]; simp), fun _ => hA, fun h => ho18 (by unfold More at h; rwa [if_neg (by decide)] at h)⟩)
                clear hK hC hW hL HV hb ha ho18
                have HU := Lib.hid (show V 19 = .pointer (some ⟨w.heap.size, N, none⟩) ∧ V 17 = .int .u64 (rot (tr % 64) now : Nat) from ⟨e19, e17⟩)
                rw [HFR.out]
                rw [e19, e17]
                clear e19 e17
                have hz := Ln.cell hB.1 N hN
                have hf := Cs.frozen hB.1 N
                have HA := Lib.hid (HPUT.out W hB)
                clear hB
                go_wp2_with fail
                show K _ _
                have := H.out _ HA.out
                rw [HFR.out] at this
                obtain ⟨u19, u17⟩ := HU.out
                rw [u19, u17] at this
                exact this
              · rintro L A W hL ⟨V, rfl, HV, hb, ha, ho18⟩
                have e0 : V 0 = .int .i64 (y : Nat) := HV 0 _ rfl (hL 0 (by simp))
                have e1 : V 1 = .int .i64 (m5 y : Nat) := HV 1 _ rfl (hL 1 (by simp))
                have e2 : V 2 = .int .i64 (x : Nat) := HV 2 _ rfl (hL 2 (by simp))
                have e3 : V 3 = .int .i64 (N : Nat) := HV 3 _ rfl (hL 3 (by simp))
                have e4 : V 4 = .int .i64 (y : Nat) := HV 4 _ rfl (hL 4 (by simp))
                have e5 : V 5 = .int .i64 (m5 y : Nat) := HV 5 _ rfl (hL 5 (by simp))
                have e6 : V 6 = .int .i64 (x : Nat) := HV 6 _ rfl (hL 6 (by simp))
                have e7 : V 7 = .int .i64 (N : Nat) := HV 7 _ rfl (hL 7 (by simp))
                have e8 : V 8 = .pointer (some ⟨w.heap.size, N, none⟩) := HV 8 _ rfl (hL 8 (by simp))
                have e9 : V 9 = .int .u64 (nx : Nat) := HV 9 _ rfl (hL 9 (by simp))
                have e10 : V 10 = .int .u64 (now : Nat) := HV 10 _ rfl (hL 10 (by simp))
                have e11 : V 11 = .int .i64 (t : Nat) := HV 11 _ rfl (hL 11 (by simp))
                have e12 : V 12 = .int .i64 (t + 1 : Nat) := HV 12 _ rfl (hL 12 (by simp))
                have e13 : V 13 = .int .i64 (t : Nat) := HV 13 _ rfl (hL 13 (by simp))
                have e14 : V 14 = .int .i64 (t + 2 : Nat) := HV 14 _ rfl (hL 14 (by simp))
                have e15 : V 15 = .int .i64 (tr2 : Nat) := HV 15 _ rfl (hL 15 (by simp))
                have e16 : V 16 = .int .i64 (tr : Nat) := HV 16 _ rfl (hL 16 (by simp))
                have e17 : V 17 = .int .u64 (rot (tr % 64) now : Nat) := HV 17 _ rfl (hL 17 (by simp))
                have e18 : V 18 = .int .u64 (nx : Nat) := HV 18 _ rfl (hL 18 (by simp))
                have e19 : V 19 = .pointer (some ⟨w.heap.size, N, none⟩) := HV 19 _ rfl (hL 19 (by simp))
                have hA := ha (hL 20 (by simp))
                rw [HFR.out]
                rw [e0, e1, e2, e3, e4, e5, e6, e7, e8, e9, e10, e11, e12, e13, e14, e15, e16, e17, e18, e19]
                clear hL HV HFR e0 e1 e2 e3 e4 e5 e6 e7 e8 e9 e10 e11 e12 e13 e14 e15 e16 e17 e18 e19 hb ha ho18
                have HJ2 := Lib.hid hA
                clear hA HJ
                go_wp2_with fail
                exact ⟨⟨t + 1, by omega, by go_num, HE1.out, HE2.out, HE3.out, HJ2⟩, by simp [intOf]; omega⟩
            · obtain rfl : t = 24 := by omega
              have HL1 := Lib.hid HJ.out.1
              have HL2 := Lib.hid HJ.out.2.1
              have HE := Lib.hid HJ.out.2.2
              have HALL := Lib.hid (rhP_all f HF.out)
              clear HJ
              generalize thT f = T at *
              go_wp2_with (first
                | ((with_reducible refine wpList_load_lanes ?_ (.tmp 1) ?_ w.heap.size (rhP T 24) ?_ ?_ ?_); (exact rfl); (exact rfl); (exact rfl); (exact HL1.out))
                | ((with_reducible refine wpList_store_lanes ?_ ?_ (.tmp 2) (.tmp 80) ?_ (w.heap.size + 1) (lc fun _ => 0) (rhP T 24) ?_ ?_ ?_ ?_ ?_); (exact rfl); (exact rfl); (exact rfl); (exact rfl); (exact rfl); (exact HL2.out); (exact lc_size _); intro w7 k7 g7; have K7 := Lib.hid k7; have HE7 := Lib.hid (HE.out.grown g7 (by omega)); clear k7 g7))
              exact bodyPost_ret (results_lanes Tryd.results19 _ _ (w.heap.size + 1) _ rfl K7.out) rfl ⟨by unfold lnv; rw [HALL.out], HE7.out⟩
end Go.Proofs.YthjmjccggkejhaaDoor
