/- Package pack: bytes made of noughts, tails, Size. -/
import Derived.Test.YtdlllihfibjabaaPka
import Derived.Test.YtdlllihfibjabaaInw
import Derived.IntWalk
namespace Go.Proofs.Ytdlllihfibjabaa
open Go.RowKit Go.Shelf

/-! ### tails -/
set_option maxRecDepth 100000 in
set_option maxHeartbeats 1000000 in
theorem tails_any (F : FuncId) (cap : Array Value) (v : Value) (l : List Pt) (J : Nat → World → Prop) (w : World)
    (hF : ∀ (args : Array Value) (u : World), (callFunc F args).run Try.prog u = .ok (.enter F args) u) (hJ0 : J 0 w) (w00 : World) (hP0 : Pts w00 v l) (hP : ∀ i W, J i W → Ext w00 W) (hst : ∀ i W W', J i W → Ext W W' → J i W')
    (hno : ∀ i W, i < l.length → (l.getD i (false, 0, [])).1 = false → J i W → J (i + 1) W)
    (hcall : ∀ i u W, i < l.length → (l.getD i (false, 0, [])).1 = true → J i W → Bs w00 u (l.getD i (false, 0, [])).2.2 → Bs W u (l.getD i (false, 0, [])).2.2 → Calls Try.prog F (#[.int .i64 (i : Int), u] ++ cap) W fun e W' => e = .returned (.tuple #[]) ∧ J (i + 1) W') :
    Calls Try.prog 57 #[.func (.func F) #[] cap, v] w fun e w' => e = .returned (.tuple #[]) ∧ J l.length w' := by
  have HF := Lib.hid hF
  have HP := Lib.hid hP
  have HP0 := Lib.hid hP0
  have HST := Lib.hid hst
  have HNO := Lib.hid hno
  have HC := Lib.hid hcall
  have HJ0 := Lib.hid hJ0
  obtain ⟨A, c, rfl, h1, h2⟩ := hP0.len
  unfold maxLen at h2
  clear hF hP hP0 hst hno hcall hJ0
  go_enter Try.func57, Try.ntmps57
  go_wp2_with fail
  go_loopw [4, 5, 8, 9, 10, 11, 12, 13, 14, 15, 16, 17, 18, 19, 20] (fun _ _ u _ _ _ _ _ _ _ _ _ _ _ _ wr => ∃ k : Nat, k ≤ l.length ∧ u = .int .i64 k ∧ Hid (J k wr)) (fun _ _ u _ _ _ _ _ _ _ _ _ _ _ _ _ => l.length - (intOf u).toNat)
  case atStart => exact ⟨0, by omega, rfl, HJ0⟩
  case round =>
    clear HJ0
    obtain ⟨k, hk, rfl, HJ⟩ := hrel
    by_cases hlt : k < l.length
    · have hdk : decide (k < l.length) = true := decide_eq_true hlt
      obtain ⟨b, o, u, rfl, hr, hu, hw⟩ := HP0.out.at k hlt
      have HR := Lib.hid (show wr.rangeAt b (o + k * 6) (ptc (l.getD k (false, 0, [])) u).toList from fun j x h => (HP.out k _ HJ.out).cell (hr j x h))
      have HU := Lib.hid (hu.ext (HP.out k _ HJ.out))
      have HU0 := Lib.hid hu
      have HN := Lib.hid (fun W => HNO.out k W hlt)
      have HC1 := Lib.hid (fun u W => HC.out k u W hlt)
      clear hr hu hw
      generalize l.getD k (false, 0, []) = p at *
      go_upto_region 3 with (first
        | ((with_reducible refine wpList_load_part ?_ (.tmp 11) ?_ b (o + k * 6) p u ?_ ?_ ?_); (exact rfl); (exact rfl); (exact rfl); (exact HR.out))
        | ((with_reducible refine wpList_store_part ?_ ?_ (.tmp 5) (.tmp 12) ?_ wr.heap.size pz p u ?_ ?_ ?_ ?_ ?_ ?_); (exact rfl); (exact rfl); (exact rfl); (exact bs_one HU.out); (exact rfl); (exact rfl); (exact Cs.new _ _ _ _ rfl); (exact rfl); intro w4 k4 g4; have K4 := Lib.hid k4; have HR4 := Lib.hid (((Ext.refl wr).alloc _).grown g4 (Nat.le_refl _)); clear k4 g4))
      have HJ4 := Lib.hid (HST.out k _ _ HJ.out HR4.out)
      have HU4 := Lib.hid (HU.out.ext HR4.out)
      have hc0 := K4.out.long
      have hc5 := K4.out.data
      obtain ⟨lg, n, d⟩ := p
      dsimp only at *
      clear HJ HR HU HR4
      cases lg with
      | true =>
        have HC2 := Lib.hid (HC1.out u w4 rfl HJ4.out HU0.out HU4.out)
        clear HC1
        go_wp2_with fail
        rw [HF.out, Oper.upon_enter]
        refine HC2.out.mono ?_
        rintro e w5 ⟨rfl, hj⟩
        have HJ5 := Lib.hid hj
        clear hj hc0 hc5
        go_wp2_with fail
        exact ⟨⟨k + 1, by omega, by go_num, HJ5⟩, by simp [intOf]; omega⟩
      | false =>
        have HJ5 := Lib.hid (HN.out w4 rfl HJ4.out)
        go_wp2_with fail
        exact ⟨⟨k + 1, by omega, by go_num, HJ5⟩, by simp [intOf]; omega⟩
    · obtain rfl : k = l.length := by omega
      go_wp2_with fail
      go_end0
      exact ⟨rfl, HJ.out⟩

/-! ### Size -/
def SzB (w : World) (g s : Nat) (W : World) : Prop := Cs W g 3 #[.int .i64 (s : Nat)] ∧ Ext w W
set_option maxRecDepth 100000 in
theorem SzB.ext {w : World} {g s : Nat} {W W' : World} (h : SzB w g s W) (he : Ext W W') : SzB w g s W' := ⟨h.1.ext he, h.2.trans he⟩
def SzA (w : World) (g s : Nat) (W : World) : Prop := Cs W g 3 #[.int .i64 (s : Nat)] ∧ w.grownBy W (some g)
set_option maxRecDepth 100000 in
theorem SzA.ext {w : World} {g s : Nat} {W W' : World} (h : SzA w g s W) (he : Ext W W') : SzA w g s W' := ⟨h.1.ext he, ⟨he.os.trans h.2.os, he.tape.trans h.2.tape, he.output.trans h.2.output, Nat.le_trans h.2.size he.size, fun i hi hne => (Below.block he i (Nat.lt_of_lt_of_le hi h.2.size)).trans (h.2.block i hi hne)⟩⟩
set_option maxRecDepth 100000 in
theorem SzB.put {w : World} {g s : Nat} {W : World} (h : SzB w g s W) (t : Nat) : SzA w g t (W.setCell ⟨g, 0, none⟩ (.int .i64 (t : Nat))) :=
  ⟨Cs.set h.1 0 _, grown_trans (grown_of_ext h.2 _) (grown_set _ _ _ _)⟩
set_option maxRecDepth 100000 in
set_option maxHeartbeats 1000000 in
theorem size1_any (i s g : Nat) (u : Value) (d : List UInt8) (w : World) (hs : s ≤ 1000000000000) (hd : d.length ≤ 1000000000) (hu : Bs w u d) (hg : Cs w g 3 #[.int .i64 (s : Nat)]) :
    Calls Try.prog 65 #[.int .i64 (i : Int), u, .pointer (some ⟨g, 0, none⟩)] w fun e w' => e = .returned (.tuple #[]) ∧ SzA w g (s + (32 + flN d.length)) w' := by
  obtain ⟨A0, c, rfl, h1, h2, _⟩ := hu
  unfold maxLen at h2
  have hfl : flN d.length ≤ 1000000031 := by unfold flN; omega
  have hd : d.length ≤ 1000000000000 := by omega
  go_enter Try.func65, Try.ntmps65
  refine wp_named fun a0 ha0 => ?_
  obtain ⟨fr, hfr⟩ : ∃ fr : (Nat → Value) → Act, ∀ V, fr V = ((((((a0.put (some 5) (V 0)).put (some 6) (V 1)).put (some 7) (V 2)).put (some 8) (V 3)).put (some 9) (V 4)).put (some 10) (V 5)) := ⟨fun V => ((((((a0.put (some 5) (V 0)).put (some 6) (V 1)).put (some 7) (V 2)).put (some 8) (V 3)).put (some 9) (V 4)).put (some 10) (V 5)), fun _ => rfl⟩
  rw [ha0] at hfr
  simp only [Act.put, List.setIfInBounds_toArray, List.set_cons_zero, List.set_cons_succ] at hfr
  have HFR := Lib.hid hfr
  clear hfr
  refine wp_region_inv (by kernel_rfl) (by kernel_rfl) (fun L A W => ∃ V : Nat → Value, A = fr V ∧ Vals (fun j => ([some (.int .i64 (s : Nat)), some (.slice A0 d.length c), some (.int .i64 (d.length : Nat)), some (.int .i64 (flN d.length : Nat)), some (.int .i64 (32 + flN d.length : Nat)), some (.int .i64 (s + (32 + flN d.length) : Nat)), none] : List (Option Value)).getD j none) L V ∧ (L 6 = false → SzB w g s W) ∧ (L 6 = true → SzA w g (s + (32 + flN d.length)) W)) ?_ ⟨?_, ?_, ?_, ?_, ?_, ?_, ?_, trivial⟩ ?_
  · refine ⟨fun j => a0.tmps.getD (([5, 6, 7, 8, 9, 10, 0] : List Nat).getD j 0) undef, ?_, Vals.no _ _ _ (far_none _ _ rfl), fun _ => ⟨hg, (Ext.refl w).drew⟩, fun h0 => absurd h0 (by decide)⟩
    rw [HFR.out, ha0]
    rfl
  all_goals clear ha0
  · rintro L A W K hL hC hW ⟨V, rfl, HV, s0, s1⟩ hK
    have hB := s0 (hC.no (hC.no hL 5 _ rfl rfl) 6 _ rfl rfl)
    have H := Lib.hid (show ∀ W', Ext W W' → K (fr (upd V 0 (.int .i64 (s : Nat)))) W' from fun W' he => hK _ _ ⟨upd V 0 (.int .i64 (s : Nat)), rfl, HV.up 0 _ (fun x hx => Option.some.inj hx), fun h0 => SzB.ext (s0 (by unfold More at h0; rwa [if_neg (by decide)] at h0)) he, fun h0 => SzA.ext (s1 (more_ne h0 rfl)) he⟩)
    clear hK hC hW hL HV s0 s1
    rw [HFR.out]
    have hc := Cs.cell hB.1 0 _ rfl
    clear hB
    go_wp2_with fail
    show K _ _
    have := H.out _ (Ext.refl _)
    rw [HFR.out] at this
    exact this
  · rintro L A W K hL hC hW ⟨V, rfl, HV, s0, s1⟩ hK
    have H := Lib.hid (show ∀ W', Ext W W' → K (fr (upd V 1 (.slice A0 d.length c))) W' from fun W' he => hK _ _ ⟨upd V 1 (.slice A0 d.length c), rfl, HV.up 1 _ (fun x hx => Option.some.inj hx), fun h0 => SzB.ext (s0 (by unfold More at h0; rwa [if_neg (by decide)] at h0)) he, fun h0 => SzA.ext (s1 (more_ne h0 rfl)) he⟩)
    clear hK hC hW hL HV s0 s1
    rw [HFR.out]
    go_wp2_with fail
    show K _ _
    have := H.out _ (Ext.refl _)
    rw [HFR.out] at this
    exact this
  · rintro L A W K hL hC hW ⟨V, rfl, HV, s0, s1⟩ hK
    have e1 : V 1 = .slice A0 d.length c := HV 1 _ rfl (hW 1 rfl)
    have H := Lib.hid (show ∀ W', Ext W W' → K (fr (upd V 2 (.int .i64 (d.length : Nat)))) W' from fun W' he => hK _ _ ⟨upd V 2 (.int .i64 (d.length : Nat)), rfl, HV.up 2 _ (fun x hx => Option.some.inj hx), fun h0 => SzB.ext (s0 (by unfold More at h0; rwa [if_neg (by decide)] at h0)) he, fun h0 => SzA.ext (s1 (more_ne h0 rfl)) he⟩)
    have HU := Lib.hid (show (upd V 2 (.int .i64 (d.length : Nat))) 1 = .slice A0 d.length c from e1)
    clear hK hC hW hL HV s0 s1
    rw [HFR.out]
    rw [e1]
    clear e1
    go_wp2_with fail
    show K _ _
    have := H.out _ (Ext.refl _)
    rw [HFR.out] at this
    obtain u1 := HU.out
    rw [u1] at this
    exact this
  · rintro L A W K hL hC hW ⟨V, rfl, HV, s0, s1⟩ hK
    have e2 : V 2 = .int .i64 (d.length : Nat) := HV 2 _ rfl (hW 2 rfl)
    have hB := s0 (hC.no (hC.no (hC.no hL 4 _ rfl rfl) 5 _ rfl rfl) 6 _ rfl rfl)
    have H := Lib.hid (show ∀ W', Ext W W' → K (fr (upd V 3 (.int .i64 (flN d.length : Nat)))) W' from fun W' he => hK _ _ ⟨upd V 3 (.int .i64 (flN d.length : Nat)), rfl, HV.up 3 _ (fun x hx => Option.some.inj hx), fun h0 => SzB.ext (s0 (by unfold More at h0; rwa [if_neg (by decide)] at h0)) he, fun h0 => SzA.ext (s1 (more_ne h0 rfl)) he⟩)
    have HU := Lib.hid (show (upd V 3 (.int .i64 (flN d.length : Nat))) 2 = .int .i64 (d.length : Nat) from e2)
    clear hK hC hW hL HV s0 s1
    rw [HFR.out]
    rw [e2]
    clear e2
    go_wp2_with fail
    refine (filled_any d.length _ hd).mono ?_
    rintro e wx ⟨rfl, rfl⟩
    have := H.out _ (Ext.refl _)
    clear H
    go_wp2_with fail
    show K _ _
    rw [HFR.out] at this
    obtain u2 := HU.out
    rw [u2] at this
    exact this
  · rintro L A W K hL hC hW ⟨V, rfl, HV, s0, s1⟩ hK
    have e3 : V 3 = .int .i64 (flN d.length : Nat) := HV 3 _ rfl (hW 3 rfl)
    have hB := s0 (hC.no (hC.no hL 5 _ rfl rfl) 6 _ rfl rfl)
    have H := Lib.hid (show ∀ W', Ext W W' → K (fr (upd V 4 (.int .i64 (32 + flN d.length : Nat)))) W' from fun W' he => hK _ _ ⟨upd V 4 (.int .i64 (32 + flN d.length : Nat)), rfl, HV.up 4 _ (fun x hx => Option.some.inj hx), fun h0 => SzB.ext (s0 (by unfold More at h0; rwa [if_neg (by decide)] at h0)) he, fun h0 => SzA.ext (s1 (more_ne h0 rfl)) he⟩)
    have HU := Lib.hid (show (upd V 4 (.int .i64 (32 + flN d.length : Nat))) 3 = .int .i64 (flN d.length : Nat) from e3)
    clear hK hC hW hL HV s0 s1
    rw [HFR.out]
    rw [e3]
    clear e3
    clear hB
    have hq : IntKind.i64.wrap (32 + (flN d.length : Int)) = ((32 + flN d.length : Nat) : Int) := by rw [IntWalk.i64_in _ (by omega)]; omega
    go_wp2_with fail
    show K _ _
    have := H.out _ (Ext.refl _)
    rw [HFR.out] at this
    obtain u3 := HU.out
    rw [u3] at this
    exact this
  · rintro L A W K hL hC hW ⟨V, rfl, HV, s0, s1⟩ hK
    have e0 : V 0 = .int .i64 (s : Nat) := HV 0 _ rfl (hW 0 rfl)
    have e4 : V 4 = .int .i64 (32 + flN d.length : Nat) := HV 4 _ rfl (hW 4 rfl)
    have hB := s0 (hC.no hL 6 _ rfl rfl)
    have H := Lib.hid (show ∀ W', Ext W W' → K (fr (upd V 5 (.int .i64 (s + (32 + flN d.length) : Nat)))) W' from fun W' he => hK _ _ ⟨upd V 5 (.int .i64 (s + (32 + flN d.length) : Nat)), rfl, HV.up 5 _ (fun x hx => Option.some.inj hx), fun h0 => SzB.ext (s0 (by unfold More at h0; rwa [if_neg (by decide)] at h0)) he, fun h0 => SzA.ext (s1 (more_ne h0 rfl)) he⟩)
    have HU := Lib.hid (show (upd V 5 (.int .i64 (s + (32 + flN d.length) : Nat))) 0 = .int .i64 (s : Nat) ∧ (upd V 5 (.int .i64 (s + (32 + flN d.length) : Nat))) 4 = .int .i64 (32 + flN d.length : Nat) from ⟨e0, e4⟩)
    clear hK hC hW hL HV s0 s1
    rw [HFR.out]
    rw [e0, e4]
    clear e0 e4
    clear hB
    have hq : IntKind.i64.wrap ((s : Int) + ((32 + flN d.length : Nat) : Int)) = ((s + (32 + flN d.length) : Nat) : Int) := by rw [IntWalk.i64_in _ (by omega)]; omega
    have hq2 : IntKind.i64.wrap ((s : Int) + (32 + (flN d.length : Int))) = ((s + (32 + flN d.length) : Nat) : Int) := by rw [IntWalk.i64_in _ (by omega)]; omega
    go_wp2_with fail
    show K _ _
    have := H.out _ (Ext.refl _)
    rw [HFR.out] at this
    obtain ⟨u0, u4⟩ := HU.out
    rw [u0, u4] at this
    exact this
  · rintro L A W K hL hC hW ⟨V, rfl, HV, s0, s1⟩ hK
    have e5 : V 5 = .int .i64 (s + (32 + flN d.length) : Nat) := HV 5 _ rfl (hW 5 rfl)
    have hB := s0 hL
    have H := Lib.hid (show ∀ W', (SzA w g (s + (32 + flN d.length)) W') → K (fr (V)) W' from fun W' hA => hK _ _ ⟨V, rfl, HV.st 6 rfl, fun h0 => absurd h0 (by unfold More; rw [if_pos rfl]; simp), fun h0 => hA⟩)
    have HU := Lib.hid (show (V) 5 = .int .i64 (s + (32 + flN d.length) : Nat) from e5)
    clear hK hC hW hL HV s0 s1
    rw [HFR.out]
    rw [e5]
    clear e5
    have HB := Lib.hid hB
    have hc := Cs.cell hB.1 0 _ rfl
    have hf := Cs.frozen hB.1 0
    clear hB
    have HA := Lib.hid (SzB.put HB.out (s + (32 + flN d.length)))
    go_wp2_with fail
    show K _ _
    have := H.out _ HA.out
    rw [HFR.out] at this
    obtain u5 := HU.out
    rw [u5] at this
    exact this
  · rintro L A W hL ⟨V, rfl, HV, s0, s1⟩
    have e0 : V 0 = .int .i64 (s : Nat) := HV 0 _ rfl (hL 0 (by simp))
    have e1 : V 1 = .slice A0 d.length c := HV 1 _ rfl (hL 1 (by simp))
    have e2 : V 2 = .int .i64 (d.length : Nat) := HV 2 _ rfl (hL 2 (by simp))
    have e3 : V 3 = .int .i64 (flN d.length : Nat) := HV 3 _ rfl (hL 3 (by simp))
    have e4 : V 4 = .int .i64 (32 + flN d.length : Nat) := HV 4 _ rfl (hL 4 (by simp))
    have e5 : V 5 = .int .i64 (s + (32 + flN d.length) : Nat) := HV 5 _ rfl (hL 5 (by simp))
    have hA := s1 (hL 6 (by simp))
    rw [HFR.out]
    rw [e0, e1, e2, e3, e4, e5]
    clear hL HV HFR e0 e1 e2 e3 e4 e5 s0 s1
    have HA := Lib.hid hA
    clear hA
    go_wp2_with fail
    go_end0
    exact ⟨rfl, HA.out⟩
end Go.Proofs.Ytdlllihfibjabaa
