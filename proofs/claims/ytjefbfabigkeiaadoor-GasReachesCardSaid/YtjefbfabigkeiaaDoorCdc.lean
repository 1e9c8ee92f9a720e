/- Package code: the operation of a family's number; Of. -/
import Derived.Test.YtjefbfabigkeiaaDoorCdb
import Derived.Test.YtjefbfabigkeiaaDoorCdv
import Derived.Test.YtjefbfabigkeiaaDoorShc
namespace Go.Proofs.YtjefbfabigkeiaaDoor
open Go.ChangeShapes Go.WideShapes Go.ChangeAt Go.RowKit Go.Shelf

/-- The operation of the number m + 1 of a family. -/
def Fm.op (f : Fm) (m : Nat) : Opv := ⟨f.first + m, f.name ++ Lib.decDigits (m + 1), f.takes + f.deep * (m + 1), f.lays + f.deep * (m + 1), f.long * (m + 1)⟩
set_option maxRecDepth 100000 in
theorem itoaC_any (i : Nat) (hi : i < 100) (w : World) : Calls Tryd.prog 67 #[.int .i64 (i : Nat)] w fun e w' => e = .returned (st (Lib.decDigits i)) ∧ w' = w :=
  Any.strconv_Itoa_small layItoa i hi w
/-- A family's numbers are small. -/
def Fm.ok (f : Fm) : Prop := f.first ≤ 200 ∧ f.last ≤ 200 ∧ f.takes ≤ 9 ∧ f.lays ≤ 9 ∧ f.deep ≤ 1 ∧ f.long ≤ 1 ∧ f.name.length ≤ 9
set_option maxRecDepth 100000 in
theorem famL_ok : ∀ f ∈ famL, f.ok := by
  unfold Fm.ok
  decide +kernel
set_option maxRecDepth 100000 in
theorem decs_len : ∀ m, m < 32 → (Lib.decDigits (m + 1)).length ≤ 2 := by decide +kernel
def oz0 : Array Value := #[.int .u8 0, .string { data := #[] }, .int .i64 0, .int .i64 0, .int .i64 0]
/-- What lies there while a family's operation is made. -/
def FoS (w : World) (g2 g3 : Nat) (f : Fm) (W : World) : Prop := Cs W g2 80 (fmc f).toArray ∧ Cs W g3 64 oz0 ∧ Ext w W
set_option maxRecDepth 100000 in
theorem FoS.ext {w : World} {g2 g3 : Nat} {f : Fm} {W W' : World} (h : FoS w g2 g3 f W) (he : Ext W W') : FoS w g2 g3 f W' := ⟨Cs.ext h.1 he, Cs.ext h.2.1 he, h.2.2.trans he⟩
/-- It is made. -/
def FoM (w : World) (g3 : Nat) (p : Opv) (W : World) : Prop := Ob W g3 p ∧ Ext w W
set_option maxRecDepth 100000 in
theorem FoM.ext {w : World} {g3 : Nat} {p : Opv} {W W' : World} (h : FoM w g3 p W) (he : Ext W W') : FoM w g3 p W' := ⟨h.1.ext he, h.2.trans he⟩
set_option maxRecDepth 100000 in
set_option maxHeartbeats 4000000 in
theorem famOp_any (f : Fm) (m : Nat) (w : World) (hf : f.ok) (hm : m < 32) :
    Calls Tryd.prog 57 #[.agg (fmc f).toArray, .int .i64 ((m : Int) + 1)] w fun e w' => e = .returned (opv (f.op m)) ∧ Ext w w' := by
  obtain ⟨b1, b2, b3, b4, b5, b6, _⟩ := hf
  have c1 : (f.deep : Int) * ((m : Int) + 1) ≤ 32 ∧ 0 ≤ (f.deep : Int) * ((m : Int) + 1) := by
    rcases (show f.deep = 0 ∨ f.deep = 1 by omega) with h | h <;> rw [h] <;> omega
  have c2 : (f.long : Int) * ((m : Int) + 1) ≤ 32 ∧ 0 ≤ (f.long : Int) * ((m : Int) + 1) := by
    rcases (show f.long = 0 ∨ f.long = 1 by omega) with h | h <;> rw [h] <;> omega
  have HMI := Lib.hid (show m + 1 < 100 by omega)
  have HLEN : Hid (f.name.length + (Lib.decDigits (m + 1)).length ≤ 100) := Lib.hid (by have := decs_len m hm; omega)
  obtain ⟨w1, hw1⟩ : ∃ w1, (w.alloc (.cells (fmc f).toArray 80)).alloc (.cells oz0 64) = w1 := ⟨_, rfl⟩
  have HJ : Hid (FoS w w.heap.size (w.heap.size + 1) f w1) := Lib.hid (by
    rw [← hw1]
    exact ⟨Cs.alloc (Cs.new _ _ _ _ rfl) _, Cs.new _ _ _ _ (by rw [World.size_alloc]), ((Ext.refl w).alloc _).alloc _⟩)
  unfold oz0 at hw1
  have HW1 := Lib.hid hw1
  have HGG := Lib.hid (Nat.le_succ w.heap.size)
  clear hw1
  go_enter Tryd.func57, Tryd.ntmps57
  go_upto_region 1 with fail
  rw [HW1.out]
  clear HW1
  obtain ⟨g3, hg3⟩ : ∃ g, w.heap.size + 1 = g := ⟨_, rfl⟩
  rw [Nat.succ_eq_add_one, hg3] at HGG
  rw [hg3] at HJ ⊢
  obtain ⟨g2, hg2⟩ : ∃ g, w.heap.size = g := ⟨_, rfl⟩
  have HG2 := Lib.hid hg2
  rw [hg2] at HJ ⊢
  clear hg2 hg3
  refine wp_named fun a0 ha0 => ?_
  obtain ⟨fr, hfr⟩ : ∃ fr : (Nat → Value) → Act, ∀ V, fr V = ((((((((((((((((((((((((((((((a0.put (some 5) (V 0)).put (some 6) (V 1)).put (some 7) (V 2)).put (some 8) (V 3)).put (some 9) (V 4)).put (some 10) (V 5)).put (some 11) (V 6)).put (some 12) (V 7)).put (some 13) (V 8)).put (some 14) (V 9)).put (some 15) (V 10)).put (some 16) (V 11)).put (some 17) (V 12)).put (some 18) (V 13)).put (some 19) (V 14)).put (some 20) (V 15)).put (some 21) (V 16)).put (some 22) (V 17)).put (some 23) (V 18)).put (some 24) (V 19)).put (some 25) (V 20)).put (some 26) (V 21)).put (some 27) (V 22)).put (some 28) (V 23)).put (some 29) (V 24)).put (some 30) (V 25)).put (some 31) (V 26)).put (some 32) (V 27)).put (some 33) (V 28)).put (some 34) (V 29)) := ⟨fun V => ((((((((((((((((((((((((((((((a0.put (some 5) (V 0)).put (some 6) (V 1)).put (some 7) (V 2)).put (some 8) (V 3)).put (some 9) (V 4)).put (some 10) (V 5)).put (some 11) (V 6)).put (some 12) (V 7)).put (some 13) (V 8)).put (some 14) (V 9)).put (some 15) (V 10)).put (some 16) (V 11)).put (some 17) (V 12)).put (some 18) (V 13)).put (some 19) (V 14)).put (some 20) (V 15)).put (some 21) (V 16)).put (some 22) (V 17)).put (some 23) (V 18)).put (some 24) (V 19)).put (some 25) (V 20)).put (some 26) (V 21)).put (some 27) (V 22)).put (some 28) (V 23)).put (some 29) (V 24)).put (some 30) (V 25)).put (some 31) (V 26)).put (some 32) (V 27)).put (some 33) (V 28)).put (some 34) (V 29)), fun _ => rfl⟩
  rw [ha0] at hfr
  simp only [Act.put, List.setIfInBounds_toArray, List.set_cons_zero, List.set_cons_succ] at hfr
  have HFR := Lib.hid hfr
  clear hfr
  refine wp_region_inv (by kernel_rfl) (by kernel_rfl) (fun L A W => ∃ V : Nat → Value, A = fr V ∧ Vals (fun j => ([some (.pointer (some ⟨g2, 0, none⟩)), some (.int .u8 (f.first : Nat)), some (.int .i64 ((m : Int) + 1)), some (.int .i64 (m : Nat)), some (.int .u8 (m : Nat)), some (.int .u8 ((f.first : Int) + (m : Int))), some (.pointer (some ⟨g2, 2, none⟩)), some (.string ⟨f.name.toArray⟩), some (.int .i64 ((m : Int) + 1)), some (st (Lib.decDigits (m + 1))), some (.string ⟨(f.name ++ Lib.decDigits (m + 1)).toArray⟩), some (.pointer (some ⟨g2, 3, none⟩)), some (.int .i64 (f.takes : Nat)), some (.pointer (some ⟨g2, 5, none⟩)), some (.int .i64 (f.deep : Nat)), some (.int .i64 ((m : Int) + 1)), some (.int .i64 ((f.deep : Int) * ((m : Int) + 1))), some (.int .i64 ((f.takes : Int) + (f.deep : Int) * ((m : Int) + 1))), some (.pointer (some ⟨g2, 4, none⟩)), some (.int .i64 (f.lays : Nat)), some (.pointer (some ⟨g2, 5, none⟩)), some (.int .i64 (f.deep : Nat)), some (.int .i64 ((m : Int) + 1)), some (.int .i64 ((f.deep : Int) * ((m : Int) + 1))), some (.int .i64 ((f.lays : Int) + (f.deep : Int) * ((m : Int) + 1))), some (.pointer (some ⟨g2, 6, none⟩)), some (.int .i64 (f.long : Nat)), some (.int .i64 ((m : Int) + 1)), some (.int .i64 ((f.long : Int) * ((m : Int) + 1))), some (opv (f.op m)), none] : List (Option Value)).getD j none) L V ∧ (L 30 = false → FoS w g2 g3 f W) ∧ (L 30 = true → FoM w g3 (f.op m) W)) ?_ ⟨?_, ?_, ?_, ?_, ?_, ?_, ?_, ?_, ?_, ?_, ?_, ?_, ?_, ?_, ?_, ?_, ?_, ?_, ?_, ?_, ?_, ?_, ?_, ?_, ?_, ?_, ?_, ?_, ?_, ?_, ?_, trivial⟩ ?_
  · refine ⟨fun j => a0.tmps.getD (([5, 6, 7, 8, 9, 10, 11, 12, 13, 14, 15, 16, 17, 18, 19, 20, 21, 22, 23, 24, 25, 26, 27, 28, 29, 30, 31, 32, 33, 34, 0] : List Nat).getD j 0) undef, ?_, Vals.no _ _ _ (far_none _ _ rfl), fun _ => HJ.out.ext ((Ext.refl _).drew), fun h0 => absurd h0 (by decide)⟩
    rw [HFR.out, ha0]
    rfl
  all_goals clear ha0
  · rintro L A W K hL hC hW ⟨V, rfl, HV, s0, s1⟩ hK
    have H := Lib.hid (show ∀ W', Ext W W' → K (fr (upd V 0 (.pointer (some ⟨g2, 0, none⟩)))) W' from fun W' he => hK _ _ ⟨upd V 0 (.pointer (some ⟨g2, 0, none⟩)), rfl, HV.up 0 _ (fun x hx => Option.some.inj hx), fun h0 => FoS.ext (s0 (by unfold More at h0; rwa [if_neg (by decide)] at h0)) he, fun h0 => FoM.ext (s1 (more_ne h0 rfl)) he⟩)
    clear hK hC hW hL HV s0 s1
    rw [HFR.out]
    go_wp2_with fail
    show K _ _
    have := H.out _ (Ext.refl _)
    rw [HFR.out] at this
    exact this
  · rintro L A W K hL hC hW ⟨V, rfl, HV, s0, s1⟩ hK
    have e0 : V 0 = .pointer (some ⟨g2, 0, none⟩) := HV 0 _ rfl (hW 0 rfl)
    have hB := s0 (hC.no (hC.no (hC.no hL 5 _ rfl rfl) 29 _ rfl rfl) 30 _ rfl rfl)
    have H := Lib.hid (show ∀ W', Ext W W' → K (fr (upd V 1 (.int .u8 (f.first : Nat)))) W' from fun W' he => hK _ _ ⟨upd V 1 (.int .u8 (f.first : Nat)), rfl, HV.up 1 _ (fun x hx => Option.some.inj hx), fun h0 => FoS.ext (s0 (by unfold More at h0; rwa [if_neg (by decide)] at h0)) he, fun h0 => FoM.ext (s1 (more_ne h0 rfl)) he⟩)
    have HU := Lib.hid (show (upd V 1 (.int .u8 (f.first : Nat))) 0 = .pointer (some ⟨g2, 0, none⟩) from e0)
    clear hK hC hW hL HV s0 s1
    rw [HFR.out]
    rw [e0]
    clear e0
    have qq : W.cell? ⟨g2, 0, none⟩ = some (.int .u8 (f.first : Nat)) := hB.1.cell 0 _ rfl
    clear hB
    go_wp2_with fail
    show K _ _
    have := H.out _ (Ext.refl _)
    rw [HFR.out] at this
    obtain u0 := HU.out
    rw [u0] at this
    exact this
  · rintro L A W K hL hC hW ⟨V, rfl, HV, s0, s1⟩ hK
    have H := Lib.hid (show ∀ W', Ext W W' → K (fr (upd V 2 (.int .i64 ((m : Int) + 1)))) W' from fun W' he => hK _ _ ⟨upd V 2 (.int .i64 ((m : Int) + 1)), rfl, HV.up 2 _ (fun x hx => Option.some.inj hx), fun h0 => FoS.ext (s0 (by unfold More at h0; rwa [if_neg (by decide)] at h0)) he, fun h0 => FoM.ext (s1 (more_ne h0 rfl)) he⟩)
    clear hK hC hW hL HV s0 s1
    rw [HFR.out]
    go_wp2_with fail
    show K _ _
    have := H.out _ (Ext.refl _)
    rw [HFR.out] at this
    exact this
  · rintro L A W K hL hC hW ⟨V, rfl, HV, s0, s1⟩ hK
    have e2 : V 2 = .int .i64 ((m : Int) + 1) := HV 2 _ rfl (hW 2 rfl)
    have hB := s0 (hC.no (hC.no (hC.no (hC.no hL 4 _ rfl rfl) 5 _ rfl rfl) 29 _ rfl rfl) 30 _ rfl rfl)
    have H := Lib.hid (show ∀ W', Ext W W' → K (fr (upd V 3 (.int .i64 (m : Nat)))) W' from fun W' he => hK _ _ ⟨upd V 3 (.int .i64 (m : Nat)), rfl, HV.up 3 _ (fun x hx => Option.some.inj hx), fun h0 => FoS.ext (s0 (by unfold More at h0; rwa [if_neg (by decide)] at h0)) he, fun h0 => FoM.ext (s1 (more_ne h0 rfl)) he⟩)
    have HU := Lib.hid (show (upd V 3 (.int .i64 (m : Nat))) 2 = .int .i64 ((m : Int) + 1) from e2)
    clear hK hC hW hL HV s0 s1
    rw [HFR.out]
    rw [e2]
    clear e2
    clear hB
    go_wp2_with fail
    show K _ _
    have := H.out _ (Ext.refl _)
    rw [HFR.out] at this
    obtain u2 := HU.out
    rw [u2] at this
    exact this
  · rintro L A W K hL hC hW ⟨V, rfl, HV, s0, s1⟩ hK
    have e3 : V 3 = .int .i64 (m : Nat) := HV 3 _ rfl (hW 3 rfl)
    have H := Lib.hid (show ∀ W', Ext W W' → K (fr (upd V 4 (.int .u8 (m : Nat)))) W' from fun W' he => hK _ _ ⟨upd V 4 (.int .u8 (m : Nat)), rfl, HV.up 4 _ (fun x hx => Option.some.inj hx), fun h0 => FoS.ext (s0 (by unfold More at h0; rwa [if_neg (by decide)] at h0)) he, fun h0 => FoM.ext (s1 (more_ne h0 rfl)) he⟩)
    have HU := Lib.hid (show (upd V 4 (.int .u8 (m : Nat))) 3 = .int .i64 (m : Nat) from e3)
    clear hK hC hW hL HV s0 s1
    rw [HFR.out]
    rw [e3]
    clear e3
    go_wp2_with fail
    show K _ _
    have := H.out _ (Ext.refl _)
    rw [HFR.out] at this
    obtain u3 := HU.out
    rw [u3] at this
    exact this
  · rintro L A W K hL hC hW ⟨V, rfl, HV, s0, s1⟩ hK
    have e1 : V 1 = .int .u8 (f.first : Nat) := HV 1 _ rfl (hW 1 rfl)
    have e4 : V 4 = .int .u8 (m : Nat) := HV 4 _ rfl (hW 4 rfl)
    have H := Lib.hid (show ∀ W', Ext W W' → K (fr (upd V 5 (.int .u8 ((f.first : Int) + (m : Int))))) W' from fun W' he => hK _ _ ⟨upd V 5 (.int .u8 ((f.first : Int) + (m : Int))), rfl, HV.up 5 _ (fun x hx => Option.some.inj hx), fun h0 => FoS.ext (s0 (by unfold More at h0; rwa [if_neg (by decide)] at h0)) he, fun h0 => FoM.ext (s1 (more_ne h0 rfl)) he⟩)
    have HU := Lib.hid (show (upd V 5 (.int .u8 ((f.first : Int) + (m : Int)))) 1 = .int .u8 (f.first : Nat) ∧ (upd V 5 (.int .u8 ((f.first : Int) + (m : Int)))) 4 = .int .u8 (m : Nat) from ⟨e1, e4⟩)
    clear hK hC hW hL HV s0 s1
    rw [HFR.out]
    rw [e1, e4]
    clear e1 e4
    go_wp2_with fail
    show K _ _
    have := H.out _ (Ext.refl _)
    rw [HFR.out] at this
    obtain ⟨u1, u4⟩ := HU.out
    rw [u1, u4] at this
    exact this
  · rintro L A W K hL hC hW ⟨V, rfl, HV, s0, s1⟩ hK
    have H := Lib.hid (show ∀ W', Ext W W' → K (fr (upd V 6 (.pointer (some ⟨g2, 2, none⟩)))) W' from fun W' he => hK _ _ ⟨upd V 6 (.pointer (some ⟨g2, 2, none⟩)), rfl, HV.up 6 _ (fun x hx => Option.some.inj hx), fun h0 => FoS.ext (s0 (by unfold More at h0; rwa [if_neg (by decide)] at h0)) he, fun h0 => FoM.ext (s1 (more_ne h0 rfl)) he⟩)
    clear hK hC hW hL HV s0 s1
    rw [HFR.out]
    go_wp2_with fail
    show K _ _
    have := H.out _ (Ext.refl _)
    rw [HFR.out] at this
    exact this
  · rintro L A W K hL hC hW ⟨V, rfl, HV, s0, s1⟩ hK
    have e6 : V 6 = .pointer (some ⟨g2, 2, none⟩) := HV 6 _ rfl (hW 6 rfl)
    have hB := s0 (hC.no (hC.no (hC.no hL 10 _ rfl rfl) 29 _ rfl rfl) 30 _ rfl rfl)
    have H := Lib.hid (show ∀ W', Ext W W' → K (fr (upd V 7 (.string ⟨f.name.toArray⟩))) W' from fun W' he => hK _ _ ⟨upd V 7 (.string ⟨f.name.toArray⟩), rfl, HV.up 7 _ (fun x hx => Option.some.inj hx), fun h0 => FoS.ext (s0 (by unfold More at h0; rwa [if_neg (by decide)] at h0)) he, fun h0 => FoM.ext (s1 (more_ne h0 rfl)) he⟩)
    have HU := Lib.hid (show (upd V 7 (.string ⟨f.name.toArray⟩)) 6 = .pointer (some ⟨g2, 2, none⟩) from e6)
    clear hK hC hW hL HV s0 s1
    rw [HFR.out]
    rw [e6]
    clear e6
    have qq : W.cell? ⟨g2, 2, none⟩ = some (.string ⟨f.name.toArray⟩) := hB.1.cell 2 _ rfl
    clear hB
    go_wp2_with fail
    show K _ _
    have := H.out _ (Ext.refl _)
    rw [HFR.out] at this
    obtain u6 := HU.out
    rw [u6] at this
    exact this
  · rintro L A W K hL hC hW ⟨V, rfl, HV, s0, s1⟩ hK
    have H := Lib.hid (show ∀ W', Ext W W' → K (fr (upd V 8 (.int .i64 ((m : Int) + 1)))) W' from fun W' he => hK _ _ ⟨upd V 8 (.int .i64 ((m : Int) + 1)), rfl, HV.up 8 _ (fun x hx => Option.some.inj hx), fun h0 => FoS.ext (s0 (by unfold More at h0; rwa [if_neg (by decide)] at h0)) he, fun h0 => FoM.ext (s1 (more_ne h0 rfl)) he⟩)
    clear hK hC hW hL HV s0 s1
    rw [HFR.out]
    go_wp2_with fail
    show K _ _
    have := H.out _ (Ext.refl _)
    rw [HFR.out] at this
    exact this
  · rintro L A W K hL hC hW ⟨V, rfl, HV, s0, s1⟩ hK
    have e8 : V 8 = .int .i64 ((m : Int) + 1) := HV 8 _ rfl (hW 8 rfl)
    have hB := s0 (hC.no (hC.no (hC.no hL 10 _ rfl rfl) 29 _ rfl rfl) 30 _ rfl rfl)
    have H := Lib.hid (show ∀ W', Ext W W' → K (fr (upd V 9 (st (Lib.decDigits (m + 1))))) W' from fun W' he => hK _ _ ⟨upd V 9 (st (Lib.decDigits (m + 1))), rfl, HV.up 9 _ (fun x hx => Option.some.inj hx), fun h0 => FoS.ext (s0 (by unfold More at h0; rwa [if_neg (by decide)] at h0)) he, fun h0 => FoM.ext (s1 (more_ne h0 rfl)) he⟩)
    have HU := Lib.hid (show (upd V 9 (st (Lib.decDigits (m + 1)))) 8 = .int .i64 ((m : Int) + 1) from e8)
    clear hK hC hW hL HV s0 s1
    rw [HFR.out]
    rw [e8]
    clear e8
    clear hB
    go_wp2_with fail
    refine (itoaC_any (m + 1) HMI.out _).mono ?_
    rintro e wx ⟨rfl, rfl⟩
    have := H.out _ (Ext.refl _)
    clear H
    go_wp2_with fail
    show K _ _
    rw [HFR.out] at this
    obtain u8 := HU.out
    rw [u8] at this
    exact this
  · rintro L A W K hL hC hW ⟨V, rfl, HV, s0, s1⟩ hK
    have e7 : V 7 = .string ⟨f.name.toArray⟩ := HV 7 _ rfl (hW 7 rfl)
    have e9 : V 9 = st (Lib.decDigits (m + 1)) := HV 9 _ rfl (hW 9 rfl)
    have hB := s0 (hC.no (hC.no hL 29 _ rfl rfl) 30 _ rfl rfl)
    have H := Lib.hid (show ∀ W', Ext W W' → K (fr (upd V 10 (.string ⟨(f.name ++ Lib.decDigits (m + 1)).toArray⟩))) W' from fun W' he => hK _ _ ⟨upd V 10 (.string ⟨(f.name ++ Lib.decDigits (m + 1)).toArray⟩), rfl, HV.up 10 _ (fun x hx => Option.some.inj hx), fun h0 => FoS.ext (s0 (by unfold More at h0; rwa [if_neg (by decide)] at h0)) he, fun h0 => FoM.ext (s1 (more_ne h0 rfl)) he⟩)
    have HU := Lib.hid (show (upd V 10 (.string ⟨(f.name ++ Lib.decDigits (m + 1)).toArray⟩)) 7 = .string ⟨f.name.toArray⟩ ∧ (upd V 10 (.string ⟨(f.name ++ Lib.decDigits (m + 1)).toArray⟩)) 9 = st (Lib.decDigits (m + 1)) from ⟨e7, e9⟩)
    clear hK hC hW hL HV s0 s1
    rw [HFR.out]
    rw [e7, e9]
    clear e7 e9
    clear hB
    unfold st
    have hl := HLEN.out
    go_wp2_with fail
    show K _ _
    have := H.out _ (Ext.refl _)
    rw [HFR.out] at this
    obtain ⟨u7, u9⟩ := HU.out
    rw [u7, u9] at this
    exact this
  · rintro L A W K hL hC hW ⟨V, rfl, HV, s0, s1⟩ hK
    have H := Lib.hid (show ∀ W', Ext W W' → K (fr (upd V 11 (.pointer (some ⟨g2, 3, none⟩)))) W' from fun W' he => hK _ _ ⟨upd V 11 (.pointer (some ⟨g2, 3, none⟩)), rfl, HV.up 11 _ (fun x hx => Option.some.inj hx), fun h0 => FoS.ext (s0 (by unfold More at h0; rwa [if_neg (by decide)] at h0)) he, fun h0 => FoM.ext (s1 (more_ne h0 rfl)) he⟩)
    clear hK hC hW hL HV s0 s1
    rw [HFR.out]
    go_wp2_with fail
    show K _ _
    have := H.out _ (Ext.refl _)
    rw [HFR.out] at this
    exact this
  · rintro L A W K hL hC hW ⟨V, rfl, HV, s0, s1⟩ hK
    have e11 : V 11 = .pointer (some ⟨g2, 3, none⟩) := HV 11 _ rfl (hW 11 rfl)
    have hB := s0 (hC.no (hC.no (hC.no hL 17 _ rfl rfl) 29 _ rfl rfl) 30 _ rfl rfl)
    have H := Lib.hid (show ∀ W', Ext W W' → K (fr (upd V 12 (.int .i64 (f.takes : Nat)))) W' from fun W' he => hK _ _ ⟨upd V 12 (.int .i64 (f.takes : Nat)), rfl, HV.up 12 _ (fun x hx => Option.some.inj hx), fun h0 => FoS.ext (s0 (by unfold More at h0; rwa [if_neg (by decide)] at h0)) he, fun h0 => FoM.ext (s1 (more_ne h0 rfl)) he⟩)
    have HU := Lib.hid (show (upd V 12 (.int .i64 (f.takes : Nat))) 11 = .pointer (some ⟨g2, 3, none⟩) from e11)
    clear hK hC hW hL HV s0 s1
    rw [HFR.out]
    rw [e11]
    clear e11
    have qq : W.cell? ⟨g2, 3, none⟩ = some (.int .i64 (f.takes : Nat)) := hB.1.cell 3 _ rfl
    clear hB
    go_wp2_with fail
    show K _ _
    have := H.out _ (Ext.refl _)
    rw [HFR.out] at this
    obtain u11 := HU.out
    rw [u11] at this
    exact this
  · rintro L A W K hL hC hW ⟨V, rfl, HV, s0, s1⟩ hK
    have H := Lib.hid (show ∀ W', Ext W W' → K (fr (upd V 13 (.pointer (some ⟨g2, 5, none⟩)))) W' from fun W' he => hK _ _ ⟨upd V 13 (.pointer (some ⟨g2, 5, none⟩)), rfl, HV.up 13 _ (fun x hx => Option.some.inj hx), fun h0 => FoS.ext (s0 (by unfold More at h0; rwa [if_neg (by decide)] at h0)) he, fun h0 => FoM.ext (s1 (more_ne h0 rfl)) he⟩)
    clear hK hC hW hL HV s0 s1
    rw [HFR.out]
    go_wp2_with fail
    show K _ _
    have := H.out _ (Ext.refl _)
    rw [HFR.out] at this
    exact this
  · rintro L A W K hL hC hW ⟨V, rfl, HV, s0, s1⟩ hK
    have e13 : V 13 = .pointer (some ⟨g2, 5, none⟩) := HV 13 _ rfl (hW 13 rfl)
    have hB := s0 (hC.no (hC.no (hC.no (hC.no hL 16 _ rfl rfl) 17 _ rfl rfl) 29 _ rfl rfl) 30 _ rfl rfl)
    have H := Lib.hid (show ∀ W', Ext W W' → K (fr (upd V 14 (.int .i64 (f.deep : Nat)))) W' from fun W' he => hK _ _ ⟨upd V 14 (.int .i64 (f.deep : Nat)), rfl, HV.up 14 _ (fun x hx => Option.some.inj hx), fun h0 => FoS.ext (s0 (by unfold More at h0; rwa [if_neg (by decide)] at h0)) he, fun h0 => FoM.ext (s1 (more_ne h0 rfl)) he⟩)
    have HU := Lib.hid (show (upd V 14 (.int .i64 (f.deep : Nat))) 13 = .pointer (some ⟨g2, 5, none⟩) from e13)
    clear hK hC hW hL HV s0 s1
    rw [HFR.out]
    rw [e13]
    clear e13
    have qq : W.cell? ⟨g2, 5, none⟩ = some (.int .i64 (f.deep : Nat)) := hB.1.cell 5 _ rfl
    clear hB
    go_wp2_with fail
    show K _ _
    have := H.out _ (Ext.refl _)
    rw [HFR.out] at this
    obtain u13 := HU.out
    rw [u13] at this
    exact this
  · rintro L A W K hL hC hW ⟨V, rfl, HV, s0, s1⟩ hK
    have H := Lib.hid (show ∀ W', Ext W W' → K (fr (upd V 15 (.int .i64 ((m : Int) + 1)))) W' from fun W' he => hK _ _ ⟨upd V 15 (.int .i64 ((m : Int) + 1)), rfl, HV.up 15 _ (fun x hx => Option.some.inj hx), fun h0 => FoS.ext (s0 (by unfold More at h0; rwa [if_neg (by decide)] at h0)) he, fun h0 => FoM.ext (s1 (more_ne h0 rfl)) he⟩)
    clear hK hC hW hL HV s0 s1
    rw [HFR.out]
    go_wp2_with fail
    show K _ _
    have := H.out _ (Ext.refl _)
    rw [HFR.out] at this
    exact this
  · rintro L A W K hL hC hW ⟨V, rfl, HV, s0, s1⟩ hK
    have e14 : V 14 = .int .i64 (f.deep : Nat) := HV 14 _ rfl (hW 14 rfl)
    have e15 : V 15 = .int .i64 ((m : Int) + 1) := HV 15 _ rfl (hW 15 rfl)
    have H := Lib.hid (show ∀ W', Ext W W' → K (fr (upd V 16 (.int .i64 ((f.deep : Int) * ((m : Int) + 1))))) W' from fun W' he => hK _ _ ⟨upd V 16 (.int .i64 ((f.deep : Int) * ((m : Int) + 1))), rfl, HV.up 16 _ (fun x hx => Option.some.inj hx), fun h0 => FoS.ext (s0 (by unfold More at h0; rwa [if_neg (by decide)] at h0)) he, fun h0 => FoM.ext (s1 (more_ne h0 rfl)) he⟩)
    have HU := Lib.hid (show (upd V 16 (.int .i64 ((f.deep : Int) * ((m : Int) + 1)))) 14 = .int .i64 (f.deep : Nat) ∧ (upd V 16 (.int .i64 ((f.deep : Int) * ((m : Int) + 1)))) 15 = .int .i64 ((m : Int) + 1) from ⟨e14, e15⟩)
    clear hK hC hW hL HV s0 s1
    rw [HFR.out]
    rw [e14, e15]
    clear e14 e15
    go_wp2_with fail
    show K _ _
    have := H.out _ (Ext.refl _)
    rw [HFR.out] at this
    obtain ⟨u14, u15⟩ := HU.out
    rw [u14, u15] at this
    exact this
  · rintro L A W K hL hC hW ⟨V, rfl, HV, s0, s1⟩ hK
    have e12 : V 12 = .int .i64 (f.takes : Nat) := HV 12 _ rfl (hW 12 rfl)
    have e16 : V 16 = .int .i64 ((f.deep : Int) * ((m : Int) + 1)) := HV 16 _ rfl (hW 16 rfl)
    have H := Lib.hid (show ∀ W', Ext W W' → K (fr (upd V 17 (.int .i64 ((f.takes : Int) + (f.deep : Int) * ((m : Int) + 1))))) W' from fun W' he => hK _ _ ⟨upd V 17 (.int .i64 ((f.takes : Int) + (f.deep : Int) * ((m : Int) + 1))), rfl, HV.up 17 _ (fun x hx => Option.some.inj hx), fun h0 => FoS.ext (s0 (by unfold More at h0; rwa [if_neg (by decide)] at h0)) he, fun h0 => FoM.ext (s1 (more_ne h0 rfl)) he⟩)
    have HU := Lib.hid (show (upd V 17 (.int .i64 ((f.takes : Int) + (f.deep : Int) * ((m : Int) + 1)))) 12 = .int .i64 (f.takes : Nat) ∧ (upd V 17 (.int .i64 ((f.takes : Int) + (f.deep : Int) * ((m : Int) + 1)))) 16 = .int .i64 ((f.deep : Int) * ((m : Int) + 1)) from ⟨e12, e16⟩)
    clear hK hC hW hL HV s0 s1
    rw [HFR.out]
    rw [e12, e16]
    clear e12 e16
    go_wp2_with fail
    show K _ _
    have := H.out _ (Ext.refl _)
    rw [HFR.out] at this
    obtain ⟨u12, u16⟩ := HU.out
    rw [u12, u16] at this
    exact this
  · rintro L A W K hL hC hW ⟨V, rfl, HV, s0, s1⟩ hK
    have H := Lib.hid (show ∀ W', Ext W W' → K (fr (upd V 18 (.pointer (some ⟨g2, 4, none⟩)))) W' from fun W' he => hK _ _ ⟨upd V 18 (.pointer (some ⟨g2, 4, none⟩)), rfl, HV.up 18 _ (fun x hx => Option.some.inj hx), fun h0 => FoS.ext (s0 (by unfold More at h0; rwa [if_neg (by decide)] at h0)) he, fun h0 => FoM.ext (s1 (more_ne h0 rfl)) he⟩)
    clear hK hC hW hL HV s0 s1
    rw [HFR.out]
    go_wp2_with fail
    show K _ _
    have := H.out _ (Ext.refl _)
    rw [HFR.out] at this
    exact this
  · rintro L A W K hL hC hW ⟨V, rfl, HV, s0, s1⟩ hK
    have e18 : V 18 = .pointer (some ⟨g2, 4, none⟩) := HV 18 _ rfl (hW 18 rfl)
    have hB := s0 (hC.no (hC.no (hC.no hL 24 _ rfl rfl) 29 _ rfl rfl) 30 _ rfl rfl)
    have H := Lib.hid (show ∀ W', Ext W W' → K (fr (upd V 19 (.int .i64 (f.lays : Nat)))) W' from fun W' he => hK _ _ ⟨upd V 19 (.int .i64 (f.lays : Nat)), rfl, HV.up 19 _ (fun x hx => Option.some.inj hx), fun h0 => FoS.ext (s0 (by unfold More at h0; rwa [if_neg (by decide)] at h0)) he, fun h0 => FoM.ext (s1 (more_ne h0 rfl)) he⟩)
    have HU := Lib.hid (show (upd V 19 (.int .i64 (f.lays : Nat))) 18 = .pointer (some ⟨g2, 4, none⟩) from e18)
    clear hK hC hW hL HV s0 s1
    rw [HFR.out]
    rw [e18]
    clear e18
    have qq : W.cell? ⟨g2, 4, none⟩ = some (.int .i64 (f.lays : Nat)) := hB.1.cell 4 _ rfl
    clear hB
    go_wp2_with fail
    show K _ _
    have := H.out _ (Ext.refl _)
    rw [HFR.out] at this
    obtain u18 := HU.out
    rw [u18] at this
    exact this
  · rintro L A W K hL hC hW ⟨V, rfl, HV, s0, s1⟩ hK
    have H := Lib.hid (show ∀ W', Ext W W' → K (fr (upd V 20 (.pointer (some ⟨g2, 5, none⟩)))) W' from fun W' he => hK _ _ ⟨upd V 20 (.pointer (some ⟨g2, 5, none⟩)), rfl, HV.up 20 _ (fun x hx => Option.some.inj hx), fun h0 => FoS.ext (s0 (by unfold More at h0; rwa [if_neg (by decide)] at h0)) he, fun h0 => FoM.ext (s1 (more_ne h0 rfl)) he⟩)
    clear hK hC hW hL HV s0 s1
    rw [HFR.out]
    go_wp2_with fail
    show K _ _
    have := H.out _ (Ext.refl _)
    rw [HFR.out] at this
    exact this
  · rintro L A W K hL hC hW ⟨V, rfl, HV, s0, s1⟩ hK
    have e20 : V 20 = .pointer (some ⟨g2, 5, none⟩) := HV 20 _ rfl (hW 20 rfl)
    have hB := s0 (hC.no (hC.no (hC.no (hC.no hL 23 _ rfl rfl) 24 _ rfl rfl) 29 _ rfl rfl) 30 _ rfl rfl)
    have H := Lib.hid (show ∀ W', Ext W W' → K (fr (upd V 21 (.int .i64 (f.deep : Nat)))) W' from fun W' he => hK _ _ ⟨upd V 21 (.int .i64 (f.deep : Nat)), rfl, HV.up 21 _ (fun x hx => Option.some.inj hx), fun h0 => FoS.ext (s0 (by unfold More at h0; rwa [if_neg (by decide)] at h0)) he, fun h0 => FoM.ext (s1 (more_ne h0 rfl)) he⟩)
    have HU := Lib.hid (show (upd V 21 (.int .i64 (f.deep : Nat))) 20 = .pointer (some ⟨g2, 5, none⟩) from e20)
    clear hK hC hW hL HV s0 s1
    rw [HFR.out]
    rw [e20]
    clear e20
    have qq : W.cell? ⟨g2, 5, none⟩ = some (.int .i64 (f.deep : Nat)) := hB.1.cell 5 _ rfl
    clear hB
    go_wp2_with fail
    show K _ _
    have := H.out _ (Ext.refl _)
    rw [HFR.out] at this
    obtain u20 := HU.out
    rw [u20] at this
    exact this
  · rintro L A W K hL hC hW ⟨V, rfl, HV, s0, s1⟩ hK
    have H := Lib.hid (show ∀ W', Ext W W' → K (fr (upd V 22 (.int .i64 ((m : Int) + 1)))) W' from fun W' he => hK _ _ ⟨upd V 22 (.int .i64 ((m : Int) + 1)), rfl, HV.up 22 _ (fun x hx => Option.some.inj hx), fun h0 => FoS.ext (s0 (by unfold More at h0; rwa [if_neg (by decide)] at h0)) he, fun h0 => FoM.ext (s1 (more_ne h0 rfl)) he⟩)
    clear hK hC hW hL HV s0 s1
    rw [HFR.out]
    go_wp2_with fail
    show K _ _
    have := H.out _ (Ext.refl _)
    rw [HFR.out] at this
    exact this
  · rintro L A W K hL hC hW ⟨V, rfl, HV, s0, s1⟩ hK
    have e21 : V 21 = .int .i64 (f.deep : Nat) := HV 21 _ rfl (hW 21 rfl)
    have e22 : V 22 = .int .i64 ((m : Int) + 1) := HV 22 _ rfl (hW 22 rfl)
    have H := Lib.hid (show ∀ W', Ext W W' → K (fr (upd V 23 (.int .i64 ((f.deep : Int) * ((m : Int) + 1))))) W' from fun W' he => hK _ _ ⟨upd V 23 (.int .i64 ((f.deep : Int) * ((m : Int) + 1))), rfl, HV.up 23 _ (fun x hx => Option.some.inj hx), fun h0 => FoS.ext (s0 (by unfold More at h0; rwa [if_neg (by decide)] at h0)) he, fun h0 => FoM.ext (s1 (more_ne h0 rfl)) he⟩)
    have HU := Lib.hid (show (upd V 23 (.int .i64 ((f.deep : Int) * ((m : Int) + 1)))) 21 = .int .i64 (f.deep : Nat) ∧ (upd V 23 (.int .i64 ((f.deep : Int) * ((m : Int) + 1)))) 22 = .int .i64 ((m : Int) + 1) from ⟨e21, e22⟩)
    clear hK hC hW hL HV s0 s1
    rw [HFR.out]
    rw [e21, e22]
    clear e21 e22
    go_wp2_with fail
    show K _ _
    have := H.out _ (Ext.refl _)
    rw [HFR.out] at this
    obtain ⟨u21, u22⟩ := HU.out
    rw [u21, u22] at this
    exact this
  · rintro L A W K hL hC hW ⟨V, rfl, HV, s0, s1⟩ hK
    have e19 : V 19 = .int .i64 (f.lays : Nat) := HV 19 _ rfl (hW 19 rfl)
    have e23 : V 23 = .int .i64 ((f.deep : Int) * ((m : Int) + 1)) := HV 23 _ rfl (hW 23 rfl)
    have H := Lib.hid (show ∀ W', Ext W W' → K (fr (upd V 24 (.int .i64 ((f.lays : Int) + (f.deep : Int) * ((m : Int) + 1))))) W' from fun W' he => hK _ _ ⟨upd V 24 (.int .i64 ((f.lays : Int) + (f.deep : Int) * ((m : Int) + 1))), rfl, HV.up 24 _ (fun x hx => Option.some.inj hx), fun h0 => FoS.ext (s0 (by unfold More at h0; rwa [if_neg (by decide)] at h0)) he, fun h0 => FoM.ext (s1 (more_ne h0 rfl)) he⟩)
    have HU := Lib.hid (show (upd V 24 (.int .i64 ((f.lays : Int) + (f.deep : Int) * ((m : Int) + 1)))) 19 = .int .i64 (f.lays : Nat) ∧ (upd V 24 (.int .i64 ((f.lays : Int) + (f.deep : Int) * ((m : Int) + 1)))) 23 = .int .i64 ((f.deep : Int) * ((m : Int) + 1)) from ⟨e19, e23⟩)
    clear hK hC hW hL HV s0 s1
    rw [HFR.out]
    rw [e19, e23]
    clear e19 e23
    go_wp2_with fail
    show K _ _
    have := H.out _ (Ext.refl _)
    rw [HFR.out] at this
    obtain ⟨u19, u23⟩ := HU.out
    rw [u19, u23] at this
    exact this
  · rintro L A W K hL hC hW ⟨V, rfl, HV, s0, s1⟩ hK
    have H := Lib.hid (show ∀ W', Ext W W' → K (fr (upd V 25 (.pointer (some ⟨g2, 6, none⟩)))) W' from fun W' he => hK _ _ ⟨upd V 25 (.pointer (some ⟨g2, 6, none⟩)), rfl, HV.up 25 _ (fun x hx => Option.some.inj hx), fun h0 => FoS.ext (s0 (by unfold More at h0; rwa [if_neg (by decide)] at h0)) he, fun h0 => FoM.ext (s1 (more_ne h0 rfl)) he⟩)
    clear hK hC hW hL HV s0 s1
    rw [HFR.out]
    go_wp2_with fail
    show K _ _
    have := H.out _ (Ext.refl _)
    rw [HFR.out] at this
    exact this
  · rintro L A W K hL hC hW ⟨V, rfl, HV, s0, s1⟩ hK
    have e25 : V 25 = .pointer (some ⟨g2, 6, none⟩) := HV 25 _ rfl (hW 25 rfl)
    have hB := s0 (hC.no (hC.no (hC.no hL 28 _ rfl rfl) 29 _ rfl rfl) 30 _ rfl rfl)
    have H := Lib.hid (show ∀ W', Ext W W' → K (fr (upd V 26 (.int .i64 (f.long : Nat)))) W' from fun W' he => hK _ _ ⟨upd V 26 (.int .i64 (f.long : Nat)), rfl, HV.up 26 _ (fun x hx => Option.some.inj hx), fun h0 => FoS.ext (s0 (by unfold More at h0; rwa [if_neg (by decide)] at h0)) he, fun h0 => FoM.ext (s1 (more_ne h0 rfl)) he⟩)
    have HU := Lib.hid (show (upd V 26 (.int .i64 (f.long : Nat))) 25 = .pointer (some ⟨g2, 6, none⟩) from e25)
    clear hK hC hW hL HV s0 s1
    rw [HFR.out]
    rw [e25]
    clear e25
    have qq : W.cell? ⟨g2, 6, none⟩ = some (.int .i64 (f.long : Nat)) := hB.1.cell 6 _ rfl
    clear hB
    go_wp2_with fail
    show K _ _
    have := H.out _ (Ext.refl _)
    rw [HFR.out] at this
    obtain u25 := HU.out
    rw [u25] at this
    exact this
  · rintro L A W K hL hC hW ⟨V, rfl, HV, s0, s1⟩ hK
    have H := Lib.hid (show ∀ W', Ext W W' → K (fr (upd V 27 (.int .i64 ((m : Int) + 1)))) W' from fun W' he => hK _ _ ⟨upd V 27 (.int .i64 ((m : Int) + 1)), rfl, HV.up 27 _ (fun x hx => Option.some.inj hx), fun h0 => FoS.ext (s0 (by unfold More at h0; rwa [if_neg (by decide)] at h0)) he, fun h0 => FoM.ext (s1 (more_ne h0 rfl)) he⟩)
    clear hK hC hW hL HV s0 s1
    rw [HFR.out]
    go_wp2_with fail
    show K _ _
    have := H.out _ (Ext.refl _)
    rw [HFR.out] at this
    exact this
  · rintro L A W K hL hC hW ⟨V, rfl, HV, s0, s1⟩ hK
    have e26 : V 26 = .int .i64 (f.long : Nat) := HV 26 _ rfl (hW 26 rfl)
    have e27 : V 27 = .int .i64 ((m : Int) + 1) := HV 27 _ rfl (hW 27 rfl)
    have H := Lib.hid (show ∀ W', Ext W W' → K (fr (upd V 28 (.int .i64 ((f.long : Int) * ((m : Int) + 1))))) W' from fun W' he => hK _ _ ⟨upd V 28 (.int .i64 ((f.long : Int) * ((m : Int) + 1))), rfl, HV.up 28 _ (fun x hx => Option.some.inj hx), fun h0 => FoS.ext (s0 (by unfold More at h0; rwa [if_neg (by decide)] at h0)) he, fun h0 => FoM.ext (s1 (more_ne h0 rfl)) he⟩)
    have HU := Lib.hid (show (upd V 28 (.int .i64 ((f.long : Int) * ((m : Int) + 1)))) 26 = .int .i64 (f.long : Nat) ∧ (upd V 28 (.int .i64 ((f.long : Int) * ((m : Int) + 1)))) 27 = .int .i64 ((m : Int) + 1) from ⟨e26, e27⟩)
    clear hK hC hW hL HV s0 s1
    rw [HFR.out]
    rw [e26, e27]
    clear e26 e27
    go_wp2_with fail
    show K _ _
    have := H.out _ (Ext.refl _)
    rw [HFR.out] at this
    obtain ⟨u26, u27⟩ := HU.out
    rw [u26, u27] at this
    exact this
  · rintro L A W K hL hC hW ⟨V, rfl, HV, s0, s1⟩ hK
    have e5 : V 5 = .int .u8 ((f.first : Int) + (m : Int)) := HV 5 _ rfl (hW 5 rfl)
    have e10 : V 10 = .string ⟨(f.name ++ Lib.decDigits (m + 1)).toArray⟩ := HV 10 _ rfl (hW 10 rfl)
    have e17 : V 17 = .int .i64 ((f.takes : Int) + (f.deep : Int) * ((m : Int) + 1)) := HV 17 _ rfl (hW 17 rfl)
    have e24 : V 24 = .int .i64 ((f.lays : Int) + (f.deep : Int) * ((m : Int) + 1)) := HV 24 _ rfl (hW 24 rfl)
    have e28 : V 28 = .int .i64 ((f.long : Int) * ((m : Int) + 1)) := HV 28 _ rfl (hW 28 rfl)
    have H := Lib.hid (show ∀ W', Ext W W' → K (fr (upd V 29 (opv (f.op m)))) W' from fun W' he => hK _ _ ⟨upd V 29 (opv (f.op m)), rfl, HV.up 29 _ (fun x hx => Option.some.inj hx), fun h0 => FoS.ext (s0 (by unfold More at h0; rwa [if_neg (by decide)] at h0)) he, fun h0 => FoM.ext (s1 (more_ne h0 rfl)) he⟩)
    have HU := Lib.hid (show (upd V 29 (opv (f.op m))) 5 = .int .u8 ((f.first : Int) + (m : Int)) ∧ (upd V 29 (opv (f.op m))) 10 = .string ⟨(f.name ++ Lib.decDigits (m + 1)).toArray⟩ ∧ (upd V 29 (opv (f.op m))) 17 = .int .i64 ((f.takes : Int) + (f.deep : Int) * ((m : Int) + 1)) ∧ (upd V 29 (opv (f.op m))) 24 = .int .i64 ((f.lays : Int) + (f.deep : Int) * ((m : Int) + 1)) ∧ (upd V 29 (opv (f.op m))) 28 = .int .i64 ((f.long : Int) * ((m : Int) + 1)) from ⟨e5, e10, e17, e24, e28⟩)
    clear hK hC hW hL HV s0 s1
    rw [HFR.out]
    rw [e5, e10, e17, e24, e28]
    clear e5 e10 e17 e24 e28
    go_wp2_with fail
    show K _ _
    have := H.out _ (Ext.refl _)
    rw [HFR.out] at this
    obtain ⟨u5, u10, u17, u24, u28⟩ := HU.out
    rw [u5, u10, u17, u24, u28] at this
    exact this
  · rintro L A W K hL hC hW ⟨V, rfl, HV, s0, s1⟩ hK
    have e29 : V 29 = opv (f.op m) := HV 29 _ rfl (hW 29 rfl)
    have hB := s0 hL
    have H := Lib.hid (show ∀ W', (FoM w g3 (f.op m) W') → K (fr (V)) W' from fun W' hA => hK _ _ ⟨V, rfl, HV.st 30 rfl, fun h0 => absurd h0 (by unfold More; rw [if_pos rfl]; simp), fun h0 => hA⟩)
    have HU := Lib.hid (show (V) 29 = opv (f.op m) from e29)
    clear hK hC hW hL HV s0 s1
    rw [HFR.out]
    rw [e29]
    clear e29
    have HB := Lib.hid hB
    clear hB
    refine wpList_storeOp rfl rfl (.tmp 4) (.tmp 34) rfl g3 oz0 (f.op m) rfl rfl HB.out.2.1 rfl ?_
    intro w' kk gg
    have HA := Lib.hid (show FoM w g3 (f.op m) w' from ⟨kk, HB.out.2.2.grown gg HGG.out⟩)
    clear kk gg
    show K _ _
    have := H.out _ HA.out
    rw [HFR.out] at this
    obtain u29 := HU.out
    rw [u29] at this
    exact this
  · rintro L A W hL ⟨V, rfl, HV, s0, s1⟩
    have e0 : V 0 = .pointer (some ⟨g2, 0, none⟩) := HV 0 _ rfl (hL 0 (by simp))
    have e1 : V 1 = .int .u8 (f.first : Nat) := HV 1 _ rfl (hL 1 (by simp))
    have e2 : V 2 = .int .i64 ((m : Int) + 1) := HV 2 _ rfl (hL 2 (by simp))
    have e3 : V 3 = .int .i64 (m : Nat) := HV 3 _ rfl (hL 3 (by simp))
    have e4 : V 4 = .int .u8 (m : Nat) := HV 4 _ rfl (hL 4 (by simp))
    have e5 : V 5 = .int .u8 ((f.first : Int) + (m : Int)) := HV 5 _ rfl (hL 5 (by simp))
    have e6 : V 6 = .pointer (some ⟨g2, 2, none⟩) := HV 6 _ rfl (hL 6 (by simp))
    have e7 : V 7 = .string ⟨f.name.toArray⟩ := HV 7 _ rfl (hL 7 (by simp))
    have e8 : V 8 = .int .i64 ((m : Int) + 1) := HV 8 _ rfl (hL 8 (by simp))
    have e9 : V 9 = st (Lib.decDigits (m + 1)) := HV 9 _ rfl (hL 9 (by simp))
    have e10 : V 10 = .string ⟨(f.name ++ Lib.decDigits (m + 1)).toArray⟩ := HV 10 _ rfl (hL 10 (by simp))
    have e11 : V 11 = .pointer (some ⟨g2, 3, none⟩) := HV 11 _ rfl (hL 11 (by simp))
    have e12 : V 12 = .int .i64 (f.takes : Nat) := HV 12 _ rfl (hL 12 (by simp))
    have e13 : V 13 = .pointer (some ⟨g2, 5, none⟩) := HV 13 _ rfl (hL 13 (by simp))
    have e14 : V 14 = .int .i64 (f.deep : Nat) := HV 14 _ rfl (hL 14 (by simp))
    have e15 : V 15 = .int .i64 ((m : Int) + 1) := HV 15 _ rfl (hL 15 (by simp))
    have e16 : V 16 = .int .i64 ((f.deep : Int) * ((m : Int) + 1)) := HV 16 _ rfl (hL 16 (by simp))
    have e17 : V 17 = .int .i64 ((f.takes : Int) + (f.deep : Int) * ((m : Int) + 1)) := HV 17 _ rfl (hL 17 (by simp))
    have e18 : V 18 = .pointer (some ⟨g2, 4, none⟩) := HV 18 _ rfl (hL 18 (by simp))
    have e19 : V 19 = .int .i64 (f.lays : Nat) := HV 19 _ rfl (hL 19 (by simp))
    have e20 : V 20 = .pointer (some ⟨g2, 5, none⟩) := HV 20 _ rfl (hL 20 (by simp))
    have e21 : V 21 = .int .i64 (f.deep : Nat) := HV 21 _ rfl (hL 21 (by simp))
    have e22 : V 22 = .int .i64 ((m : Int) + 1) := HV 22 _ rfl (hL 22 (by simp))
    have e23 : V 23 = .int .i64 ((f.deep : Int) * ((m : Int) + 1)) := HV 23 _ rfl (hL 23 (by simp))
    have e24 : V 24 = .int .i64 ((f.lays : Int) + (f.deep : Int) * ((m : Int) + 1)) := HV 24 _ rfl (hL 24 (by simp))
    have e25 : V 25 = .pointer (some ⟨g2, 6, none⟩) := HV 25 _ rfl (hL 25 (by simp))
    have e26 : V 26 = .int .i64 (f.long : Nat) := HV 26 _ rfl (hL 26 (by simp))
    have e27 : V 27 = .int .i64 ((m : Int) + 1) := HV 27 _ rfl (hL 27 (by simp))
    have e28 : V 28 = .int .i64 ((f.long : Int) * ((m : Int) + 1)) := HV 28 _ rfl (hL 28 (by simp))
    have e29 : V 29 = opv (f.op m) := HV 29 _ rfl (hL 29 (by simp))
    have hA := s1 (hL 30 (by simp))
    rw [HFR.out]
    rw [e0, e1, e2, e3, e4, e5, e6, e7, e8, e9, e10, e11, e12, e13, e14, e15, e16, e17, e18, e19, e20, e21, e22, e23, e24, e25, e26, e27, e28, e29]
    clear hL HV HFR e0 e1 e2 e3 e4 e5 e6 e7 e8 e9 e10 e11 e12 e13 e14 e15 e16 e17 e18 e19 e20 e21 e22 e23 e24 e25 e26 e27 e28 e29 s0 s1
    go_wp2_with fail
    refine bodyPost_ret (results_op rfl _ _ _ _ rfl hA.1) rfl ?_
    exact ⟨rfl, hA.2⟩
end Go.Proofs.YtjefbfabigkeiaaDoor
