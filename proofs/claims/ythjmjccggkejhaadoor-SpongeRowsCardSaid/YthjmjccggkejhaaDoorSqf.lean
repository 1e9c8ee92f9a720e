/- SpongeRows: the walk, the row and its card. -/
import Derived.Test.YthjmjccggkejhaaDoorSqe
namespace Go.Proofs.YthjmjccggkejhaaDoor
open Go.ChangeShapes Go.WideShapes Go.ChangeAt Go.RowKit Go.Shelf

set_option maxRecDepth 100000 in
theorem row_slice (g y : Nat) (hy : y < 5) (W : World) : (Instr.sliceAt 35 (.pointer (some ⟨g, 0, none⟩)) (some (.int .i64 (5 * (y : Int)))) (some (.int .i64 (5 * (y : Int) + 5))) none).run Tryd.prog W = .ok (.slice (some ⟨g, 5 * y, none⟩) 5 (25 - 5 * y)) W := by
  match y, hy with
  | 0, _ => rfl
  | 1, _ => rfl
  | 2, _ => rfl
  | 3, _ => rfl
  | 4, _ => rfl

set_option maxRecDepth 100000 in
set_option maxHeartbeats 8000000 in
theorem rowsl_any (f g : Nat → Nat) (yi : Int) (w : World) (hf : Lok f) (hg : Lok g) (ht : Tb w) : Calls Tryd.prog 8 #[lnv f, lnv g, .int .i64 yi] w (RetT w) := by
  have HT : Hid (Tb ((w.alloc (.cells (lc f) 35)).alloc (.cells (lc g) 35))) := ht.ext (((Ext.refl w).alloc _).alloc _)
  have HS : KsL w [(w.heap.size, f), (w.heap.size + 1, g)] ((w.alloc (.cells (lc f) 35)).alloc (.cells (lc g) 35)) :=
    ⟨fun x hx => by
      simp only [List.mem_cons, List.not_mem_nil, or_false] at hx
      rcases hx with rfl | rfl
      · exact (Cs.new _ _ _ _ rfl).alloc _
      · exact Cs.new _ _ _ _ (by simp), ((Ext.refl w).alloc _).alloc _⟩
  unfold lnv
  go_enter Tryd.func8, Tryd.ntmps8
  go_wp2_with fail
  refine (wakes_any _ HT.out).mono ?_
  rintro e w1 ⟨rfl, he1⟩
  have HS := HS.ext he1
  clear he1 HT
  go_upto_region 5 with (first
    | ((with_reducible refine wpList_load_lanes ?_ (.tmp 3) ?_ w.heap.size f ?_ ?_ ?_); (exact rfl); (exact rfl); (exact rfl); (exact HS.at _ f (by simp)))
    | ((with_reducible refine wpList_store_lanes ?_ ?_ (.tmp 7) (.tmp 19) ?_ w1.heap.size (lc fun _ => 0) f ?_ ?_ ?_ ?_ ?_); (exact rfl); (exact rfl); (exact rfl); (exact rfl); (exact rfl); (exact Cs.new _ _ _ _ rfl); (exact lc_size _); intro w2 k2 g2; have K2 := Lib.hid k2; have HS2 : Hid (KsL w [(w.heap.size, f), (w.heap.size + 1, g)] w2) := (HS.al _).far g2 HS.2.size HS.fresh; clear k2 g2))
  obtain ⟨y, hy5, hyv⟩ : ∃ y : Nat, y < 5 ∧ wrap64 ((IntKind.u64.wrap yi).tmod 5) = (y : Int) := by
    refine ⟨((yi % 18446744073709551616) % 5).toNat, by omega, ?_⟩
    rw [IntKind.wrap_u64, Int.tmod_eq_emod_of_nonneg (by omega)]
    unfold wrap64
    omega
  rw [hyv]
  clear hyv
  have hsl1 := row_slice w1.heap.size y hy5 w2.drew
  have hsl2 := row_slice (w.heap.size + 1) y hy5 w2.drew
  have hrun := run_copy_row (P := Tryd.prog) w2.drew 59 59 3 33 w1.heap.size (5 * y) 5 (25 - 5 * y) ⟨w.heap.size + 1, 5 * y, none⟩ 5 (25 - 5 * y) (lc f) 35 (((lc g).toList.drop (5 * y)).take 5) Tryd.underlying59 (by kernel_rfl) K2.out (by simp [lc, nc]; omega) (fun j v hj => by
    have hj5 : j < 5 := by
      have := (List.getElem?_eq_some_iff.1 hj).1
      rw [List.length_take] at this
      omega
    rw [List.getElem?_take_of_lt hj5, List.getElem?_drop, Array.getElem?_toList] at hj
    have hadd : (⟨w.heap.size + 1, 5 * y, none⟩ : Addr).add j = ⟨w.heap.size + 1, 5 * y + j, none⟩ := by unfold Addr.add; split <;> simp_all
    rw [hadd]
    exact Cs.cell (HS2.out.at (w.heap.size + 1) g (by simp)) (5 * y + j) v hj) (by simp [lc, nc]; omega) (fun v hv => by
    have := List.mem_of_mem_drop (List.mem_of_mem_take hv)
    exact Array.all_eq_true_iff_forall_mem.1 (lc_one g) v (by simpa using this))
  have hcl : (((lc g).toList.drop (5 * y)).take 5).length = 5 := by simp [lc, nc]; omega
  rw [hcl, List.append_assoc, rowM_cells f g y hy5] at hrun
  have hz5 : (0 : Int) ≤ 5 * (y : Int) := by omega
  have hz6 : 5 * (y : Int) + 5 ≤ 25 := by omega
  have hz7 : 5 * (y : Int) ≤ 25 := by omega
  go_region
  have HS : KsL w [(w.heap.size, f), (w.heap.size + 1, g), (w1.heap.size, rowM f g y)] (w2.drew.setRow w1.heap.size (lc (rowM f g y))) :=
    ⟨fun x hx => by
      have hg : w2.drew.grownBy (w2.drew.setRow w1.heap.size (lc (rowM f g y))) (some w1.heap.size) := ⟨rfl, rfl, rfl, by simp [World.setRow], fun k _ hk => setRow_other w2.drew w1.heap.size k _ (fun e => hk (by simp [e]))⟩
      simp only [List.mem_cons, List.not_mem_nil, or_false] at hx
      rcases hx with rfl | rfl | rfl
      · exact Ln.kept (HS2.out.drew.at w.heap.size f (by simp)) hg (some_ne (by have := HS.at w.heap.size f (by simp); have := this.lt; omega))
      · exact Ln.kept (HS2.out.drew.at (w.heap.size + 1) g (by simp)) hg (some_ne (by have := HS.at (w.heap.size + 1) g (by simp); have := this.lt; omega))
      · exact setRow_heap w2.drew w1.heap.size _ _ 35 (0, 0) K2.out, HS2.out.drew.2.grown ⟨rfl, rfl, rfl, by simp [World.setRow], fun k _ hk => setRow_other w2.drew w1.heap.size k _ (fun e => hk (by simp [e]))⟩ HS.2.size⟩
  generalize w2.drew.setRow w1.heap.size (lc (rowM f g y)) = w3 at *
  have HR1 := Lib.hid (fun W => rows_any f W hf)
  have HR2 := Lib.hid (fun W => rows_any g W hg)
  have HR3 := Lib.hid (fun W => rows_any (rowM f g y) W (rowM_lt f g y hf hg))
  have HQ := Lib.hid (fun i hi => rowM_row f g y i hi)
  clear hsl1 hsl2 hrun hcl hz5 hz6 hz7 HS2 K2 hf hg ht
  generalize w1.heap.size = g7 at *
  generalize rowF (rowM f g y) = rm at *
  generalize rowF f = rf at *
  generalize rowF g = rg at *
  go_upto_region 6 with fail
  refine wp_named fun a0 ha0 => ?_
  obtain ⟨fr, hfr⟩ : ∃ fr : (Nat → Value) → Act, ∀ V, fr V = (((((((((a0.put (some 33) (V 0)).put (some 34) (V 1)).put (some 35) (V 2)).put (some 36) (V 3)).put (some 37) (V 4)).put (some 38) (V 5)).put (some 8) (V 6)).put (some 9) (V 7)).put (some 10) (V 8)) := ⟨fun V => (((((((((a0.put (some 33) (V 0)).put (some 34) (V 1)).put (some 35) (V 2)).put (some 36) (V 3)).put (some 37) (V 4)).put (some 38) (V 5)).put (some 8) (V 6)).put (some 9) (V 7)).put (some 10) (V 8)), fun _ => rfl⟩
  rw [ha0] at hfr
  simp only [Act.put, List.setIfInBounds_toArray, List.set_cons_zero, List.set_cons_succ] at hfr
  have HFR := Lib.hid hfr
  clear hfr
  refine wp_region_inv (by kernel_rfl) (by kernel_rfl) (fun L A W => ∃ V : Nat → Value, A = fr V ∧ KsL w [(w.heap.size, f), (w.heap.size + 1, g), (g7, rowM f g y)] W ∧ Vals (fun j => ([some (lnv (f)), some (lnv (rf)), some (lnv (g)), some (lnv (rg)), some (lnv (rowM f g y)), some (lnv (rm)), none, none, none, none, none, none] : List (Option Value)).getD j none) L V ∧ (L 6 = true → NbL w [(w.heap.size, f), (w.heap.size + 1, g), (g7, rowM f g y)] W (V 6) (L 9) (rf)) ∧ (L 7 = true → NbL w [(w.heap.size, f), (w.heap.size + 1, g), (g7, rowM f g y)] W (V 7) (L 10) (rg)) ∧ (L 8 = true → NbL w [(w.heap.size, f), (w.heap.size + 1, g), (g7, rowM f g y)] W (V 8) (L 11) (rm)) ∧ (L 6 = true → L 7 = true → V 6 ≠ V 7) ∧ (L 6 = true → L 8 = true → V 6 ≠ V 8) ∧ (L 7 = true → L 8 = true → V 7 ≠ V 8)) ?_ ⟨?_, ?_, ?_, ?_, ?_, ?_, ?_, ?_, ?_, ?_, ?_, ?_, trivial⟩ ?_
  · refine ⟨fun j => a0.tmps.getD (([33, 34, 35, 36, 37, 38, 8, 9, 10, 0, 0, 0] : List Nat).getD j 0) undef, ?_, HS.drew, Vals.no _ _ _ (far_none _ _ rfl), fun h => absurd h (by decide), fun h => absurd h (by decide), fun h => absurd h (by decide), fun h => absurd h (by decide), fun h => absurd h (by decide), fun h => absurd h (by decide)⟩
    rw [HFR.out, ha0]
    rfl
  all_goals clear ha0
  · rintro L A W K hL hC hW ⟨V, rfl, HS, HV, f6, f7, f8, d6_7, d6_8, d7_8⟩ hK
    have H := Lib.hid (show ∀ W', Ext W W' → K (fr (upd V 0 (lnv (f)))) W' from fun W' he => hK _ _ ⟨upd V 0 (lnv (f)), rfl, HS.ext he, HV.up 0 _ (fun x hx => Option.some.inj hx), fun h => NbL.weak (NbL.ext (f6 (more_ne h rfl)) he) (fun h => more_ne h rfl), fun h => NbL.weak (NbL.ext (f7 (more_ne h rfl)) he) (fun h => more_ne h rfl), fun h => NbL.weak (NbL.ext (f8 (more_ne h rfl)) he) (fun h => more_ne h rfl), fun h h' => d6_7 (more_ne h rfl) (more_ne h' rfl), fun h h' => d6_8 (more_ne h rfl) (more_ne h' rfl), fun h h' => d7_8 (more_ne h rfl) (more_ne h' rfl)⟩)
    clear hK hC hW hL HV f6 f7 f8 d6_7 d6_8 d7_8
    rw [HFR.out]
    refine wpList_load_lanes rfl (.tmp 3) rfl (w.heap.size) (f) rfl (HS.at (w.heap.size) (f) (by simp)) ?_
    show K _ _
    have := H.out _ (Ext.refl _)
    rw [HFR.out] at this
    exact this
  · rintro L A W K hL hC hW ⟨V, rfl, HS, HV, f6, f7, f8, d6_7, d6_8, d7_8⟩ hK
    have e0 : V 0 = lnv (f) := HV 0 _ rfl (hW 0 rfl)
    have u0 : (upd V 1 (lnv (rf))) 0 = lnv (f) := e0
    have HU := Lib.hid (show (upd V 1 (lnv (rf))) 0 = lnv (f) from u0)
    clear u0
    have H := Lib.hid (show ∀ W', Ext W W' → K (fr (upd V 1 (lnv (rf)))) W' from fun W' he => hK _ _ ⟨upd V 1 (lnv (rf)), rfl, HS.ext he, HV.up 1 _ (fun x hx => Option.some.inj hx), fun h => NbL.weak (NbL.ext (f6 (more_ne h rfl)) he) (fun h => more_ne h rfl), fun h => NbL.weak (NbL.ext (f7 (more_ne h rfl)) he) (fun h => more_ne h rfl), fun h => NbL.weak (NbL.ext (f8 (more_ne h rfl)) he) (fun h => more_ne h rfl), fun h h' => d6_7 (more_ne h rfl) (more_ne h' rfl), fun h h' => d6_8 (more_ne h rfl) (more_ne h' rfl), fun h h' => d7_8 (more_ne h rfl) (more_ne h' rfl)⟩)
    clear hK hC hW hL HV f6 f7 f8 d6_7 d6_8 d7_8
    rw [HFR.out]
    rw [e0]
    clear e0
    go_wp2_with fail
    refine (HR1.out _).mono ?_
    rintro e wx ⟨rfl, he⟩
    have := H.out _ he
    clear H
    go_wp2_with fail
    show K _ _
    rw [HFR.out] at this
    obtain u0 := HU.out
    rw [u0] at this
    exact this
  · rintro L A W K hL hC hW ⟨V, rfl, HS, HV, f6, f7, f8, d6_7, d6_8, d7_8⟩ hK
    have H := Lib.hid (show ∀ W', Ext W W' → K (fr (upd V 2 (lnv (g)))) W' from fun W' he => hK _ _ ⟨upd V 2 (lnv (g)), rfl, HS.ext he, HV.up 2 _ (fun x hx => Option.some.inj hx), fun h => NbL.weak (NbL.ext (f6 (more_ne h rfl)) he) (fun h => more_ne h rfl), fun h => NbL.weak (NbL.ext (f7 (more_ne h rfl)) he) (fun h => more_ne h rfl), fun h => NbL.weak (NbL.ext (f8 (more_ne h rfl)) he) (fun h => more_ne h rfl), fun h h' => d6_7 (more_ne h rfl) (more_ne h' rfl), fun h h' => d6_8 (more_ne h rfl) (more_ne h' rfl), fun h h' => d7_8 (more_ne h rfl) (more_ne h' rfl)⟩)
    clear hK hC hW hL HV f6 f7 f8 d6_7 d6_8 d7_8
    rw [HFR.out]
    refine wpList_load_lanes rfl (.tmp 4) rfl (w.heap.size + 1) (g) rfl (HS.at (w.heap.size + 1) (g) (by simp)) ?_
    show K _ _
    have := H.out _ (Ext.refl _)
    rw [HFR.out] at this
    exact this
  · rintro L A W K hL hC hW ⟨V, rfl, HS, HV, f6, f7, f8, d6_7, d6_8, d7_8⟩ hK
    have e2 : V 2 = lnv (g) := HV 2 _ rfl (hW 2 rfl)
    have u2 : (upd V 3 (lnv (rg))) 2 = lnv (g) := e2
    have HU := Lib.hid (show (upd V 3 (lnv (rg))) 2 = lnv (g) from u2)
    clear u2
    have H := Lib.hid (show ∀ W', Ext W W' → K (fr (upd V 3 (lnv (rg)))) W' from fun W' he => hK _ _ ⟨upd V 3 (lnv (rg)), rfl, HS.ext he, HV.up 3 _ (fun x hx => Option.some.inj hx), fun h => NbL.weak (NbL.ext (f6 (more_ne h rfl)) he) (fun h => more_ne h rfl), fun h => NbL.weak (NbL.ext (f7 (more_ne h rfl)) he) (fun h => more_ne h rfl), fun h => NbL.weak (NbL.ext (f8 (more_ne h rfl)) he) (fun h => more_ne h rfl), fun h h' => d6_7 (more_ne h rfl) (more_ne h' rfl), fun h h' => d6_8 (more_ne h rfl) (more_ne h' rfl), fun h h' => d7_8 (more_ne h rfl) (more_ne h' rfl)⟩)
    clear hK hC hW hL HV f6 f7 f8 d6_7 d6_8 d7_8
    rw [HFR.out]
    rw [e2]
    clear e2
    go_wp2_with fail
    refine (HR2.out _).mono ?_
    rintro e wx ⟨rfl, he⟩
    have := H.out _ he
    clear H
    go_wp2_with fail
    show K _ _
    rw [HFR.out] at this
    obtain u2 := HU.out
    rw [u2] at this
    exact this
  · rintro L A W K hL hC hW ⟨V, rfl, HS, HV, f6, f7, f8, d6_7, d6_8, d7_8⟩ hK
    have H := Lib.hid (show ∀ W', Ext W W' → K (fr (upd V 4 (lnv (rowM f g y)))) W' from fun W' he => hK _ _ ⟨upd V 4 (lnv (rowM f g y)), rfl, HS.ext he, HV.up 4 _ (fun x hx => Option.some.inj hx), fun h => NbL.weak (NbL.ext (f6 (more_ne h rfl)) he) (fun h => more_ne h rfl), fun h => NbL.weak (NbL.ext (f7 (more_ne h rfl)) he) (fun h => more_ne h rfl), fun h => NbL.weak (NbL.ext (f8 (more_ne h rfl)) he) (fun h => more_ne h rfl), fun h h' => d6_7 (more_ne h rfl) (more_ne h' rfl), fun h h' => d6_8 (more_ne h rfl) (more_ne h' rfl), fun h h' => d7_8 (more_ne h rfl) (more_ne h' rfl)⟩)
    clear hK hC hW hL HV f6 f7 f8 d6_7 d6_8 d7_8
    rw [HFR.out]
    refine wpList_load_lanes rfl (.tmp 7) rfl (g7) (rowM f g y) rfl (HS.at (g7) (rowM f g y) (by simp)) ?_
    show K _ _
    have := H.out _ (Ext.refl _)
    rw [HFR.out] at this
    exact this
  · rintro L A W K hL hC hW ⟨V, rfl, HS, HV, f6, f7, f8, d6_7, d6_8, d7_8⟩ hK
    have e4 : V 4 = lnv (rowM f g y) := HV 4 _ rfl (hW 4 rfl)
    have u4 : (upd V 5 (lnv (rm))) 4 = lnv (rowM f g y) := e4
    have HU := Lib.hid (show (upd V 5 (lnv (rm))) 4 = lnv (rowM f g y) from u4)
    clear u4
    have H := Lib.hid (show ∀ W', Ext W W' → K (fr (upd V 5 (lnv (rm)))) W' from fun W' he => hK _ _ ⟨upd V 5 (lnv (rm)), rfl, HS.ext he, HV.up 5 _ (fun x hx => Option.some.inj hx), fun h => NbL.weak (NbL.ext (f6 (more_ne h rfl)) he) (fun h => more_ne h rfl), fun h => NbL.weak (NbL.ext (f7 (more_ne h rfl)) he) (fun h => more_ne h rfl), fun h => NbL.weak (NbL.ext (f8 (more_ne h rfl)) he) (fun h => more_ne h rfl), fun h h' => d6_7 (more_ne h rfl) (more_ne h' rfl), fun h h' => d6_8 (more_ne h rfl) (more_ne h' rfl), fun h h' => d7_8 (more_ne h rfl) (more_ne h' rfl)⟩)
    clear hK hC hW hL HV f6 f7 f8 d6_7 d6_8 d7_8
    rw [HFR.out]
    rw [e4]
    clear e4
    go_wp2_with fail
    refine (HR3.out _).mono ?_
    rintro e wx ⟨rfl, he⟩
    have := H.out _ he
    clear H
    go_wp2_with fail
    show K _ _
    rw [HFR.out] at this
    obtain u4 := HU.out
    rw [u4] at this
    exact this
  · rintro L A W K hL hC hW ⟨V, rfl, HS, HV, f6, f7, f8, d6_7, d6_8, d7_8⟩ hK
    have H := Lib.hid (hK _ _ ⟨upd V 6 (.pointer (some ⟨W.heap.size, 0, none⟩)), rfl, HS.al _, HV.up 6 _ (fun x hx => absurd hx (by intro h; cases h)), fun _ => NbL.new HS _ (by show More L 6 9 = false; unfold More; rw [if_neg (by decide)]; exact hC.no hL 9 _ rfl rfl) _, fun h => NbL.weak (NbL.ext (f7 (more_ne h rfl)) ((Ext.refl W).alloc _)) (fun h => more_ne h rfl), fun h => NbL.weak (NbL.ext (f8 (more_ne h rfl)) ((Ext.refl W).alloc _)) (fun h => more_ne h rfl), fun _ h => (f7 (more_ne h rfl)).fresh.symm, fun _ h => (f8 (more_ne h rfl)).fresh.symm, fun h h' => d7_8 (more_ne h rfl) (more_ne h' rfl)⟩)
    clear hK hC hW hL HV f6 f7 f8 d6_7 d6_8 d7_8
    rw [HFR.out]
    go_wp2_with fail
    show K _ _
    have := H.out
    rw [HFR.out] at this
    exact this
  · rintro L A W K hL hC hW ⟨V, rfl, HS, HV, f6, f7, f8, d6_7, d6_8, d7_8⟩ hK
    have H := Lib.hid (hK _ _ ⟨upd V 7 (.pointer (some ⟨W.heap.size, 0, none⟩)), rfl, HS.al _, HV.up 7 _ (fun x hx => absurd hx (by intro h; cases h)), fun h => NbL.weak (NbL.ext (f6 (more_ne h rfl)) ((Ext.refl W).alloc _)) (fun h => more_ne h rfl), fun _ => NbL.new HS _ (by show More L 7 10 = false; unfold More; rw [if_neg (by decide)]; exact hC.no hL 10 _ rfl rfl) _, fun h => NbL.weak (NbL.ext (f8 (more_ne h rfl)) ((Ext.refl W).alloc _)) (fun h => more_ne h rfl), fun h _ => (f6 (more_ne h rfl)).fresh, fun h h' => d6_8 (more_ne h rfl) (more_ne h' rfl), fun _ h => (f8 (more_ne h rfl)).fresh.symm⟩)
    clear hK hC hW hL HV f6 f7 f8 d6_7 d6_8 d7_8
    rw [HFR.out]
    go_wp2_with fail
    show K _ _
    have := H.out
    rw [HFR.out] at this
    exact this
  · rintro L A W K hL hC hW ⟨V, rfl, HS, HV, f6, f7, f8, d6_7, d6_8, d7_8⟩ hK
    have H := Lib.hid (hK _ _ ⟨upd V 8 (.pointer (some ⟨W.heap.size, 0, none⟩)), rfl, HS.al _, HV.up 8 _ (fun x hx => absurd hx (by intro h; cases h)), fun h => NbL.weak (NbL.ext (f6 (more_ne h rfl)) ((Ext.refl W).alloc _)) (fun h => more_ne h rfl), fun h => NbL.weak (NbL.ext (f7 (more_ne h rfl)) ((Ext.refl W).alloc _)) (fun h => more_ne h rfl), fun _ => NbL.new HS _ (by show More L 8 11 = false; unfold More; rw [if_neg (by decide)]; exact hC.no hL 11 _ rfl rfl) _, fun h h' => d6_7 (more_ne h rfl) (more_ne h' rfl), fun h _ => (f6 (more_ne h rfl)).fresh, fun h _ => (f7 (more_ne h rfl)).fresh⟩)
    clear hK hC hW hL HV f6 f7 f8 d6_7 d6_8 d7_8
    rw [HFR.out]
    go_wp2_with fail
    show K _ _
    have := H.out
    rw [HFR.out] at this
    exact this
  · rintro L A W K hL hC hW ⟨V, rfl, HS, HV, f6, f7, f8, d6_7, d6_8, d7_8⟩ hK
    have e1 : V 1 = lnv (rf) := HV 1 _ rfl (hW 1 rfl)
    have u1 : (V) 1 = lnv (rf) := e1
    have HU := Lib.hid (show (V) 1 = lnv (rf) from u1)
    clear u1
    rw [HFR.out]
    rw [e1]
    refine wpList_store_nbL rfl rfl (.tmp 8) (.tmp 34) rfl HS (f6 (hW 6 rfl)) rfl rfl ?_
    intro W' g hg HS' hn hgr
    show K _ _
    have := hK _ _ ⟨V, rfl, HS', HV.st 9 rfl, fun _ => hn _, fun h => (NbL.other (f7 (more_ne h rfl)) hgr (by rw [← hg]; exact (d6_7 (hW 6 rfl) (more_ne h rfl)).symm)).weak (fun h => more_ne h rfl), fun h => (NbL.other (f8 (more_ne h rfl)) hgr (by rw [← hg]; exact (d6_8 (hW 6 rfl) (more_ne h rfl)).symm)).weak (fun h => more_ne h rfl), fun h h' => d6_7 (more_ne h rfl) (more_ne h' rfl), fun h h' => d6_8 (more_ne h rfl) (more_ne h' rfl), fun h h' => d7_8 (more_ne h rfl) (more_ne h' rfl)⟩
    rw [HFR.out] at this
    obtain u1 := HU.out
    rw [u1] at this
    exact this
  · rintro L A W K hL hC hW ⟨V, rfl, HS, HV, f6, f7, f8, d6_7, d6_8, d7_8⟩ hK
    have e3 : V 3 = lnv (rg) := HV 3 _ rfl (hW 3 rfl)
    have u3 : (V) 3 = lnv (rg) := e3
    have HU := Lib.hid (show (V) 3 = lnv (rg) from u3)
    clear u3
    rw [HFR.out]
    rw [e3]
    refine wpList_store_nbL rfl rfl (.tmp 9) (.tmp 36) rfl HS (f7 (hW 7 rfl)) rfl rfl ?_
    intro W' g hg HS' hn hgr
    show K _ _
    have := hK _ _ ⟨V, rfl, HS', HV.st 10 rfl, fun h => (NbL.other (f6 (more_ne h rfl)) hgr (by rw [← hg]; exact d6_7 (more_ne h rfl) (hW 7 rfl))).weak (fun h => more_ne h rfl), fun _ => hn _, fun h => (NbL.other (f8 (more_ne h rfl)) hgr (by rw [← hg]; exact (d7_8 (hW 7 rfl) (more_ne h rfl)).symm)).weak (fun h => more_ne h rfl), fun h h' => d6_7 (more_ne h rfl) (more_ne h' rfl), fun h h' => d6_8 (more_ne h rfl) (more_ne h' rfl), fun h h' => d7_8 (more_ne h rfl) (more_ne h' rfl)⟩
    rw [HFR.out] at this
    obtain u3 := HU.out
    rw [u3] at this
    exact this
  · rintro L A W K hL hC hW ⟨V, rfl, HS, HV, f6, f7, f8, d6_7, d6_8, d7_8⟩ hK
    have e5 : V 5 = lnv (rm) := HV 5 _ rfl (hW 5 rfl)
    have u5 : (V) 5 = lnv (rm) := e5
    have HU := Lib.hid (show (V) 5 = lnv (rm) from u5)
    clear u5
    rw [HFR.out]
    rw [e5]
    refine wpList_store_nbL rfl rfl (.tmp 10) (.tmp 38) rfl HS (f8 (hW 8 rfl)) rfl rfl ?_
    intro W' g hg HS' hn hgr
    show K _ _
    have := hK _ _ ⟨V, rfl, HS', HV.st 11 rfl, fun h => (NbL.other (f6 (more_ne h rfl)) hgr (by rw [← hg]; exact d6_8 (more_ne h rfl) (hW 8 rfl))).weak (fun h => more_ne h rfl), fun h => (NbL.other (f7 (more_ne h rfl)) hgr (by rw [← hg]; exact d7_8 (more_ne h rfl) (hW 8 rfl))).weak (fun h => more_ne h rfl), fun _ => hn _, fun h h' => d6_7 (more_ne h rfl) (more_ne h' rfl), fun h h' => d6_8 (more_ne h rfl) (more_ne h' rfl), fun h h' => d7_8 (more_ne h rfl) (more_ne h' rfl)⟩
    rw [HFR.out] at this
    obtain u5 := HU.out
    rw [u5] at this
    exact this
  · rintro L A W hL ⟨V, rfl, HS, HV, f6, f7, f8, d6_7, d6_8, d7_8⟩
    have e0 : V 0 = lnv (f) := HV 0 _ rfl (hL 0 (by simp))
    have e1 : V 1 = lnv (rf) := HV 1 _ rfl (hL 1 (by simp))
    have e2 : V 2 = lnv (g) := HV 2 _ rfl (hL 2 (by simp))
    have e3 : V 3 = lnv (rg) := HV 3 _ rfl (hL 3 (by simp))
    have e4 : V 4 = lnv (rowM f g y) := HV 4 _ rfl (hL 4 (by simp))
    have e5 : V 5 = lnv (rm) := HV 5 _ rfl (hL 5 (by simp))
    obtain ⟨g8, p8, hb8, hn8, k8⟩ := NbL.done (NbL.weak (f6 (hL 6 (by simp))) (fun _ => hL 9 (by simp)))
    obtain ⟨g9, p9, hb9, hn9, k9⟩ := NbL.done (NbL.weak (f7 (hL 7 (by simp))) (fun _ => hL 10 (by simp)))
    obtain ⟨g10, p10, hb10, hn10, k10⟩ := NbL.done (NbL.weak (f8 (hL 8 (by simp))) (fun _ => hL 11 (by simp)))
    rw [HFR.out]
    rw [e0, e1, e2, e3, e4, e5, p8, p9, p10]
    clear hL HV e0 e1 e2 e3 e4 e5 p8 p9 p10 f6 f7 f8 d6_7 d6_8 d7_8
    clear HFR HR1 HR2 HR3
    have HK := Lib.hid HS.2
    have K8 := Lib.hid k8
    have K9 := Lib.hid k9
    have K10 := Lib.hid k10
    clear HS k8 k9 k10 hb8 hb9 hb10 hn8 hn9 hn10
    go_wp2_with fail
    go_loopw [11, 12, 39, 40, 41, 42, 43, 44, 45, 46, 47, 48, 49, 50, 51, 52, 53, 54, 55, 56, 57] (fun _ _ u _ _ _ _ _ _ _ _ _ _ _ _ _ _ _ _ _ _ wr => ∃ k : Nat, k ≤ 25 ∧ u = .int .i64 k ∧ Hid (Ln wr g8 rf) ∧ Hid (Ln wr g9 rg) ∧ Hid (Ln wr g10 rm) ∧ Hid (Ext w wr)) (fun _ _ u _ _ _ _ _ _ _ _ _ _ _ _ _ _ _ _ _ _ _ => 25 - (intOf u).toNat)
    case atStart => exact ⟨0, by omega, rfl, K8, K9, K10, HK⟩
    case round =>
      clear K8 K9 K10 HK
      obtain ⟨k, hk, rfl, K8, K9, K10, HK⟩ := hrel
      by_cases hlt : k < 25
      · have hd : decide ((k : Int) < 25) = true := by simp; omega
        have a1 : (0 : Int) ≤ (k : Int) := by omega
        have a2 : (k : Int) < 25 := by omega
        have c8 := K8.out.cell k hlt
        have c9 := K9.out.cell k hlt
        have c10 := K10.out.cell k hlt
        rw [HQ.out k hlt] at c10
        by_cases hy : k / 5 = y
        · rw [if_pos hy] at c10
          have hq : ((k : Int) / 5 == (y : Int)) = true := by simp; omega
          generalize rg k = x at *
          generalize rf k = z at *
          clear hy hlt
          go_wp2_with fail
          exact ⟨⟨k + 1, by omega, by go_num, K8, K9, K10, HK⟩, by simp [intOf]; omega⟩
        · rw [if_neg hy] at c10
          have hq : ((k : Int) / 5 == (y : Int)) = false := by simp; omega
          generalize rg k = x at *
          generalize rf k = z at *
          clear hy hlt
          go_wp2_with fail
          exact ⟨⟨k + 1, by omega, by go_num, K8, K9, K10, HK⟩, by simp [intOf]; omega⟩
      · obtain rfl : k = 25 := by omega
        go_wp2_with fail
        go_ret
        exact ⟨rfl, HK.out⟩

set_option maxRecDepth 100000 in
theorem rowsl_told (W : World) (args : Array Value) (h : Told Tryd.f8 W args) (ht : Tb W) : Calls Tryd.prog 8 args W (RetT W) := by
  obtain ⟨H, enc, base, ds, p, hval, hA⟩ := h
  rw [Tryd.params8] at hA hval
  obtain ⟨v0, v1, v2, d0, d1, d2, p0, p1, p2, ha, rfl, rfl, h0, h1, h2⟩ := trodAll_three hA
  obtain rfl : args = #[v0, v1, v2] := by apply Array.toList_inj.1; rw [ha]
  obtain ⟨f, rfl, hf⟩ := lanes_came (hval 0 _ _ rfl rfl) h0
  obtain ⟨g, rfl, hg⟩ := lanes_came (hval 1 _ _ rfl rfl) h1
  obtain ⟨n, rfl, _, _⟩ := int_came Tryd.underlying3 (hval 2 _ _ rfl rfl) h2
  exact rowsl_any f g n W hf hg ht

set_option maxRecDepth 100000 in
theorem rowsl_spec (H : Type) : ∀ ds : List (DataW H), ds.length = Tryd.f8.params.toList.length → Rows.spongeRowsSpec.fn H ds = { results := [.lit (.bool true)], args := ds }
  | [_, _, _], _ => rfl
  | [], h | [_], h | [_, _], h | _ :: _ :: _ :: _ :: _, h => by rw [Tryd.params8] at h; simp at h

set_option maxRecDepth 100000 in
theorem spongeRows_holds : Rows.SpongeRowsSaid :=
  OpenClaim.holds_of_wide 8 Tryd.f8 rfl rfl rfl rfl rfl rfl rfl ⟨rfl, rfl, rfl, rfl, rfl⟩ rfl rfl rfl rfl rfl (by kernel_rfl) Tryd.func8 (by kernel_rfl)
    (of_decide_eq_true (by kernel_rfl)) (by unfold Func.isWrapper; first | (rw [if_pos (by decide +kernel)]; kernel_rfl) | (rw [if_neg (by decide +kernel)]; exact ⟨rfl, rfl⟩))
    (fun os started H enc _ => law_lifted_t started (by kernel_rfl) Tryd.func8 rfl rfl (rowsl_spec H) (of_decide_eq_true (by kernel_rfl))
      (ChangeSpec.witness_shaped (enc := enc) (C := Tryd.checked) (os := os) (X := fun w _ => laidMetH Tryd.prog laid2 w) false (World.doorLaid Tryd.prog 400 os) #[.agg (Array.replicate 25 (.int .u64 0)), .agg (Array.replicate 25 (.int .u64 0)), .int .i64 0] 8 rfl (World.shaped_of_RefB (by kernel_rfl) (by kernel_rfl)) (by kernel_rfl) (by kernel_rfl) (by kernel_rfl) (door_met os _)) rowsl_told)

set_option maxRecDepth 100000 in
theorem spongeRows_card : Rows.SpongeRowsCardSaid :=
  Claim7.holds_tied_plain_at .later [] [.data, .data] true (true, "6022e3c362c65ddb5e4c18bedef3ddafca15e789426a41385729bbd240e05e94") false
    spongeRows_holds (fun _ h => by cases h) (by kernel_rfl) (fun _ h => by cases h) spongeRows_row_tie rfl ⟨rfl, rfl⟩ (by kernel_rfl) rfl
    (fun f fn hf hfn => by
      obtain rfl : f = 8 := Option.some.inj ((show Tryd.prog.funcNamed "sheafer/sheaferlaw03.SpongeRows" = some 8 by kernel_rfl).symm.trans hf) |>.symm
      obtain rfl : fn = Tryd.f8 := (Option.some.inj (Tryd.func8.symm.trans hfn)).symm
      exact ⟨by kernel_rfl, fun j t ht => by
        rw [Tryd.params8] at ht
        have hm : t ∈ [35, 35, 3] := by simpa using Array.mem_of_getElem? ht
        have hall : ([35, 35, 3].all fun u => !Tryd.prog.wantsStandIn u) = true := by kernel_rfl
        exact (show Tryd.prog.wantsStandIn t = false by simpa using List.all_eq_true.1 hall t hm)⟩)
    (by kernel_rfl)
end Go.Proofs.YthjmjccggkejhaaDoor
