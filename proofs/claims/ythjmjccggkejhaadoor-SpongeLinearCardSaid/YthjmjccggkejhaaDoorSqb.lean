/- SpongeLinear: the walk, the row and its card. -/
import Derived.Test.YthjmjccggkejhaaDoorSqa
namespace Go.Proofs.YthjmjccggkejhaaDoor
open Go.ChangeShapes Go.WideShapes Go.ChangeAt Go.RowKit Go.Shelf

set_option maxRecDepth 100000 in
theorem neq_same (a b : Nat → Nat) (h : ∀ i, i < 25 → a i = b i) : (!same25 a b) = false := by rw [(same25_iff a b).2 h]; rfl

set_option maxRecDepth 100000 in
set_option maxHeartbeats 8000000 in
theorem linear_any (f g : Nat → Nat) (w : World) (hf : Lok f) (hg : Lok g) (ht : Tb w) : Calls Tryd.prog 7 #[lnv f, lnv g] w (RetT w) := by
  have hz : Lok fun _ => 0 := fun _ _ => Nat.lt_of_lt_of_le Nat.zero_lt_one (by decide)
  have HC1 := Lib.hid (fun W => both_any f g W hf hg)
  have HC2 := Lib.hid (fun W (t : Tb W) => mix_any (bothF f g) W (bothF_lt f g hf hg) t.1)
  have HC3 := Lib.hid (fun W (t : Tb W) => mix_any f W hf t.1)
  have HC4 := Lib.hid (fun W (t : Tb W) => mix_any g W hg t.1)
  have HC5 := Lib.hid (fun W => both_any (mixF f) (mixF g) W (mixF_lt f hf) (mixF_lt g hg))
  have HC6 := Lib.hid (fun W (t : Tb W) => mix_any (fun _ => 0) W hz t.1)
  have HR1 := Lib.hid (fun W => rows_any f W hf)
  have HR2 := Lib.hid (fun W => rows_any g W hg)
  have HP1 := Lib.hid (fun W (t : Tb W) => permute_any f W hf t)
  have HP2 := Lib.hid (fun W (t : Tb W) => permute_any g W hg t)
  have HQ := Lib.hid (neq_same (mixF (bothF f g)) (bothF (mixF f) (mixF g)) (mixF_both f g hf hg))
  have HQZ := Lib.hid (neq_same (mixF fun _ => 0) (fun _ => 0) mixF_zero)
  have HS1 := Lib.hid (mix_same f g hf hg)
  have HS2 := Lib.hid (row_same f g hf hg)
  have HS3 := Lib.hid (prm_same f g hf hg)
  generalize bothF (mixF f) (mixF g) = q at *
  generalize mixF (bothF f g) = mp at *
  generalize bothF f g = p at *
  generalize (mixF fun _ => 0) = mz at *
  generalize mixF f = mf at *
  generalize mixF g = mg at *
  generalize rowF f = rf at *
  generalize rowF g = rg at *
  generalize prmF f 24 = pf at *
  generalize prmF g 24 = pg at *
  obtain ⟨al, hal⟩ : ∃ al, same25 f g = al := ⟨_, rfl⟩
  rw [hal] at HS1 HS2 HS3
  have HAL := Lib.hid hal
  have HT : Hid (Tb ((w.alloc (.cells (lc f) 35)).alloc (.cells (lc g) 35))) := ht.ext (((Ext.refl w).alloc _).alloc _)
  have HA : Hid (Ln ((w.alloc (.cells (lc f) 35)).alloc (.cells (lc g) 35)) w.heap.size f) := (Cs.new _ _ _ _ rfl).alloc _
  have HB : Hid (Ln ((w.alloc (.cells (lc f) 35)).alloc (.cells (lc g) 35)) (w.heap.size + 1) g) := Cs.new _ _ _ _ (by simp)
  have HE : Hid (Ext w ((w.alloc (.cells (lc f) 35)).alloc (.cells (lc g) 35))) := ((Ext.refl w).alloc _).alloc _
  clear hf hg ht hz hal
  unfold lnv
  go_enter Tryd.func7, Tryd.ntmps7
  go_wp2_with fail
  refine (wakes_any _ HT.out).mono ?_
  rintro e w1 ⟨rfl, he1⟩
  have HB0 : Hid (Ln2 w w.heap.size (w.heap.size + 1) f g w1) := ⟨HA.out.ext he1, HB.out.ext he1, HE.out.trans he1, HT.out.ext he1⟩
  clear he1 HA HB HE HT
  go_upto_region 3 with fail
  refine wp_named fun a0 ha0 => ?_
  obtain ⟨fr, hfr⟩ : ∃ fr : (Nat → Value) → Act, ∀ V, fr V = ((((((((((((((((a0.put (some 8) (V 0)).put (some 9) (V 1)).put (some 10) (V 2)).put (some 11) (V 3)).put (some 12) (V 4)).put (some 13) (V 5)).put (some 14) (V 6)).put (some 15) (V 7)).put (some 16) (V 8)).put (some 17) (V 9)).put (some 18) (V 10)).put (some 19) (V 11)).put (some 20) (V 12)).put (some 21) (V 13)).put (some 22) (V 14)).put (some 23) (V 15)) := ⟨fun V => ((((((((((((((((a0.put (some 8) (V 0)).put (some 9) (V 1)).put (some 10) (V 2)).put (some 11) (V 3)).put (some 12) (V 4)).put (some 13) (V 5)).put (some 14) (V 6)).put (some 15) (V 7)).put (some 16) (V 8)).put (some 17) (V 9)).put (some 18) (V 10)).put (some 19) (V 11)).put (some 20) (V 12)).put (some 21) (V 13)).put (some 22) (V 14)).put (some 23) (V 15)), fun _ => rfl⟩
  rw [ha0] at hfr
  simp only [Act.put, List.setIfInBounds_toArray, List.set_cons_zero, List.set_cons_succ] at hfr
  have HFR := Lib.hid hfr
  clear hfr
  refine wp_region_inv (by kernel_rfl) (by kernel_rfl) (fun L A W => ∃ V : Nat → Value, A = fr V ∧ Vals (fun j => ([some (lnv f), some (lnv g), some (lnv p), some (lnv mp), some (lnv f), some (lnv mf), some (lnv g), some (lnv mg), some (lnv q), some (.bool false), some (.bool false), some (lnv (fun _ => 0)), some (lnv mz), some (lnv (fun _ => 0)), some (.bool false), some (.bool false)] : List (Option Value)).getD j none) L V ∧ Ln2 w w.heap.size (w.heap.size + 1) f g W) ?_ ⟨?_, ?_, ?_, ?_, ?_, ?_, ?_, ?_, ?_, ?_, ?_, ?_, ?_, ?_, ?_, ?_, trivial⟩ ?_
  · refine ⟨fun j => a0.tmps.getD (([8, 9, 10, 11, 12, 13, 14, 15, 16, 17, 18, 19, 20, 21, 22, 23] : List Nat).getD j 0) undef, ?_, Vals.no _ _ _ (far_none _ _ rfl), HB0.out.drew⟩
    rw [HFR.out, ha0]
    rfl
  all_goals clear ha0
  · rintro L A W K hL hC hW ⟨V, rfl, HV, hB⟩ hK
    have H := Lib.hid (show ∀ W', Ext W W' → K (fr (upd V 0 (lnv f))) W' from fun W' he => hK _ W' ⟨upd V 0 (lnv f), rfl, HV.up 0 _ (fun x hx => Option.some.inj hx), Ln2.ext hB he⟩)
    clear hK hC hW hL HV
    rw [HFR.out]
    have HLn := Lib.hid hB.1
    clear hB
    go_wp2_with ((with_reducible refine wpList_load_lanes ?_ (.tmp 2) ?_ (w.heap.size) f ?_ ?_ ?_); (exact rfl); (exact rfl); (exact rfl); (exact HLn.out))
    show K _ _
    have := H.out _ (Ext.refl _)
    rw [HFR.out] at this
    exact this
  · rintro L A W K hL hC hW ⟨V, rfl, HV, hB⟩ hK
    have H := Lib.hid (show ∀ W', Ext W W' → K (fr (upd V 1 (lnv g))) W' from fun W' he => hK _ W' ⟨upd V 1 (lnv g), rfl, HV.up 1 _ (fun x hx => Option.some.inj hx), Ln2.ext hB he⟩)
    clear hK hC hW hL HV
    rw [HFR.out]
    have HLn := Lib.hid hB.2.1
    clear hB
    go_wp2_with ((with_reducible refine wpList_load_lanes ?_ (.tmp 3) ?_ ((w.heap.size + 1)) g ?_ ?_ ?_); (exact rfl); (exact rfl); (exact rfl); (exact HLn.out))
    show K _ _
    have := H.out _ (Ext.refl _)
    rw [HFR.out] at this
    exact this
  · rintro L A W K hL hC hW ⟨V, rfl, HV, hB⟩ hK
    have e0 : V 0 = lnv f := HV 0 _ rfl (hW 0 rfl)
    have e1 : V 1 = lnv g := HV 1 _ rfl (hW 1 rfl)
    have H := Lib.hid (show ∀ W', Ext W W' → K (fr (upd V 2 (lnv p))) W' from fun W' he => hK _ W' ⟨upd V 2 (lnv p), rfl, HV.up 2 _ (fun x hx => Option.some.inj hx), Ln2.ext hB he⟩)
    clear hK hC hW hL HV
    have u0 : (upd V 2 (lnv p)) 0 = lnv f := e0
    have u1 : (upd V 2 (lnv p)) 1 = lnv g := e1
    have HU := Lib.hid (show (upd V 2 (lnv p)) 0 = lnv f ∧ (upd V 2 (lnv p)) 1 = lnv g from ⟨u0, u1⟩)
    clear u0 u1
    rw [HFR.out]
    rw [e0, e1]
    clear e0 e1
    go_wp2_with fail
    refine (HC1.out _).mono ?_
    rintro e wx ⟨rfl, he⟩
    go_wp2_with fail
    show K _ _
    have := H.out _ he
    rw [HFR.out] at this
    obtain ⟨u0, u1⟩ := HU.out
    rw [u0, u1] at this
    exact this
  · rintro L A W K hL hC hW ⟨V, rfl, HV, hB⟩ hK
    have e2 : V 2 = lnv p := HV 2 _ rfl (hW 2 rfl)
    have H := Lib.hid (show ∀ W', Ext W W' → K (fr (upd V 3 (lnv mp))) W' from fun W' he => hK _ W' ⟨upd V 3 (lnv mp), rfl, HV.up 3 _ (fun x hx => Option.some.inj hx), Ln2.ext hB he⟩)
    clear hK hC hW hL HV
    have u2 : (upd V 3 (lnv mp)) 2 = lnv p := e2
    have HU := Lib.hid (show (upd V 3 (lnv mp)) 2 = lnv p from u2)
    clear u2
    rw [HFR.out]
    rw [e2]
    clear e2
    go_wp2_with fail
    refine (HC2.out _ hB.2.2.2).mono ?_
    rintro e wx ⟨rfl, he⟩
    go_wp2_with fail
    show K _ _
    have := H.out _ he
    rw [HFR.out] at this
    obtain u2 := HU.out
    rw [u2] at this
    exact this
  · rintro L A W K hL hC hW ⟨V, rfl, HV, hB⟩ hK
    have H := Lib.hid (show ∀ W', Ext W W' → K (fr (upd V 4 (lnv f))) W' from fun W' he => hK _ W' ⟨upd V 4 (lnv f), rfl, HV.up 4 _ (fun x hx => Option.some.inj hx), Ln2.ext hB he⟩)
    clear hK hC hW hL HV
    rw [HFR.out]
    have HLn := Lib.hid hB.1
    clear hB
    go_wp2_with ((with_reducible refine wpList_load_lanes ?_ (.tmp 2) ?_ (w.heap.size) f ?_ ?_ ?_); (exact rfl); (exact rfl); (exact rfl); (exact HLn.out))
    show K _ _
    have := H.out _ (Ext.refl _)
    rw [HFR.out] at this
    exact this
  · rintro L A W K hL hC hW ⟨V, rfl, HV, hB⟩ hK
    have e4 : V 4 = lnv f := HV 4 _ rfl (hW 4 rfl)
    have H := Lib.hid (show ∀ W', Ext W W' → K (fr (upd V 5 (lnv mf))) W' from fun W' he => hK _ W' ⟨upd V 5 (lnv mf), rfl, HV.up 5 _ (fun x hx => Option.some.inj hx), Ln2.ext hB he⟩)
    clear hK hC hW hL HV
    have u4 : (upd V 5 (lnv mf)) 4 = lnv f := e4
    have HU := Lib.hid (show (upd V 5 (lnv mf)) 4 = lnv f from u4)
    clear u4
    rw [HFR.out]
    rw [e4]
    clear e4
    go_wp2_with fail
    refine (HC3.out _ hB.2.2.2).mono ?_
    rintro e wx ⟨rfl, he⟩
    go_wp2_with fail
    show K _ _
    have := H.out _ he
    rw [HFR.out] at this
    obtain u4 := HU.out
    rw [u4] at this
    exact this
  · rintro L A W K hL hC hW ⟨V, rfl, HV, hB⟩ hK
    have H := Lib.hid (show ∀ W', Ext W W' → K (fr (upd V 6 (lnv g))) W' from fun W' he => hK _ W' ⟨upd V 6 (lnv g), rfl, HV.up 6 _ (fun x hx => Option.some.inj hx), Ln2.ext hB he⟩)
    clear hK hC hW hL HV
    rw [HFR.out]
    have HLn := Lib.hid hB.2.1
    clear hB
    go_wp2_with ((with_reducible refine wpList_load_lanes ?_ (.tmp 3) ?_ ((w.heap.size + 1)) g ?_ ?_ ?_); (exact rfl); (exact rfl); (exact rfl); (exact HLn.out))
    show K _ _
    have := H.out _ (Ext.refl _)
    rw [HFR.out] at this
    exact this
  · rintro L A W K hL hC hW ⟨V, rfl, HV, hB⟩ hK
    have e6 : V 6 = lnv g := HV 6 _ rfl (hW 6 rfl)
    have H := Lib.hid (show ∀ W', Ext W W' → K (fr (upd V 7 (lnv mg))) W' from fun W' he => hK _ W' ⟨upd V 7 (lnv mg), rfl, HV.up 7 _ (fun x hx => Option.some.inj hx), Ln2.ext hB he⟩)
    clear hK hC hW hL HV
    have u6 : (upd V 7 (lnv mg)) 6 = lnv g := e6
    have HU := Lib.hid (show (upd V 7 (lnv mg)) 6 = lnv g from u6)
    clear u6
    rw [HFR.out]
    rw [e6]
    clear e6
    go_wp2_with fail
    refine (HC4.out _ hB.2.2.2).mono ?_
    rintro e wx ⟨rfl, he⟩
    go_wp2_with fail
    show K _ _
    have := H.out _ he
    rw [HFR.out] at this
    obtain u6 := HU.out
    rw [u6] at this
    exact this
  · rintro L A W K hL hC hW ⟨V, rfl, HV, hB⟩ hK
    have e5 : V 5 = lnv mf := HV 5 _ rfl (hW 5 rfl)
    have e7 : V 7 = lnv mg := HV 7 _ rfl (hW 7 rfl)
    have H := Lib.hid (show ∀ W', Ext W W' → K (fr (upd V 8 (lnv q))) W' from fun W' he => hK _ W' ⟨upd V 8 (lnv q), rfl, HV.up 8 _ (fun x hx => Option.some.inj hx), Ln2.ext hB he⟩)
    clear hK hC hW hL HV
    have u5 : (upd V 8 (lnv q)) 5 = lnv mf := e5
    have u7 : (upd V 8 (lnv q)) 7 = lnv mg := e7
    have HU := Lib.hid (show (upd V 8 (lnv q)) 5 = lnv mf ∧ (upd V 8 (lnv q)) 7 = lnv mg from ⟨u5, u7⟩)
    clear u5 u7
    rw [HFR.out]
    rw [e5, e7]
    clear e5 e7
    go_wp2_with fail
    refine (HC5.out _).mono ?_
    rintro e wx ⟨rfl, he⟩
    go_wp2_with fail
    show K _ _
    have := H.out _ he
    rw [HFR.out] at this
    obtain ⟨u5, u7⟩ := HU.out
    rw [u5, u7] at this
    exact this
  · rintro L A W K hL hC hW ⟨V, rfl, HV, hB⟩ hK
    have e3 : V 3 = lnv mp := HV 3 _ rfl (hW 3 rfl)
    have e8 : V 8 = lnv q := HV 8 _ rfl (hW 8 rfl)
    have H := Lib.hid (show ∀ W', Ext W W' → K (fr (upd V 9 (.bool false))) W' from fun W' he => hK _ W' ⟨upd V 9 (.bool false), rfl, HV.up 9 _ (fun x hx => Option.some.inj hx), Ln2.ext hB he⟩)
    clear hK hC hW hL HV
    have u3 : (upd V 9 (.bool false)) 3 = lnv mp := e3
    have u8 : (upd V 9 (.bool false)) 8 = lnv q := e8
    have HU := Lib.hid (show (upd V 9 (.bool false)) 3 = lnv mp ∧ (upd V 9 (.bool false)) 8 = lnv q from ⟨u3, u8⟩)
    clear u3 u8
    rw [HFR.out]
    rw [e3, e8]
    clear e3 e8
    clear hB
    go_wp2_with ((with_reducible refine wpList_neq_lanes ?_ (.tmp 11) (.tmp 16) ?_ mp q false ?_ ?_ HQ.out ?_); (exact rfl); (exact rfl); (exact rfl); (exact rfl))
    show K _ _
    have := H.out _ (Ext.refl _)
    rw [HFR.out] at this
    obtain ⟨u3, u8⟩ := HU.out
    rw [u3, u8] at this
    exact this
  · rintro L A W K hL hC hW ⟨V, rfl, HV, hB⟩ hK
    have e9 : V 9 = .bool false := HV 9 _ rfl (hW 9 rfl)
    have H := Lib.hid (show ∀ W', Ext W W' → K (fr (upd V 10 (.bool false))) W' from fun W' he => hK _ W' ⟨upd V 10 (.bool false), rfl, HV.up 10 _ (fun x hx => Option.some.inj hx), Ln2.ext hB he⟩)
    clear hK hC hW hL HV
    have u9 : (upd V 10 (.bool false)) 9 = .bool false := e9
    have HU := Lib.hid (show (upd V 10 (.bool false)) 9 = .bool false from u9)
    clear u9
    rw [HFR.out]
    rw [e9]
    clear e9
    clear hB
    go_wp2_with fail
    show K _ _
    have := H.out _ (Ext.refl _)
    rw [HFR.out] at this
    obtain u9 := HU.out
    rw [u9] at this
    exact this
  · rintro L A W K hL hC hW ⟨V, rfl, HV, hB⟩ hK
    have e10 : V 10 = .bool false := HV 10 _ rfl (hW 10 rfl)
    have H := Lib.hid (show ∀ W', Ext W W' → K (fr (upd V 11 (lnv (fun _ => 0)))) W' from fun W' he => hK _ W' ⟨upd V 11 (lnv (fun _ => 0)), rfl, HV.up 11 _ (fun x hx => Option.some.inj hx), Ln2.ext hB he⟩)
    clear hK hC hW hL HV
    have u10 : (upd V 11 (lnv (fun _ => 0))) 10 = .bool false := e10
    have HU := Lib.hid (show (upd V 11 (lnv (fun _ => 0))) 10 = .bool false from u10)
    clear u10
    rw [HFR.out]
    rw [e10]
    clear e10
    clear hB
    go_wp2_with fail
    show K _ _
    have := H.out _ (Ext.refl _)
    rw [HFR.out] at this
    obtain u10 := HU.out
    rw [u10] at this
    exact this
  · rintro L A W K hL hC hW ⟨V, rfl, HV, hB⟩ hK
    have e10 : V 10 = .bool false := HV 10 _ rfl (hW 10 rfl)
    have e11 : V 11 = lnv (fun _ => 0) := HV 11 _ rfl (hW 11 rfl)
    have H := Lib.hid (show ∀ W', Ext W W' → K (fr (upd V 12 (lnv mz))) W' from fun W' he => hK _ W' ⟨upd V 12 (lnv mz), rfl, HV.up 12 _ (fun x hx => Option.some.inj hx), Ln2.ext hB he⟩)
    clear hK hC hW hL HV
    have u10 : (upd V 12 (lnv mz)) 10 = .bool false := e10
    have u11 : (upd V 12 (lnv mz)) 11 = lnv (fun _ => 0) := e11
    have HU := Lib.hid (show (upd V 12 (lnv mz)) 10 = .bool false ∧ (upd V 12 (lnv mz)) 11 = lnv (fun _ => 0) from ⟨u10, u11⟩)
    clear u10 u11
    rw [HFR.out]
    rw [e10, e11]
    clear e10 e11
    go_wp2_with fail
    refine (HC6.out _ hB.2.2.2).mono ?_
    rintro e wx ⟨rfl, he⟩
    go_wp2_with fail
    show K _ _
    have := H.out _ he
    rw [HFR.out] at this
    obtain ⟨u10, u11⟩ := HU.out
    rw [u10, u11] at this
    exact this
  · rintro L A W K hL hC hW ⟨V, rfl, HV, hB⟩ hK
    have e10 : V 10 = .bool false := HV 10 _ rfl (hW 10 rfl)
    have H := Lib.hid (show ∀ W', Ext W W' → K (fr (upd V 13 (lnv (fun _ => 0)))) W' from fun W' he => hK _ W' ⟨upd V 13 (lnv (fun _ => 0)), rfl, HV.up 13 _ (fun x hx => Option.some.inj hx), Ln2.ext hB he⟩)
    clear hK hC hW hL HV
    have u10 : (upd V 13 (lnv (fun _ => 0))) 10 = .bool false := e10
    have HU := Lib.hid (show (upd V 13 (lnv (fun _ => 0))) 10 = .bool false from u10)
    clear u10
    rw [HFR.out]
    rw [e10]
    clear e10
    clear hB
    go_wp2_with fail
    show K _ _
    have := H.out _ (Ext.refl _)
    rw [HFR.out] at this
    obtain u10 := HU.out
    rw [u10] at this
    exact this
  · rintro L A W K hL hC hW ⟨V, rfl, HV, hB⟩ hK
    have e10 : V 10 = .bool false := HV 10 _ rfl (hW 10 rfl)
    have e12 : V 12 = lnv mz := HV 12 _ rfl (hW 12 rfl)
    have e13 : V 13 = lnv (fun _ => 0) := HV 13 _ rfl (hW 13 rfl)
    have H := Lib.hid (show ∀ W', Ext W W' → K (fr (upd V 14 (.bool false))) W' from fun W' he => hK _ W' ⟨upd V 14 (.bool false), rfl, HV.up 14 _ (fun x hx => Option.some.inj hx), Ln2.ext hB he⟩)
    clear hK hC hW hL HV
    have u10 : (upd V 14 (.bool false)) 10 = .bool false := e10
    have u12 : (upd V 14 (.bool false)) 12 = lnv mz := e12
    have u13 : (upd V 14 (.bool false)) 13 = lnv (fun _ => 0) := e13
    have HU := Lib.hid (show (upd V 14 (.bool false)) 10 = .bool false ∧ (upd V 14 (.bool false)) 12 = lnv mz ∧ (upd V 14 (.bool false)) 13 = lnv (fun _ => 0) from ⟨u10, u12, u13⟩)
    clear u10 u12 u13
    rw [HFR.out]
    rw [e10, e12, e13]
    clear e10 e12 e13
    clear hB
    go_wp2_with ((with_reducible refine wpList_neq_lanes ?_ (.tmp 20) (.tmp 21) ?_ mz (fun _ => 0) false ?_ ?_ HQZ.out ?_); (exact rfl); (exact rfl); (exact rfl); (exact rfl))
    show K _ _
    have := H.out _ (Ext.refl _)
    rw [HFR.out] at this
    obtain ⟨u10, u12, u13⟩ := HU.out
    rw [u10, u12, u13] at this
    exact this
  · rintro L A W K hL hC hW ⟨V, rfl, HV, hB⟩ hK
    have e10 : V 10 = .bool false := HV 10 _ rfl (hW 10 rfl)
    have e14 : V 14 = .bool false := HV 14 _ rfl (hW 14 rfl)
    have H := Lib.hid (show ∀ W', Ext W W' → K (fr (upd V 15 (.bool false))) W' from fun W' he => hK _ W' ⟨upd V 15 (.bool false), rfl, HV.up 15 _ (fun x hx => Option.some.inj hx), Ln2.ext hB he⟩)
    clear hK hC hW hL HV
    have u10 : (upd V 15 (.bool false)) 10 = .bool false := e10
    have u14 : (upd V 15 (.bool false)) 14 = .bool false := e14
    have HU := Lib.hid (show (upd V 15 (.bool false)) 10 = .bool false ∧ (upd V 15 (.bool false)) 14 = .bool false from ⟨u10, u14⟩)
    clear u10 u14
    rw [HFR.out]
    rw [e10, e14]
    clear e10 e14
    clear hB
    go_wp2_with fail
    show K _ _
    have := H.out _ (Ext.refl _)
    rw [HFR.out] at this
    obtain ⟨u10, u14⟩ := HU.out
    rw [u10, u14] at this
    exact this
  · rintro L A W hL ⟨V, rfl, HV, hB⟩
    have e0 : V 0 = lnv f := HV 0 _ rfl (hL 0 (by simp))
    have e1 : V 1 = lnv g := HV 1 _ rfl (hL 1 (by simp))
    have e2 : V 2 = lnv p := HV 2 _ rfl (hL 2 (by simp))
    have e3 : V 3 = lnv mp := HV 3 _ rfl (hL 3 (by simp))
    have e4 : V 4 = lnv f := HV 4 _ rfl (hL 4 (by simp))
    have e5 : V 5 = lnv mf := HV 5 _ rfl (hL 5 (by simp))
    have e6 : V 6 = lnv g := HV 6 _ rfl (hL 6 (by simp))
    have e7 : V 7 = lnv mg := HV 7 _ rfl (hL 7 (by simp))
    have e8 : V 8 = lnv q := HV 8 _ rfl (hL 8 (by simp))
    have e9 : V 9 = .bool false := HV 9 _ rfl (hL 9 (by simp))
    have e10 : V 10 = .bool false := HV 10 _ rfl (hL 10 (by simp))
    have e11 : V 11 = lnv (fun _ => 0) := HV 11 _ rfl (hL 11 (by simp))
    have e12 : V 12 = lnv mz := HV 12 _ rfl (hL 12 (by simp))
    have e13 : V 13 = lnv (fun _ => 0) := HV 13 _ rfl (hL 13 (by simp))
    have e14 : V 14 = .bool false := HV 14 _ rfl (hL 14 (by simp))
    have e15 : V 15 = .bool false := HV 15 _ rfl (hL 15 (by simp))
    rw [HFR.out]
    rw [e0, e1, e2, e3, e4, e5, e6, e7, e8, e9, e10, e11, e12, e13, e14, e15]
    clear hL HV HFR e0 e1 e2 e3 e4 e5 e6 e7 e8 e9 e10 e11 e12 e13 e14 e15
    have HB0 := Lib.hid hB
    clear hB HC1 HC2 HC5 HC6 HQ HQZ
    cases al with
    | true =>
      go_upto_region 6 with (first
        | ((with_reducible refine wpList_load_lanes ?_ (.tmp 2) ?_ w.heap.size f ?_ ?_ ?_); (exact rfl); (exact rfl); (exact rfl); (exact HB0.out.1))
        | ((with_reducible refine wpList_load_lanes ?_ (.tmp 3) ?_ (w.heap.size + 1) g ?_ ?_ ?_); (exact rfl); (exact rfl); (exact rfl); (exact HB0.out.2.1))
        | ((with_reducible refine wpList_eql_lanes ?_ (.tmp 24) (.tmp 25) ?_ f g true ?_ ?_ HAL.out ?_); (exact rfl); (exact rfl); (exact rfl); (exact rfl)))
      refine wp_named fun a0 ha0 => ?_
      obtain ⟨fr, hfr⟩ : ∃ fr : (Nat → Value) → Act, ∀ V, fr V = ((((((((((((((((((((((((((a0.put (some 27) (V 0)).put (some 28) (V 1)).put (some 29) (V 2)).put (some 30) (V 3)).put (some 31) (V 4)).put (some 32) (V 5)).put (some 33) (V 6)).put (some 34) (V 7)).put (some 35) (V 8)).put (some 36) (V 9)).put (some 37) (V 10)).put (some 38) (V 11)).put (some 39) (V 12)).put (some 40) (V 13)).put (some 41) (V 14)).put (some 42) (V 15)).put (some 43) (V 16)).put (some 44) (V 17)).put (some 45) (V 18)).put (some 46) (V 19)).put (some 47) (V 20)).put (some 48) (V 21)).put (some 49) (V 22)).put (some 50) (V 23)).put (some 51) (V 24)).put (some 4) (V 25)) := ⟨fun V => ((((((((((((((((((((((((((a0.put (some 27) (V 0)).put (some 28) (V 1)).put (some 29) (V 2)).put (some 30) (V 3)).put (some 31) (V 4)).put (some 32) (V 5)).put (some 33) (V 6)).put (some 34) (V 7)).put (some 35) (V 8)).put (some 36) (V 9)).put (some 37) (V 10)).put (some 38) (V 11)).put (some 39) (V 12)).put (some 40) (V 13)).put (some 41) (V 14)).put (some 42) (V 15)).put (some 43) (V 16)).put (some 44) (V 17)).put (some 45) (V 18)).put (some 46) (V 19)).put (some 47) (V 20)).put (some 48) (V 21)).put (some 49) (V 22)).put (some 50) (V 23)).put (some 51) (V 24)).put (some 4) (V 25)), fun _ => rfl⟩
      rw [ha0] at hfr
      simp only [Act.put, List.setIfInBounds_toArray, List.set_cons_zero, List.set_cons_succ] at hfr
      have HFR := Lib.hid hfr
      clear hfr
      refine wp_region_inv (by kernel_rfl) (by kernel_rfl) (fun L A W => ∃ V : Nat → Value, A = fr V ∧ Vals (fun j => ([some (lnv f), some (lnv mf), some (lnv g), some (lnv mg), some (.bool true), some (.bool true), some (.bool true), some (.bool true), some (lnv f), some (lnv rf), some (lnv g), some (lnv rg), some (.bool true), some (.bool true), some (.bool true), some (.bool true), some (.bool true), some (lnv f), some (lnv pf), some (lnv g), some (lnv pg), some (.bool true), some (.bool true), some (.bool true), some (.bool true), some (.bool true)] : List (Option Value)).getD j none) L V ∧ Ln2 w w.heap.size (w.heap.size + 1) f g W) ?_ ⟨?_, ?_, ?_, ?_, ?_, ?_, ?_, ?_, ?_, ?_, ?_, ?_, ?_, ?_, ?_, ?_, ?_, ?_, ?_, ?_, ?_, ?_, ?_, ?_, ?_, ?_, trivial⟩ ?_
      · refine ⟨fun j => a0.tmps.getD (([27, 28, 29, 30, 31, 32, 33, 34, 35, 36, 37, 38, 39, 40, 41, 42, 43, 44, 45, 46, 47, 48, 49, 50, 51, 4] : List Nat).getD j 0) undef, ?_, Vals.no _ _ _ (far_none _ _ rfl), HB0.out.drew⟩
        rw [HFR.out, ha0]
        rfl
      all_goals clear ha0
      · rintro L A W K hL hC hW ⟨V, rfl, HV, hB⟩ hK
        have H := Lib.hid (show ∀ W', Ext W W' → K (fr (upd V 0 (lnv f))) W' from fun W' he => hK _ W' ⟨upd V 0 (lnv f), rfl, HV.up 0 _ (fun x hx => Option.some.inj hx), Ln2.ext hB he⟩)
        clear hK hC hW hL HV
        rw [HFR.out]
        have HLn := Lib.hid hB.1
        clear hB
        go_wp2_with ((with_reducible refine wpList_load_lanes ?_ (.tmp 2) ?_ (w.heap.size) f ?_ ?_ ?_); (exact rfl); (exact rfl); (exact rfl); (exact HLn.out))
        show K _ _
        have := H.out _ (Ext.refl _)
        rw [HFR.out] at this
        exact this
      · rintro L A W K hL hC hW ⟨V, rfl, HV, hB⟩ hK
        have e0 : V 0 = lnv f := HV 0 _ rfl (hW 0 rfl)
        have H := Lib.hid (show ∀ W', Ext W W' → K (fr (upd V 1 (lnv mf))) W' from fun W' he => hK _ W' ⟨upd V 1 (lnv mf), rfl, HV.up 1 _ (fun x hx => Option.some.inj hx), Ln2.ext hB he⟩)
        clear hK hC hW hL HV
        have u0 : (upd V 1 (lnv mf)) 0 = lnv f := e0
        have HU := Lib.hid (show (upd V 1 (lnv mf)) 0 = lnv f from u0)
        clear u0
        rw [HFR.out]
        rw [e0]
        clear e0
        go_wp2_with fail
        refine (HC3.out _ hB.2.2.2).mono ?_
        rintro e wx ⟨rfl, he⟩
        go_wp2_with fail
        show K _ _
        have := H.out _ he
        rw [HFR.out] at this
        obtain u0 := HU.out
        rw [u0] at this
        exact this
      · rintro L A W K hL hC hW ⟨V, rfl, HV, hB⟩ hK
        have H := Lib.hid (show ∀ W', Ext W W' → K (fr (upd V 2 (lnv g))) W' from fun W' he => hK _ W' ⟨upd V 2 (lnv g), rfl, HV.up 2 _ (fun x hx => Option.some.inj hx), Ln2.ext hB he⟩)
        clear hK hC hW hL HV
        rw [HFR.out]
        have HLn := Lib.hid hB.2.1
        clear hB
        go_wp2_with ((with_reducible refine wpList_load_lanes ?_ (.tmp 3) ?_ ((w.heap.size + 1)) g ?_ ?_ ?_); (exact rfl); (exact rfl); (exact rfl); (exact HLn.out))
        show K _ _
        have := H.out _ (Ext.refl _)
        rw [HFR.out] at this
        exact this
      · rintro L A W K hL hC hW ⟨V, rfl, HV, hB⟩ hK
        have e2 : V 2 = lnv g := HV 2 _ rfl (hW 2 rfl)
        have H := Lib.hid (show ∀ W', Ext W W' → K (fr (upd V 3 (lnv mg))) W' from fun W' he => hK _ W' ⟨upd V 3 (lnv mg), rfl, HV.up 3 _ (fun x hx => Option.some.inj hx), Ln2.ext hB he⟩)
        clear hK hC hW hL HV
        have u2 : (upd V 3 (lnv mg)) 2 = lnv g := e2
        have HU := Lib.hid (show (upd V 3 (lnv mg)) 2 = lnv g from u2)
        clear u2
        rw [HFR.out]
        rw [e2]
        clear e2
        go_wp2_with fail
        refine (HC4.out _ hB.2.2.2).mono ?_
        rintro e wx ⟨rfl, he⟩
        go_wp2_with fail
        show K _ _
        have := H.out _ he
        rw [HFR.out] at this
        obtain u2 := HU.out
        rw [u2] at this
        exact this
      · rintro L A W K hL hC hW ⟨V, rfl, HV, hB⟩ hK
        have e1 : V 1 = lnv mf := HV 1 _ rfl (hW 1 rfl)
        have e3 : V 3 = lnv mg := HV 3 _ rfl (hW 3 rfl)
        have H := Lib.hid (show ∀ W', Ext W W' → K (fr (upd V 4 (.bool true))) W' from fun W' he => hK _ W' ⟨upd V 4 (.bool true), rfl, HV.up 4 _ (fun x hx => Option.some.inj hx), Ln2.ext hB he⟩)
        clear hK hC hW hL HV
        have u1 : (upd V 4 (.bool true)) 1 = lnv mf := e1
        have u3 : (upd V 4 (.bool true)) 3 = lnv mg := e3
        have HU := Lib.hid (show (upd V 4 (.bool true)) 1 = lnv mf ∧ (upd V 4 (.bool true)) 3 = lnv mg from ⟨u1, u3⟩)
        clear u1 u3
        rw [HFR.out]
        rw [e1, e3]
        clear e1 e3
        clear hB
        go_wp2_with ((with_reducible refine wpList_eql_lanes ?_ (.tmp 28) (.tmp 30) ?_ mf mg true ?_ ?_ HS1.out ?_); (exact rfl); (exact rfl); (exact rfl); (exact rfl))
        show K _ _
        have := H.out _ (Ext.refl _)
        rw [HFR.out] at this
        obtain ⟨u1, u3⟩ := HU.out
        rw [u1, u3] at this
        exact this
      · rintro L A W K hL hC hW ⟨V, rfl, HV, hB⟩ hK
        have H := Lib.hid (show ∀ W', Ext W W' → K (fr (upd V 5 (.bool true))) W' from fun W' he => hK _ W' ⟨upd V 5 (.bool true), rfl, HV.up 5 _ (fun x hx => Option.some.inj hx), Ln2.ext hB he⟩)
        clear hK hC hW hL HV
        rw [HFR.out]
        clear hB
        go_wp2_with fail
        show K _ _
        have := H.out _ (Ext.refl _)
        rw [HFR.out] at this
        exact this
      · rintro L A W K hL hC hW ⟨V, rfl, HV, hB⟩ hK
        have e4 : V 4 = .bool true := HV 4 _ rfl (hW 4 rfl)
        have e5 : V 5 = .bool true := HV 5 _ rfl (hW 5 rfl)
        have H := Lib.hid (show ∀ W', Ext W W' → K (fr (upd V 6 (.bool true))) W' from fun W' he => hK _ W' ⟨upd V 6 (.bool true), rfl, HV.up 6 _ (fun x hx => Option.some.inj hx), Ln2.ext hB he⟩)
        clear hK hC hW hL HV
        have u4 : (upd V 6 (.bool true)) 4 = .bool true := e4
        have u5 : (upd V 6 (.bool true)) 5 = .bool true := e5
        have HU := Lib.hid (show (upd V 6 (.bool true)) 4 = .bool true ∧ (upd V 6 (.bool true)) 5 = .bool true from ⟨u4, u5⟩)
        clear u4 u5
        rw [HFR.out]
        rw [e4, e5]
        clear e4 e5
        clear hB
        go_wp2_with fail
        show K _ _
        have := H.out _ (Ext.refl _)
        rw [HFR.out] at this
        obtain ⟨u4, u5⟩ := HU.out
        rw [u4, u5] at this
        exact this
      · rintro L A W K hL hC hW ⟨V, rfl, HV, hB⟩ hK
        have e6 : V 6 = .bool true := HV 6 _ rfl (hW 6 rfl)
        have H := Lib.hid (show ∀ W', Ext W W' → K (fr (upd V 7 (.bool true))) W' from fun W' he => hK _ W' ⟨upd V 7 (.bool true), rfl, HV.up 7 _ (fun x hx => Option.some.inj hx), Ln2.ext hB he⟩)
        clear hK hC hW hL HV
        have u6 : (upd V 7 (.bool true)) 6 = .bool true := e6
        have HU := Lib.hid (show (upd V 7 (.bool true)) 6 = .bool true from u6)
        clear u6
        rw [HFR.out]
        rw [e6]
        clear e6
        clear hB
        go_wp2_with fail
        show K _ _
        have := H.out _ (Ext.refl _)
        rw [HFR.out] at this
        obtain u6 := HU.out
        rw [u6] at this
        exact this
      · rintro L A W K hL hC hW ⟨V, rfl, HV, hB⟩ hK
        have e7 : V 7 = .bool true := HV 7 _ rfl (hW 7 rfl)
        have H := Lib.hid (show ∀ W', Ext W W' → K (fr (upd V 8 (lnv f))) W' from fun W' he => hK _ W' ⟨upd V 8 (lnv f), rfl, HV.up 8 _ (fun x hx => Option.some.inj hx), Ln2.ext hB he⟩)
        clear hK hC hW hL HV
        have u7 : (upd V 8 (lnv f)) 7 = .bool true := e7
        have HU := Lib.hid (show (upd V 8 (lnv f)) 7 = .bool true from u7)
        clear u7
        rw [HFR.out]
        rw [e7]
        clear e7
        have HLn := Lib.hid hB.1
        clear hB
        go_wp2_with ((with_reducible refine wpList_load_lanes ?_ (.tmp 2) ?_ (w.heap.size) f ?_ ?_ ?_); (exact rfl); (exact rfl); (exact rfl); (exact HLn.out))
        show K _ _
        have := H.out _ (Ext.refl _)
        rw [HFR.out] at this
        obtain u7 := HU.out
        rw [u7] at this
        exact this
      · rintro L A W K hL hC hW ⟨V, rfl, HV, hB⟩ hK
        have e7 : V 7 = .bool true := HV 7 _ rfl (hW 7 rfl)
        have e8 : V 8 = lnv f := HV 8 _ rfl (hW 8 rfl)
        have H := Lib.hid (show ∀ W', Ext W W' → K (fr (upd V 9 (lnv rf))) W' from fun W' he => hK _ W' ⟨upd V 9 (lnv rf), rfl, HV.up 9 _ (fun x hx => Option.some.inj hx), Ln2.ext hB he⟩)
        clear hK hC hW hL HV
        have u7 : (upd V 9 (lnv rf)) 7 = .bool true := e7
        have u8 : (upd V 9 (lnv rf)) 8 = lnv f := e8
        have HU := Lib.hid (show (upd V 9 (lnv rf)) 7 = .bool true ∧ (upd V 9 (lnv rf)) 8 = lnv f from ⟨u7, u8⟩)
        clear u7 u8
        rw [HFR.out]
        rw [e7, e8]
        clear e7 e8
        go_wp2_with fail
        refine (HR1.out _).mono ?_
        rintro e wx ⟨rfl, he⟩
        go_wp2_with fail
        show K _ _
        have := H.out _ he
        rw [HFR.out] at this
        obtain ⟨u7, u8⟩ := HU.out
        rw [u7, u8] at this
        exact this
      · rintro L A W K hL hC hW ⟨V, rfl, HV, hB⟩ hK
        have e7 : V 7 = .bool true := HV 7 _ rfl (hW 7 rfl)
        have H := Lib.hid (show ∀ W', Ext W W' → K (fr (upd V 10 (lnv g))) W' from fun W' he => hK _ W' ⟨upd V 10 (lnv g), rfl, HV.up 10 _ (fun x hx => Option.some.inj hx), Ln2.ext hB he⟩)
        clear hK hC hW hL HV
        have u7 : (upd V 10 (lnv g)) 7 = .bool true := e7
        have HU := Lib.hid (show (upd V 10 (lnv g)) 7 = .bool true from u7)
        clear u7
        rw [HFR.out]
        rw [e7]
        clear e7
        have HLn := Lib.hid hB.2.1
        clear hB
        go_wp2_with ((with_reducible refine wpList_load_lanes ?_ (.tmp 3) ?_ ((w.heap.size + 1)) g ?_ ?_ ?_); (exact rfl); (exact rfl); (exact rfl); (exact HLn.out))
        show K _ _
        have := H.out _ (Ext.refl _)
        rw [HFR.out] at this
        obtain u7 := HU.out
        rw [u7] at this
        exact this
      · rintro L A W K hL hC hW ⟨V, rfl, HV, hB⟩ hK
        have e7 : V 7 = .bool true := HV 7 _ rfl (hW 7 rfl)
        have e10 : V 10 = lnv g := HV 10 _ rfl (hW 10 rfl)
        have H := Lib.hid (show ∀ W', Ext W W' → K (fr (upd V 11 (lnv rg))) W' from fun W' he => hK _ W' ⟨upd V 11 (lnv rg), rfl, HV.up 11 _ (fun x hx => Option.some.inj hx), Ln2.ext hB he⟩)
        clear hK hC hW hL HV
        have u7 : (upd V 11 (lnv rg)) 7 = .bool true := e7
        have u10 : (upd V 11 (lnv rg)) 10 = lnv g := e10
        have HU := Lib.hid (show (upd V 11 (lnv rg)) 7 = .bool true ∧ (upd V 11 (lnv rg)) 10 = lnv g from ⟨u7, u10⟩)
        clear u7 u10
        rw [HFR.out]
        rw [e7, e10]
        clear e7 e10
        go_wp2_with fail
        refine (HR2.out _).mono ?_
        rintro e wx ⟨rfl, he⟩
        go_wp2_with fail
        show K _ _
        have := H.out _ he
        rw [HFR.out] at this
        obtain ⟨u7, u10⟩ := HU.out
        rw [u7, u10] at this
        exact this
      · rintro L A W K hL hC hW ⟨V, rfl, HV, hB⟩ hK
        have e7 : V 7 = .bool true := HV 7 _ rfl (hW 7 rfl)
        have e9 : V 9 = lnv rf := HV 9 _ rfl (hW 9 rfl)
        have e11 : V 11 = lnv rg := HV 11 _ rfl (hW 11 rfl)
        have H := Lib.hid (show ∀ W', Ext W W' → K (fr (upd V 12 (.bool true))) W' from fun W' he => hK _ W' ⟨upd V 12 (.bool true), rfl, HV.up 12 _ (fun x hx => Option.some.inj hx), Ln2.ext hB he⟩)
        clear hK hC hW hL HV
        have u7 : (upd V 12 (.bool true)) 7 = .bool true := e7
        have u9 : (upd V 12 (.bool true)) 9 = lnv rf := e9
        have u11 : (upd V 12 (.bool true)) 11 = lnv rg := e11
        have HU := Lib.hid (show (upd V 12 (.bool true)) 7 = .bool true ∧ (upd V 12 (.bool true)) 9 = lnv rf ∧ (upd V 12 (.bool true)) 11 = lnv rg from ⟨u7, u9, u11⟩)
        clear u7 u9 u11
        rw [HFR.out]
        rw [e7, e9, e11]
        clear e7 e9 e11
        clear hB
        go_wp2_with ((with_reducible refine wpList_eql_lanes ?_ (.tmp 36) (.tmp 38) ?_ rf rg true ?_ ?_ HS2.out ?_); (exact rfl); (exact rfl); (exact rfl); (exact rfl))
        show K _ _
        have := H.out _ (Ext.refl _)
        rw [HFR.out] at this
        obtain ⟨u7, u9, u11⟩ := HU.out
        rw [u7, u9, u11] at this
        exact this
      · rintro L A W K hL hC hW ⟨V, rfl, HV, hB⟩ hK
        have e7 : V 7 = .bool true := HV 7 _ rfl (hW 7 rfl)
        have H := Lib.hid (show ∀ W', Ext W W' → K (fr (upd V 13 (.bool true))) W' from fun W' he => hK _ W' ⟨upd V 13 (.bool true), rfl, HV.up 13 _ (fun x hx => Option.some.inj hx), Ln2.ext hB he⟩)
        clear hK hC hW hL HV
        have u7 : (upd V 13 (.bool true)) 7 = .bool true := e7
        have HU := Lib.hid (show (upd V 13 (.bool true)) 7 = .bool true from u7)
        clear u7
        rw [HFR.out]
        rw [e7]
        clear e7
        clear hB
        go_wp2_with fail
        show K _ _
        have := H.out _ (Ext.refl _)
        rw [HFR.out] at this
        obtain u7 := HU.out
        rw [u7] at this
        exact this
      · rintro L A W K hL hC hW ⟨V, rfl, HV, hB⟩ hK
        have e7 : V 7 = .bool true := HV 7 _ rfl (hW 7 rfl)
        have e12 : V 12 = .bool true := HV 12 _ rfl (hW 12 rfl)
        have e13 : V 13 = .bool true := HV 13 _ rfl (hW 13 rfl)
        have H := Lib.hid (show ∀ W', Ext W W' → K (fr (upd V 14 (.bool true))) W' from fun W' he => hK _ W' ⟨upd V 14 (.bool true), rfl, HV.up 14 _ (fun x hx => Option.some.inj hx), Ln2.ext hB he⟩)
        clear hK hC hW hL HV
        have u7 : (upd V 14 (.bool true)) 7 = .bool true := e7
        have u12 : (upd V 14 (.bool true)) 12 = .bool true := e12
        have u13 : (upd V 14 (.bool true)) 13 = .bool true := e13
        have HU := Lib.hid (show (upd V 14 (.bool true)) 7 = .bool true ∧ (upd V 14 (.bool true)) 12 = .bool true ∧ (upd V 14 (.bool true)) 13 = .bool true from ⟨u7, u12, u13⟩)
        clear u7 u12 u13
        rw [HFR.out]
        rw [e7, e12, e13]
        clear e7 e12 e13
        clear hB
        go_wp2_with fail
        show K _ _
        have := H.out _ (Ext.refl _)
        rw [HFR.out] at this
        obtain ⟨u7, u12, u13⟩ := HU.out
        rw [u7, u12, u13] at this
        exact this
      · rintro L A W K hL hC hW ⟨V, rfl, HV, hB⟩ hK
        have e7 : V 7 = .bool true := HV 7 _ rfl (hW 7 rfl)
        have e14 : V 14 = .bool true := HV 14 _ rfl (hW 14 rfl)
        have H := Lib.hid (show ∀ W', Ext W W' → K (fr (upd V 15 (.bool true))) W' from fun W' he => hK _ W' ⟨upd V 15 (.bool true), rfl, HV.up 15 _ (fun x hx => Option.some.inj hx), Ln2.ext hB he⟩)
        clear hK hC hW hL HV
        have u7 : (upd V 15 (.bool true)) 7 = .bool true := e7
        have u14 : (upd V 15 (.bool true)) 14 = .bool true := e14
        have HU := Lib.hid (show (upd V 15 (.bool true)) 7 = .bool true ∧ (upd V 15 (.bool true)) 14 = .bool true from ⟨u7, u14⟩)
        clear u7 u14
        rw [HFR.out]
        rw [e7, e14]
        clear e7 e14
        clear hB
        go_wp2_with fail
        show K _ _
        have := H.out _ (Ext.refl _)
        rw [HFR.out] at this
        obtain ⟨u7, u14⟩ := HU.out
        rw [u7, u14] at this
        exact this
      · rintro L A W K hL hC hW ⟨V, rfl, HV, hB⟩ hK
        have e15 : V 15 = .bool true := HV 15 _ rfl (hW 15 rfl)
        have H := Lib.hid (show ∀ W', Ext W W' → K (fr (upd V 16 (.bool true))) W' from fun W' he => hK _ W' ⟨upd V 16 (.bool true), rfl, HV.up 16 _ (fun x hx => Option.some.inj hx), Ln2.ext hB he⟩)
        clear hK hC hW hL HV
        have u15 : (upd V 16 (.bool true)) 15 = .bool true := e15
        have HU := Lib.hid (show (upd V 16 (.bool true)) 15 = .bool true from u15)
        clear u15
        rw [HFR.out]
        rw [e15]
        clear e15
        clear hB
        go_wp2_with fail
        show K _ _
        have := H.out _ (Ext.refl _)
        rw [HFR.out] at this
        obtain u15 := HU.out
        rw [u15] at this
        exact this
      · rintro L A W K hL hC hW ⟨V, rfl, HV, hB⟩ hK
        have e16 : V 16 = .bool true := HV 16 _ rfl (hW 16 rfl)
        have H := Lib.hid (show ∀ W', Ext W W' → K (fr (upd V 17 (lnv f))) W' from fun W' he => hK _ W' ⟨upd V 17 (lnv f), rfl, HV.up 17 _ (fun x hx => Option.some.inj hx), Ln2.ext hB he⟩)
        clear hK hC hW hL HV
        have u16 : (upd V 17 (lnv f)) 16 = .bool true := e16
        have HU := Lib.hid (show (upd V 17 (lnv f)) 16 = .bool true from u16)
        clear u16
        rw [HFR.out]
        rw [e16]
        clear e16
        have HLn := Lib.hid hB.1
        clear hB
        go_wp2_with ((with_reducible refine wpList_load_lanes ?_ (.tmp 2) ?_ (w.heap.size) f ?_ ?_ ?_); (exact rfl); (exact rfl); (exact rfl); (exact HLn.out))
        show K _ _
        have := H.out _ (Ext.refl _)
        rw [HFR.out] at this
        obtain u16 := HU.out
        rw [u16] at this
        exact this
      · rintro L A W K hL hC hW ⟨V, rfl, HV, hB⟩ hK
        have e16 : V 16 = .bool true := HV 16 _ rfl (hW 16 rfl)
        have e17 : V 17 = lnv f := HV 17 _ rfl (hW 17 rfl)
        have H := Lib.hid (show ∀ W', Ext W W' → K (fr (upd V 18 (lnv pf))) W' from fun W' he => hK _ W' ⟨upd V 18 (lnv pf), rfl, HV.up 18 _ (fun x hx => Option.some.inj hx), Ln2.ext hB he⟩)
        clear hK hC hW hL HV
        have u16 : (upd V 18 (lnv pf)) 16 = .bool true := e16
        have u17 : (upd V 18 (lnv pf)) 17 = lnv f := e17
        have HU := Lib.hid (show (upd V 18 (lnv pf)) 16 = .bool true ∧ (upd V 18 (lnv pf)) 17 = lnv f from ⟨u16, u17⟩)
        clear u16 u17
        rw [HFR.out]
        rw [e16, e17]
        clear e16 e17
        go_wp2_with fail
        refine (HP1.out _ hB.2.2.2).mono ?_
        rintro e wx ⟨rfl, he⟩
        go_wp2_with fail
        show K _ _
        have := H.out _ he
        rw [HFR.out] at this
        obtain ⟨u16, u17⟩ := HU.out
        rw [u16, u17] at this
        exact this
      · rintro L A W K hL hC hW ⟨V, rfl, HV, hB⟩ hK
        have e16 : V 16 = .bool true := HV 16 _ rfl (hW 16 rfl)
        have H := Lib.hid (show ∀ W', Ext W W' → K (fr (upd V 19 (lnv g))) W' from fun W' he => hK _ W' ⟨upd V 19 (lnv g), rfl, HV.up 19 _ (fun x hx => Option.some.inj hx), Ln2.ext hB he⟩)
        clear hK hC hW hL HV
        have u16 : (upd V 19 (lnv g)) 16 = .bool true := e16
        have HU := Lib.hid (show (upd V 19 (lnv g)) 16 = .bool true from u16)
        clear u16
        rw [HFR.out]
        rw [e16]
        clear e16
        have HLn := Lib.hid hB.2.1
        clear hB
        go_wp2_with ((with_reducible refine wpList_load_lanes ?_ (.tmp 3) ?_ ((w.heap.size + 1)) g ?_ ?_ ?_); (exact rfl); (exact rfl); (exact rfl); (exact HLn.out))
        show K _ _
        have := H.out _ (Ext.refl _)
        rw [HFR.out] at this
        obtain u16 := HU.out
        rw [u16] at this
        exact this
      · rintro L A W K hL hC hW ⟨V, rfl, HV, hB⟩ hK
        have e16 : V 16 = .bool true := HV 16 _ rfl (hW 16 rfl)
        have e19 : V 19 = lnv g := HV 19 _ rfl (hW 19 rfl)
        have H := Lib.hid (show ∀ W', Ext W W' → K (fr (upd V 20 (lnv pg))) W' from fun W' he => hK _ W' ⟨upd V 20 (lnv pg), rfl, HV.up 20 _ (fun x hx => Option.some.inj hx), Ln2.ext hB he⟩)
        clear hK hC hW hL HV
        have u16 : (upd V 20 (lnv pg)) 16 = .bool true := e16
        have u19 : (upd V 20 (lnv pg)) 19 = lnv g := e19
        have HU := Lib.hid (show (upd V 20 (lnv pg)) 16 = .bool true ∧ (upd V 20 (lnv pg)) 19 = lnv g from ⟨u16, u19⟩)
        clear u16 u19
        rw [HFR.out]
        rw [e16, e19]
        clear e16 e19
        go_wp2_with fail
        refine (HP2.out _ hB.2.2.2).mono ?_
        rintro e wx ⟨rfl, he⟩
        go_wp2_with fail
        show K _ _
        have := H.out _ he
        rw [HFR.out] at this
        obtain ⟨u16, u19⟩ := HU.out
        rw [u16, u19] at this
        exact this
      · rintro L A W K hL hC hW ⟨V, rfl, HV, hB⟩ hK
        have e16 : V 16 = .bool true := HV 16 _ rfl (hW 16 rfl)
        have e18 : V 18 = lnv pf := HV 18 _ rfl (hW 18 rfl)
        have e20 : V 20 = lnv pg := HV 20 _ rfl (hW 20 rfl)
        have H := Lib.hid (show ∀ W', Ext W W' → K (fr (upd V 21 (.bool true))) W' from fun W' he => hK _ W' ⟨upd V 21 (.bool true), rfl, HV.up 21 _ (fun x hx => Option.some.inj hx), Ln2.ext hB he⟩)
        clear hK hC hW hL HV
        have u16 : (upd V 21 (.bool true)) 16 = .bool true := e16
        have u18 : (upd V 21 (.bool true)) 18 = lnv pf := e18
        have u20 : (upd V 21 (.bool true)) 20 = lnv pg := e20
        have HU := Lib.hid (show (upd V 21 (.bool true)) 16 = .bool true ∧ (upd V 21 (.bool true)) 18 = lnv pf ∧ (upd V 21 (.bool true)) 20 = lnv pg from ⟨u16, u18, u20⟩)
        clear u16 u18 u20
        rw [HFR.out]
        rw [e16, e18, e20]
        clear e16 e18 e20
        clear hB
        go_wp2_with ((with_reducible refine wpList_eql_lanes ?_ (.tmp 45) (.tmp 47) ?_ pf pg true ?_ ?_ HS3.out ?_); (exact rfl); (exact rfl); (exact rfl); (exact rfl))
        show K _ _
        have := H.out _ (Ext.refl _)
        rw [HFR.out] at this
        obtain ⟨u16, u18, u20⟩ := HU.out
        rw [u16, u18, u20] at this
        exact this
      · rintro L A W K hL hC hW ⟨V, rfl, HV, hB⟩ hK
        have e16 : V 16 = .bool true := HV 16 _ rfl (hW 16 rfl)
        have H := Lib.hid (show ∀ W', Ext W W' → K (fr (upd V 22 (.bool true))) W' from fun W' he => hK _ W' ⟨upd V 22 (.bool true), rfl, HV.up 22 _ (fun x hx => Option.some.inj hx), Ln2.ext hB he⟩)
        clear hK hC hW hL HV
        have u16 : (upd V 22 (.bool true)) 16 = .bool true := e16
        have HU := Lib.hid (show (upd V 22 (.bool true)) 16 = .bool true from u16)
        clear u16
        rw [HFR.out]
        rw [e16]
        clear e16
        clear hB
        go_wp2_with fail
        show K _ _
        have := H.out _ (Ext.refl _)
        rw [HFR.out] at this
        obtain u16 := HU.out
        rw [u16] at this
        exact this
      · rintro L A W K hL hC hW ⟨V, rfl, HV, hB⟩ hK
        have e16 : V 16 = .bool true := HV 16 _ rfl (hW 16 rfl)
        have e21 : V 21 = .bool true := HV 21 _ rfl (hW 21 rfl)
        have e22 : V 22 = .bool true := HV 22 _ rfl (hW 22 rfl)
        have H := Lib.hid (show ∀ W', Ext W W' → K (fr (upd V 23 (.bool true))) W' from fun W' he => hK _ W' ⟨upd V 23 (.bool true), rfl, HV.up 23 _ (fun x hx => Option.some.inj hx), Ln2.ext hB he⟩)
        clear hK hC hW hL HV
        have u16 : (upd V 23 (.bool true)) 16 = .bool true := e16
        have u21 : (upd V 23 (.bool true)) 21 = .bool true := e21
        have u22 : (upd V 23 (.bool true)) 22 = .bool true := e22
        have HU := Lib.hid (show (upd V 23 (.bool true)) 16 = .bool true ∧ (upd V 23 (.bool true)) 21 = .bool true ∧ (upd V 23 (.bool true)) 22 = .bool true from ⟨u16, u21, u22⟩)
        clear u16 u21 u22
        rw [HFR.out]
        rw [e16, e21, e22]
        clear e16 e21 e22
        clear hB
        go_wp2_with fail
        show K _ _
        have := H.out _ (Ext.refl _)
        rw [HFR.out] at this
        obtain ⟨u16, u21, u22⟩ := HU.out
        rw [u16, u21, u22] at this
        exact this
      · rintro L A W K hL hC hW ⟨V, rfl, HV, hB⟩ hK
        have e16 : V 16 = .bool true := HV 16 _ rfl (hW 16 rfl)
        have e23 : V 23 = .bool true := HV 23 _ rfl (hW 23 rfl)
        have H := Lib.hid (show ∀ W', Ext W W' → K (fr (upd V 24 (.bool true))) W' from fun W' he => hK _ W' ⟨upd V 24 (.bool true), rfl, HV.up 24 _ (fun x hx => Option.some.inj hx), Ln2.ext hB he⟩)
        clear hK hC hW hL HV
        have u16 : (upd V 24 (.bool true)) 16 = .bool true := e16
        have u23 : (upd V 24 (.bool true)) 23 = .bool true := e23
        have HU := Lib.hid (show (upd V 24 (.bool true)) 16 = .bool true ∧ (upd V 24 (.bool true)) 23 = .bool true from ⟨u16, u23⟩)
        clear u16 u23
        rw [HFR.out]
        rw [e16, e23]
        clear e16 e23
        clear hB
        go_wp2_with fail
        show K _ _
        have := H.out _ (Ext.refl _)
        rw [HFR.out] at this
        obtain ⟨u16, u23⟩ := HU.out
        rw [u16, u23] at this
        exact this
      · rintro L A W K hL hC hW ⟨V, rfl, HV, hB⟩ hK
        have e24 : V 24 = .bool true := HV 24 _ rfl (hW 24 rfl)
        have H := Lib.hid (show ∀ W', Ext W W' → K (fr (upd V 25 (.bool true))) W' from fun W' he => hK _ W' ⟨upd V 25 (.bool true), rfl, HV.up 25 _ (fun x hx => Option.some.inj hx), Ln2.ext hB he⟩)
        clear hK hC hW hL HV
        have u24 : (upd V 25 (.bool true)) 24 = .bool true := e24
        have HU := Lib.hid (show (upd V 25 (.bool true)) 24 = .bool true from u24)
        clear u24
        rw [HFR.out]
        rw [e24]
        clear e24
        clear hB
        go_wp2_with fail
        show K _ _
        have := H.out _ (Ext.refl _)
        rw [HFR.out] at this
        obtain u24 := HU.out
        rw [u24] at this
        exact this
      · rintro L A W hL ⟨V, rfl, HV, hB⟩
        have e0 : V 0 = lnv f := HV 0 _ rfl (hL 0 (by simp))
        have e1 : V 1 = lnv mf := HV 1 _ rfl (hL 1 (by simp))
        have e2 : V 2 = lnv g := HV 2 _ rfl (hL 2 (by simp))
        have e3 : V 3 = lnv mg := HV 3 _ rfl (hL 3 (by simp))
        have e4 : V 4 = .bool true := HV 4 _ rfl (hL 4 (by simp))
        have e5 : V 5 = .bool true := HV 5 _ rfl (hL 5 (by simp))
        have e6 : V 6 = .bool true := HV 6 _ rfl (hL 6 (by simp))
        have e7 : V 7 = .bool true := HV 7 _ rfl (hL 7 (by simp))
        have e8 : V 8 = lnv f := HV 8 _ rfl (hL 8 (by simp))
        have e9 : V 9 = lnv rf := HV 9 _ rfl (hL 9 (by simp))
        have e10 : V 10 = lnv g := HV 10 _ rfl (hL 10 (by simp))
        have e11 : V 11 = lnv rg := HV 11 _ rfl (hL 11 (by simp))
        have e12 : V 12 = .bool true := HV 12 _ rfl (hL 12 (by simp))
        have e13 : V 13 = .bool true := HV 13 _ rfl (hL 13 (by simp))
        have e14 : V 14 = .bool true := HV 14 _ rfl (hL 14 (by simp))
        have e15 : V 15 = .bool true := HV 15 _ rfl (hL 15 (by simp))
        have e16 : V 16 = .bool true := HV 16 _ rfl (hL 16 (by simp))
        have e17 : V 17 = lnv f := HV 17 _ rfl (hL 17 (by simp))
        have e18 : V 18 = lnv pf := HV 18 _ rfl (hL 18 (by simp))
        have e19 : V 19 = lnv g := HV 19 _ rfl (hL 19 (by simp))
        have e20 : V 20 = lnv pg := HV 20 _ rfl (hL 20 (by simp))
        have e21 : V 21 = .bool true := HV 21 _ rfl (hL 21 (by simp))
        have e22 : V 22 = .bool true := HV 22 _ rfl (hL 22 (by simp))
        have e23 : V 23 = .bool true := HV 23 _ rfl (hL 23 (by simp))
        have e24 : V 24 = .bool true := HV 24 _ rfl (hL 24 (by simp))
        have e25 : V 25 = .bool true := HV 25 _ rfl (hL 25 (by simp))
        rw [HFR.out]
        rw [e0, e1, e2, e3, e4, e5, e6, e7, e8, e9, e10, e11, e12, e13, e14, e15, e16, e17, e18, e19, e20, e21, e22, e23, e24, e25]
        clear hL HV HFR e0 e1 e2 e3 e4 e5 e6 e7 e8 e9 e10 e11 e12 e13 e14 e15 e16 e17 e18 e19 e20 e21 e22 e23 e24 e25
        go_wp2_with fail
        go_ret
        exact ⟨rfl, hB.2.2.1⟩
    | false =>
      go_upto_region 6 with (first
        | ((with_reducible refine wpList_load_lanes ?_ (.tmp 2) ?_ w.heap.size f ?_ ?_ ?_); (exact rfl); (exact rfl); (exact rfl); (exact HB0.out.1))
        | ((with_reducible refine wpList_load_lanes ?_ (.tmp 3) ?_ (w.heap.size + 1) g ?_ ?_ ?_); (exact rfl); (exact rfl); (exact rfl); (exact HB0.out.2.1))
        | ((with_reducible refine wpList_eql_lanes ?_ (.tmp 24) (.tmp 25) ?_ f g false ?_ ?_ HAL.out ?_); (exact rfl); (exact rfl); (exact rfl); (exact rfl)))
      refine wp_named fun a0 ha0 => ?_
      obtain ⟨fr, hfr⟩ : ∃ fr : (Nat → Value) → Act, ∀ V, fr V = ((((((((((((((((((((((((((a0.put (some 27) (V 0)).put (some 28) (V 1)).put (some 29) (V 2)).put (some 30) (V 3)).put (some 31) (V 4)).put (some 32) (V 5)).put (some 33) (V 6)).put (some 34) (V 7)).put (some 35) (V 8)).put (some 36) (V 9)).put (some 37) (V 10)).put (some 38) (V 11)).put (some 39) (V 12)).put (some 40) (V 13)).put (some 41) (V 14)).put (some 42) (V 15)).put (some 43) (V 16)).put (some 44) (V 17)).put (some 45) (V 18)).put (some 46) (V 19)).put (some 47) (V 20)).put (some 48) (V 21)).put (some 49) (V 22)).put (some 50) (V 23)).put (some 51) (V 24)).put (some 4) (V 25)) := ⟨fun V => ((((((((((((((((((((((((((a0.put (some 27) (V 0)).put (some 28) (V 1)).put (some 29) (V 2)).put (some 30) (V 3)).put (some 31) (V 4)).put (some 32) (V 5)).put (some 33) (V 6)).put (some 34) (V 7)).put (some 35) (V 8)).put (some 36) (V 9)).put (some 37) (V 10)).put (some 38) (V 11)).put (some 39) (V 12)).put (some 40) (V 13)).put (some 41) (V 14)).put (some 42) (V 15)).put (some 43) (V 16)).put (some 44) (V 17)).put (some 45) (V 18)).put (some 46) (V 19)).put (some 47) (V 20)).put (some 48) (V 21)).put (some 49) (V 22)).put (some 50) (V 23)).put (some 51) (V 24)).put (some 4) (V 25)), fun _ => rfl⟩
      rw [ha0] at hfr
      simp only [Act.put, List.setIfInBounds_toArray, List.set_cons_zero, List.set_cons_succ] at hfr
      have HFR := Lib.hid hfr
      clear hfr
      refine wp_region_inv (by kernel_rfl) (by kernel_rfl) (fun L A W => ∃ V : Nat → Value, A = fr V ∧ Vals (fun j => ([some (lnv f), some (lnv mf), some (lnv g), some (lnv mg), some (.bool false), some (.bool false), some (.bool true), some (.bool true), some (lnv f), some (lnv rf), some (lnv g), some (lnv rg), some (.bool false), some (.bool false), some (.bool true), some (.bool true), some (.bool true), some (lnv f), some (lnv pf), some (lnv g), some (lnv pg), some (.bool false), some (.bool false), some (.bool true), some (.bool true), some (.bool true)] : List (Option Value)).getD j none) L V ∧ Ln2 w w.heap.size (w.heap.size + 1) f g W) ?_ ⟨?_, ?_, ?_, ?_, ?_, ?_, ?_, ?_, ?_, ?_, ?_, ?_, ?_, ?_, ?_, ?_, ?_, ?_, ?_, ?_, ?_, ?_, ?_, ?_, ?_, ?_, trivial⟩ ?_
      · refine ⟨fun j => a0.tmps.getD (([27, 28, 29, 30, 31, 32, 33, 34, 35, 36, 37, 38, 39, 40, 41, 42, 43, 44, 45, 46, 47, 48, 49, 50, 51, 4] : List Nat).getD j 0) undef, ?_, Vals.no _ _ _ (far_none _ _ rfl), HB0.out.drew⟩
        rw [HFR.out, ha0]
        rfl
      all_goals clear ha0
      · rintro L A W K hL hC hW ⟨V, rfl, HV, hB⟩ hK
        have H := Lib.hid (show ∀ W', Ext W W' → K (fr (upd V 0 (lnv f))) W' from fun W' he => hK _ W' ⟨upd V 0 (lnv f), rfl, HV.up 0 _ (fun x hx => Option.some.inj hx), Ln2.ext hB he⟩)
        clear hK hC hW hL HV
        rw [HFR.out]
        have HLn := Lib.hid hB.1
        clear hB
        go_wp2_with ((with_reducible refine wpList_load_lanes ?_ (.tmp 2) ?_ (w.heap.size) f ?_ ?_ ?_); (exact rfl); (exact rfl); (exact rfl); (exact HLn.out))
        show K _ _
        have := H.out _ (Ext.refl _)
        rw [HFR.out] at this
        exact this
      · rintro L A W K hL hC hW ⟨V, rfl, HV, hB⟩ hK
        have e0 : V 0 = lnv f := HV 0 _ rfl (hW 0 rfl)
        have H := Lib.hid (show ∀ W', Ext W W' → K (fr (upd V 1 (lnv mf))) W' from fun W' he => hK _ W' ⟨upd V 1 (lnv mf), rfl, HV.up 1 _ (fun x hx => Option.some.inj hx), Ln2.ext hB he⟩)
        clear hK hC hW hL HV
        have u0 : (upd V 1 (lnv mf)) 0 = lnv f := e0
        have HU := Lib.hid (show (upd V 1 (lnv mf)) 0 = lnv f from u0)
        clear u0
        rw [HFR.out]
        rw [e0]
        clear e0
        go_wp2_with fail
        refine (HC3.out _ hB.2.2.2).mono ?_
        rintro e wx ⟨rfl, he⟩
        go_wp2_with fail
        show K _ _
        have := H.out _ he
        rw [HFR.out] at this
        obtain u0 := HU.out
        rw [u0] at this
        exact this
      · rintro L A W K hL hC hW ⟨V, rfl, HV, hB⟩ hK
        have H := Lib.hid (show ∀ W', Ext W W' → K (fr (upd V 2 (lnv g))) W' from fun W' he => hK _ W' ⟨upd V 2 (lnv g), rfl, HV.up 2 _ (fun x hx => Option.some.inj hx), Ln2.ext hB he⟩)
        clear hK hC hW hL HV
        rw [HFR.out]
        have HLn := Lib.hid hB.2.1
        clear hB
        go_wp2_with ((with_reducible refine wpList_load_lanes ?_ (.tmp 3) ?_ ((w.heap.size + 1)) g ?_ ?_ ?_); (exact rfl); (exact rfl); (exact rfl); (exact HLn.out))
        show K _ _
        have := H.out _ (Ext.refl _)
        rw [HFR.out] at this
        exact this
      · rintro L A W K hL hC hW ⟨V, rfl, HV, hB⟩ hK
        have e2 : V 2 = lnv g := HV 2 _ rfl (hW 2 rfl)
        have H := Lib.hid (show ∀ W', Ext W W' → K (fr (upd V 3 (lnv mg))) W' from fun W' he => hK _ W' ⟨upd V 3 (lnv mg), rfl, HV.up 3 _ (fun x hx => Option.some.inj hx), Ln2.ext hB he⟩)
        clear hK hC hW hL HV
        have u2 : (upd V 3 (lnv mg)) 2 = lnv g := e2
        have HU := Lib.hid (show (upd V 3 (lnv mg)) 2 = lnv g from u2)
        clear u2
        rw [HFR.out]
        rw [e2]
        clear e2
        go_wp2_with fail
        refine (HC4.out _ hB.2.2.2).mono ?_
        rintro e wx ⟨rfl, he⟩
        go_wp2_with fail
        show K _ _
        have := H.out _ he
        rw [HFR.out] at this
        obtain u2 := HU.out
        rw [u2] at this
        exact this
      · rintro L A W K hL hC hW ⟨V, rfl, HV, hB⟩ hK
        have e1 : V 1 = lnv mf := HV 1 _ rfl (hW 1 rfl)
        have e3 : V 3 = lnv mg := HV 3 _ rfl (hW 3 rfl)
        have H := Lib.hid (show ∀ W', Ext W W' → K (fr (upd V 4 (.bool false))) W' from fun W' he => hK _ W' ⟨upd V 4 (.bool false), rfl, HV.up 4 _ (fun x hx => Option.some.inj hx), Ln2.ext hB he⟩)
        clear hK hC hW hL HV
        have u1 : (upd V 4 (.bool false)) 1 = lnv mf := e1
        have u3 : (upd V 4 (.bool false)) 3 = lnv mg := e3
        have HU := Lib.hid (show (upd V 4 (.bool false)) 1 = lnv mf ∧ (upd V 4 (.bool false)) 3 = lnv mg from ⟨u1, u3⟩)
        clear u1 u3
        rw [HFR.out]
        rw [e1, e3]
        clear e1 e3
        clear hB
        go_wp2_with ((with_reducible refine wpList_eql_lanes ?_ (.tmp 28) (.tmp 30) ?_ mf mg false ?_ ?_ HS1.out ?_); (exact rfl); (exact rfl); (exact rfl); (exact rfl))
        show K _ _
        have := H.out _ (Ext.refl _)
        rw [HFR.out] at this
        obtain ⟨u1, u3⟩ := HU.out
        rw [u1, u3] at this
        exact this
      · rintro L A W K hL hC hW ⟨V, rfl, HV, hB⟩ hK
        have H := Lib.hid (show ∀ W', Ext W W' → K (fr (upd V 5 (.bool false))) W' from fun W' he => hK _ W' ⟨upd V 5 (.bool false), rfl, HV.up 5 _ (fun x hx => Option.some.inj hx), Ln2.ext hB he⟩)
        clear hK hC hW hL HV
        rw [HFR.out]
        clear hB
        go_wp2_with fail
        show K _ _
        have := H.out _ (Ext.refl _)
        rw [HFR.out] at this
        exact this
      · rintro L A W K hL hC hW ⟨V, rfl, HV, hB⟩ hK
        have e4 : V 4 = .bool false := HV 4 _ rfl (hW 4 rfl)
        have e5 : V 5 = .bool false := HV 5 _ rfl (hW 5 rfl)
        have H := Lib.hid (show ∀ W', Ext W W' → K (fr (upd V 6 (.bool true))) W' from fun W' he => hK _ W' ⟨upd V 6 (.bool true), rfl, HV.up 6 _ (fun x hx => Option.some.inj hx), Ln2.ext hB he⟩)
        clear hK hC hW hL HV
        have u4 : (upd V 6 (.bool true)) 4 = .bool false := e4
        have u5 : (upd V 6 (.bool true)) 5 = .bool false := e5
        have HU := Lib.hid (show (upd V 6 (.bool true)) 4 = .bool false ∧ (upd V 6 (.bool true)) 5 = .bool false from ⟨u4, u5⟩)
        clear u4 u5
        rw [HFR.out]
        rw [e4, e5]
        clear e4 e5
        clear hB
        go_wp2_with fail
        show K _ _
        have := H.out _ (Ext.refl _)
        rw [HFR.out] at this
        obtain ⟨u4, u5⟩ := HU.out
        rw [u4, u5] at this
        exact this
      · rintro L A W K hL hC hW ⟨V, rfl, HV, hB⟩ hK
        have e6 : V 6 = .bool true := HV 6 _ rfl (hW 6 rfl)
        have H := Lib.hid (show ∀ W', Ext W W' → K (fr (upd V 7 (.bool true))) W' from fun W' he => hK _ W' ⟨upd V 7 (.bool true), rfl, HV.up 7 _ (fun x hx => Option.some.inj hx), Ln2.ext hB he⟩)
        clear hK hC hW hL HV
        have u6 : (upd V 7 (.bool true)) 6 = .bool true := e6
        have HU := Lib.hid (show (upd V 7 (.bool true)) 6 = .bool true from u6)
        clear u6
        rw [HFR.out]
        rw [e6]
        clear e6
        clear hB
        go_wp2_with fail
        show K _ _
        have := H.out _ (Ext.refl _)
        rw [HFR.out] at this
        obtain u6 := HU.out
        rw [u6] at this
        exact this
      · rintro L A W K hL hC hW ⟨V, rfl, HV, hB⟩ hK
        have e7 : V 7 = .bool true := HV 7 _ rfl (hW 7 rfl)
        have H := Lib.hid (show ∀ W', Ext W W' → K (fr (upd V 8 (lnv f))) W' from fun W' he => hK _ W' ⟨upd V 8 (lnv f), rfl, HV.up 8 _ (fun x hx => Option.some.inj hx), Ln2.ext hB he⟩)
        clear hK hC hW hL HV
        have u7 : (upd V 8 (lnv f)) 7 = .bool true := e7
        have HU := Lib.hid (show (upd V 8 (lnv f)) 7 = .bool true from u7)
        clear u7
        rw [HFR.out]
        rw [e7]
        clear e7
        have HLn := Lib.hid hB.1
        clear hB
        go_wp2_with ((with_reducible refine wpList_load_lanes ?_ (.tmp 2) ?_ (w.heap.size) f ?_ ?_ ?_); (exact rfl); (exact rfl); (exact rfl); (exact HLn.out))
        show K _ _
        have := H.out _ (Ext.refl _)
        rw [HFR.out] at this
        obtain u7 := HU.out
        rw [u7] at this
        exact this
      · rintro L A W K hL hC hW ⟨V, rfl, HV, hB⟩ hK
        have e7 : V 7 = .bool true := HV 7 _ rfl (hW 7 rfl)
        have e8 : V 8 = lnv f := HV 8 _ rfl (hW 8 rfl)
        have H := Lib.hid (show ∀ W', Ext W W' → K (fr (upd V 9 (lnv rf))) W' from fun W' he => hK _ W' ⟨upd V 9 (lnv rf), rfl, HV.up 9 _ (fun x hx => Option.some.inj hx), Ln2.ext hB he⟩)
        clear hK hC hW hL HV
        have u7 : (upd V 9 (lnv rf)) 7 = .bool true := e7
        have u8 : (upd V 9 (lnv rf)) 8 = lnv f := e8
        have HU := Lib.hid (show (upd V 9 (lnv rf)) 7 = .bool true ∧ (upd V 9 (lnv rf)) 8 = lnv f from ⟨u7, u8⟩)
        clear u7 u8
        rw [HFR.out]
        rw [e7, e8]
        clear e7 e8
        go_wp2_with fail
        refine (HR1.out _).mono ?_
        rintro e wx ⟨rfl, he⟩
        go_wp2_with fail
        show K _ _
        have := H.out _ he
        rw [HFR.out] at this
        obtain ⟨u7, u8⟩ := HU.out
        rw [u7, u8] at this
        exact this
      · rintro L A W K hL hC hW ⟨V, rfl, HV, hB⟩ hK
        have e7 : V 7 = .bool true := HV 7 _ rfl (hW 7 rfl)
        have H := Lib.hid (show ∀ W', Ext W W' → K (fr (upd V 10 (lnv g))) W' from fun W' he => hK _ W' ⟨upd V 10 (lnv g), rfl, HV.up 10 _ (fun x hx => Option.some.inj hx), Ln2.ext hB he⟩)
        clear hK hC hW hL HV
        have u7 : (upd V 10 (lnv g)) 7 = .bool true := e7
        have HU := Lib.hid (show (upd V 10 (lnv g)) 7 = .bool true from u7)
        clear u7
        rw [HFR.out]
        rw [e7]
        clear e7
        have HLn := Lib.hid hB.2.1
        clear hB
        go_wp2_with ((with_reducible refine wpList_load_lanes ?_ (.tmp 3) ?_ ((w.heap.size + 1)) g ?_ ?_ ?_); (exact rfl); (exact rfl); (exact rfl); (exact HLn.out))
        show K _ _
        have := H.out _ (Ext.refl _)
        rw [HFR.out] at this
        obtain u7 := HU.out
        rw [u7] at this
        exact this
      · rintro L A W K hL hC hW ⟨V, rfl, HV, hB⟩ hK
        have e7 : V 7 = .bool true := HV 7 _ rfl (hW 7 rfl)
        have e10 : V 10 = lnv g := HV 10 _ rfl (hW 10 rfl)
        have H := Lib.hid (show ∀ W', Ext W W' → K (fr (upd V 11 (lnv rg))) W' from fun W' he => hK _ W' ⟨upd V 11 (lnv rg), rfl, HV.up 11 _ (fun x hx => Option.some.inj hx), Ln2.ext hB he⟩)
        clear hK hC hW hL HV
        have u7 : (upd V 11 (lnv rg)) 7 = .bool true := e7
        have u10 : (upd V 11 (lnv rg)) 10 = lnv g := e10
        have HU := Lib.hid (show (upd V 11 (lnv rg)) 7 = .bool true ∧ (upd V 11 (lnv rg)) 10 = lnv g from ⟨u7, u10⟩)
        clear u7 u10
        rw [HFR.out]
        rw [e7, e10]
        clear e7 e10
        go_wp2_with fail
        refine (HR2.out _).mono ?_
        rintro e wx ⟨rfl, he⟩
        go_wp2_with fail
        show K _ _
        have := H.out _ he
        rw [HFR.out] at this
        obtain ⟨u7, u10⟩ := HU.out
        rw [u7, u10] at this
        exact this
      · rintro L A W K hL hC hW ⟨V, rfl, HV, hB⟩ hK
        have e7 : V 7 = .bool true := HV 7 _ rfl (hW 7 rfl)
        have e9 : V 9 = lnv rf := HV 9 _ rfl (hW 9 rfl)
        have e11 : V 11 = lnv rg := HV 11 _ rfl (hW 11 rfl)
        have H := Lib.hid (show ∀ W', Ext W W' → K (fr (upd V 12 (.bool false))) W' from fun W' he => hK _ W' ⟨upd V 12 (.bool false), rfl, HV.up 12 _ (fun x hx => Option.some.inj hx), Ln2.ext hB he⟩)
        clear hK hC hW hL HV
        have u7 : (upd V 12 (.bool false)) 7 = .bool true := e7
        have u9 : (upd V 12 (.bool false)) 9 = lnv rf := e9
        have u11 : (upd V 12 (.bool false)) 11 = lnv rg := e11
        have HU := Lib.hid (show (upd V 12 (.bool false)) 7 = .bool true ∧ (upd V 12 (.bool false)) 9 = lnv rf ∧ (upd V 12 (.bool false)) 11 = lnv rg from ⟨u7, u9, u11⟩)
        clear u7 u9 u11
        rw [HFR.out]
        rw [e7, e9, e11]
        clear e7 e9 e11
        clear hB
        go_wp2_with ((with_reducible refine wpList_eql_lanes ?_ (.tmp 36) (.tmp 38) ?_ rf rg false ?_ ?_ HS2.out ?_); (exact rfl); (exact rfl); (exact rfl); (exact rfl))
        show K _ _
        have := H.out _ (Ext.refl _)
        rw [HFR.out] at this
        obtain ⟨u7, u9, u11⟩ := HU.out
        rw [u7, u9, u11] at this
        exact this
      · rintro L A W K hL hC hW ⟨V, rfl, HV, hB⟩ hK
        have e7 : V 7 = .bool true := HV 7 _ rfl (hW 7 rfl)
        have H := Lib.hid (show ∀ W', Ext W W' → K (fr (upd V 13 (.bool false))) W' from fun W' he => hK _ W' ⟨upd V 13 (.bool false), rfl, HV.up 13 _ (fun x hx => Option.some.inj hx), Ln2.ext hB he⟩)
        clear hK hC hW hL HV
        have u7 : (upd V 13 (.bool false)) 7 = .bool true := e7
        have HU := Lib.hid (show (upd V 13 (.bool false)) 7 = .bool true from u7)
        clear u7
        rw [HFR.out]
        rw [e7]
        clear e7
        clear hB
        go_wp2_with fail
        show K _ _
        have := H.out _ (Ext.refl _)
        rw [HFR.out] at this
        obtain u7 := HU.out
        rw [u7] at this
        exact this
      · rintro L A W K hL hC hW ⟨V, rfl, HV, hB⟩ hK
        have e7 : V 7 = .bool true := HV 7 _ rfl (hW 7 rfl)
        have e12 : V 12 = .bool false := HV 12 _ rfl (hW 12 rfl)
        have e13 : V 13 = .bool false := HV 13 _ rfl (hW 13 rfl)
        have H := Lib.hid (show ∀ W', Ext W W' → K (fr (upd V 14 (.bool true))) W' from fun W' he => hK _ W' ⟨upd V 14 (.bool true), rfl, HV.up 14 _ (fun x hx => Option.some.inj hx), Ln2.ext hB he⟩)
        clear hK hC hW hL HV
        have u7 : (upd V 14 (.bool true)) 7 = .bool true := e7
        have u12 : (upd V 14 (.bool true)) 12 = .bool false := e12
        have u13 : (upd V 14 (.bool true)) 13 = .bool false := e13
        have HU := Lib.hid (show (upd V 14 (.bool true)) 7 = .bool true ∧ (upd V 14 (.bool true)) 12 = .bool false ∧ (upd V 14 (.bool true)) 13 = .bool false from ⟨u7, u12, u13⟩)
        clear u7 u12 u13
        rw [HFR.out]
        rw [e7, e12, e13]
        clear e7 e12 e13
        clear hB
        go_wp2_with fail
        show K _ _
        have := H.out _ (Ext.refl _)
        rw [HFR.out] at this
        obtain ⟨u7, u12, u13⟩ := HU.out
        rw [u7, u12, u13] at this
        exact this
      · rintro L A W K hL hC hW ⟨V, rfl, HV, hB⟩ hK
        have e7 : V 7 = .bool true := HV 7 _ rfl (hW 7 rfl)
        have e14 : V 14 = .bool true := HV 14 _ rfl (hW 14 rfl)
        have H := Lib.hid (show ∀ W', Ext W W' → K (fr (upd V 15 (.bool true))) W' from fun W' he => hK _ W' ⟨upd V 15 (.bool true), rfl, HV.up 15 _ (fun x hx => Option.some.inj hx), Ln2.ext hB he⟩)
        clear hK hC hW hL HV
        have u7 : (upd V 15 (.bool true)) 7 = .bool true := e7
        have u14 : (upd V 15 (.bool true)) 14 = .bool true := e14
        have HU := Lib.hid (show (upd V 15 (.bool true)) 7 = .bool true ∧ (upd V 15 (.bool true)) 14 = .bool true from ⟨u7, u14⟩)
        clear u7 u14
        rw [HFR.out]
        rw [e7, e14]
        clear e7 e14
        clear hB
        go_wp2_with fail
        show K _ _
        have := H.out _ (Ext.refl _)
        rw [HFR.out] at this
        obtain ⟨u7, u14⟩ := HU.out
        rw [u7, u14] at this
        exact this
      · rintro L A W K hL hC hW ⟨V, rfl, HV, hB⟩ hK
        have e15 : V 15 = .bool true := HV 15 _ rfl (hW 15 rfl)
        have H := Lib.hid (show ∀ W', Ext W W' → K (fr (upd V 16 (.bool true))) W' from fun W' he => hK _ W' ⟨upd V 16 (.bool true), rfl, HV.up 16 _ (fun x hx => Option.some.inj hx), Ln2.ext hB he⟩)
        clear hK hC hW hL HV
        have u15 : (upd V 16 (.bool true)) 15 = .bool true := e15
        have HU := Lib.hid (show (upd V 16 (.bool true)) 15 = .bool true from u15)
        clear u15
        rw [HFR.out]
        rw [e15]
        clear e15
        clear hB
        go_wp2_with fail
        show K _ _
        have := H.out _ (Ext.refl _)
        rw [HFR.out] at this
        obtain u15 := HU.out
        rw [u15] at this
        exact this
      · rintro L A W K hL hC hW ⟨V, rfl, HV, hB⟩ hK
        have e16 : V 16 = .bool true := HV 16 _ rfl (hW 16 rfl)
        have H := Lib.hid (show ∀ W', Ext W W' → K (fr (upd V 17 (lnv f))) W' from fun W' he => hK _ W' ⟨upd V 17 (lnv f), rfl, HV.up 17 _ (fun x hx => Option.some.inj hx), Ln2.ext hB he⟩)
        clear hK hC hW hL HV
        have u16 : (upd V 17 (lnv f)) 16 = .bool true := e16
        have HU := Lib.hid (show (upd V 17 (lnv f)) 16 = .bool true from u16)
        clear u16
        rw [HFR.out]
        rw [e16]
        clear e16
        have HLn := Lib.hid hB.1
        clear hB
        go_wp2_with ((with_reducible refine wpList_load_lanes ?_ (.tmp 2) ?_ (w.heap.size) f ?_ ?_ ?_); (exact rfl); (exact rfl); (exact rfl); (exact HLn.out))
        show K _ _
        have := H.out _ (Ext.refl _)
        rw [HFR.out] at this
        obtain u16 := HU.out
        rw [u16] at this
        exact this
      · rintro L A W K hL hC hW ⟨V, rfl, HV, hB⟩ hK
        have e16 : V 16 = .bool true := HV 16 _ rfl (hW 16 rfl)
        have e17 : V 17 = lnv f := HV 17 _ rfl (hW 17 rfl)
        have H := Lib.hid (show ∀ W', Ext W W' → K (fr (upd V 18 (lnv pf))) W' from fun W' he => hK _ W' ⟨upd V 18 (lnv pf), rfl, HV.up 18 _ (fun x hx => Option.some.inj hx), Ln2.ext hB he⟩)
        clear hK hC hW hL HV
        have u16 : (upd V 18 (lnv pf)) 16 = .bool true := e16
        have u17 : (upd V 18 (lnv pf)) 17 = lnv f := e17
        have HU := Lib.hid (show (upd V 18 (lnv pf)) 16 = .bool true ∧ (upd V 18 (lnv pf)) 17 = lnv f from ⟨u16, u17⟩)
        clear u16 u17
        rw [HFR.out]
        rw [e16, e17]
        clear e16 e17
        go_wp2_with fail
        refine (HP1.out _ hB.2.2.2).mono ?_
        rintro e wx ⟨rfl, he⟩
        go_wp2_with fail
        show K _ _
        have := H.out _ he
        rw [HFR.out] at this
        obtain ⟨u16, u17⟩ := HU.out
        rw [u16, u17] at this
        exact this
      · rintro L A W K hL hC hW ⟨V, rfl, HV, hB⟩ hK
        have e16 : V 16 = .bool true := HV 16 _ rfl (hW 16 rfl)
        have H := Lib.hid (show ∀ W', Ext W W' → K (fr (upd V 19 (lnv g))) W' from fun W' he => hK _ W' ⟨upd V 19 (lnv g), rfl, HV.up 19 _ (fun x hx => Option.some.inj hx), Ln2.ext hB he⟩)
        clear hK hC hW hL HV
        have u16 : (upd V 19 (lnv g)) 16 = .bool true := e16
        have HU := Lib.hid (show (upd V 19 (lnv g)) 16 = .bool true from u16)
        clear u16
        rw [HFR.out]
        rw [e16]
        clear e16
        have HLn := Lib.hid hB.2.1
        clear hB
        go_wp2_with ((with_reducible refine wpList_load_lanes ?_ (.tmp 3) ?_ ((w.heap.size + 1)) g ?_ ?_ ?_); (exact rfl); (exact rfl); (exact rfl); (exact HLn.out))
        show K _ _
        have := H.out _ (Ext.refl _)
        rw [HFR.out] at this
        obtain u16 := HU.out
        rw [u16] at this
        exact this
      · rintro L A W K hL hC hW ⟨V, rfl, HV, hB⟩ hK
        have e16 : V 16 = .bool true := HV 16 _ rfl (hW 16 rfl)
        have e19 : V 19 = lnv g := HV 19 _ rfl (hW 19 rfl)
        have H := Lib.hid (show ∀ W', Ext W W' → K (fr (upd V 20 (lnv pg))) W' from fun W' he => hK _ W' ⟨upd V 20 (lnv pg), rfl, HV.up 20 _ (fun x hx => Option.some.inj hx), Ln2.ext hB he⟩)
        clear hK hC hW hL HV
        have u16 : (upd V 20 (lnv pg)) 16 = .bool true := e16
        have u19 : (upd V 20 (lnv pg)) 19 = lnv g := e19
        have HU := Lib.hid (show (upd V 20 (lnv pg)) 16 = .bool true ∧ (upd V 20 (lnv pg)) 19 = lnv g from ⟨u16, u19⟩)
        clear u16 u19
        rw [HFR.out]
        rw [e16, e19]
        clear e16 e19
        go_wp2_with fail
        refine (HP2.out _ hB.2.2.2).mono ?_
        rintro e wx ⟨rfl, he⟩
        go_wp2_with fail
        show K _ _
        have := H.out _ he
        rw [HFR.out] at this
        obtain ⟨u16, u19⟩ := HU.out
        rw [u16, u19] at this
        exact this
      · rintro L A W K hL hC hW ⟨V, rfl, HV, hB⟩ hK
        have e16 : V 16 = .bool true := HV 16 _ rfl (hW 16 rfl)
        have e18 : V 18 = lnv pf := HV 18 _ rfl (hW 18 rfl)
        have e20 : V 20 = lnv pg := HV 20 _ rfl (hW 20 rfl)
        have H := Lib.hid (show ∀ W', Ext W W' → K (fr (upd V 21 (.bool false))) W' from fun W' he => hK _ W' ⟨upd V 21 (.bool false), rfl, HV.up 21 _ (fun x hx => Option.some.inj hx), Ln2.ext hB he⟩)
        clear hK hC hW hL HV
        have u16 : (upd V 21 (.bool false)) 16 = .bool true := e16
        have u18 : (upd V 21 (.bool false)) 18 = lnv pf := e18
        have u20 : (upd V 21 (.bool false)) 20 = lnv pg := e20
        have HU := Lib.hid (show (upd V 21 (.bool false)) 16 = .bool true ∧ (upd V 21 (.bool false)) 18 = lnv pf ∧ (upd V 21 (.bool false)) 20 = lnv pg from ⟨u16, u18, u20⟩)
        clear u16 u18 u20
        rw [HFR.out]
        rw [e16, e18, e20]
        clear e16 e18 e20
        clear hB
        go_wp2_with ((with_reducible refine wpList_eql_lanes ?_ (.tmp 45) (.tmp 47) ?_ pf pg false ?_ ?_ HS3.out ?_); (exact rfl); (exact rfl); (exact rfl); (exact rfl))
        show K _ _
        have := H.out _ (Ext.refl _)
        rw [HFR.out] at this
        obtain ⟨u16, u18, u20⟩ := HU.out
        rw [u16, u18, u20] at this
        exact this
      · rintro L A W K hL hC hW ⟨V, rfl, HV, hB⟩ hK
        have e16 : V 16 = .bool true := HV 16 _ rfl (hW 16 rfl)
        have H := Lib.hid (show ∀ W', Ext W W' → K (fr (upd V 22 (.bool false))) W' from fun W' he => hK _ W' ⟨upd V 22 (.bool false), rfl, HV.up 22 _ (fun x hx => Option.some.inj hx), Ln2.ext hB he⟩)
        clear hK hC hW hL HV
        have u16 : (upd V 22 (.bool false)) 16 = .bool true := e16
        have HU := Lib.hid (show (upd V 22 (.bool false)) 16 = .bool true from u16)
        clear u16
        rw [HFR.out]
        rw [e16]
        clear e16
        clear hB
        go_wp2_with fail
        show K _ _
        have := H.out _ (Ext.refl _)
        rw [HFR.out] at this
        obtain u16 := HU.out
        rw [u16] at this
        exact this
      · rintro L A W K hL hC hW ⟨V, rfl, HV, hB⟩ hK
        have e16 : V 16 = .bool true := HV 16 _ rfl (hW 16 rfl)
        have e21 : V 21 = .bool false := HV 21 _ rfl (hW 21 rfl)
        have e22 : V 22 = .bool false := HV 22 _ rfl (hW 22 rfl)
        have H := Lib.hid (show ∀ W', Ext W W' → K (fr (upd V 23 (.bool true))) W' from fun W' he => hK _ W' ⟨upd V 23 (.bool true), rfl, HV.up 23 _ (fun x hx => Option.some.inj hx), Ln2.ext hB he⟩)
        clear hK hC hW hL HV
        have u16 : (upd V 23 (.bool true)) 16 = .bool true := e16
        have u21 : (upd V 23 (.bool true)) 21 = .bool false := e21
        have u22 : (upd V 23 (.bool true)) 22 = .bool false := e22
        have HU := Lib.hid (show (upd V 23 (.bool true)) 16 = .bool true ∧ (upd V 23 (.bool true)) 21 = .bool false ∧ (upd V 23 (.bool true)) 22 = .bool false from ⟨u16, u21, u22⟩)
        clear u16 u21 u22
        rw [HFR.out]
        rw [e16, e21, e22]
        clear e16 e21 e22
        clear hB
        go_wp2_with fail
        show K _ _
        have := H.out _ (Ext.refl _)
        rw [HFR.out] at this
        obtain ⟨u16, u21, u22⟩ := HU.out
        rw [u16, u21, u22] at this
        exact this
      · rintro L A W K hL hC hW ⟨V, rfl, HV, hB⟩ hK
        have e16 : V 16 = .bool true := HV 16 _ rfl (hW 16 rfl)
        have e23 : V 23 = .bool true := HV 23 _ rfl (hW 23 rfl)
        have H := Lib.hid (show ∀ W', Ext W W' → K (fr (upd V 24 (.bool true))) W' from fun W' he => hK _ W' ⟨upd V 24 (.bool true), rfl, HV.up 24 _ (fun x hx => Option.some.inj hx), Ln2.ext hB he⟩)
        clear hK hC hW hL HV
        have u16 : (upd V 24 (.bool true)) 16 = .bool true := e16
        have u23 : (upd V 24 (.bool true)) 23 = .bool true := e23
        have HU := Lib.hid (show (upd V 24 (.bool true)) 16 = .bool true ∧ (upd V 24 (.bool true)) 23 = .bool true from ⟨u16, u23⟩)
        clear u16 u23
        rw [HFR.out]
        rw [e16, e23]
        clear e16 e23
        clear hB
        go_wp2_with fail
        show K _ _
        have := H.out _ (Ext.refl _)
        rw [HFR.out] at this
        obtain ⟨u16, u23⟩ := HU.out
        rw [u16, u23] at this
        exact this
      · rintro L A W K hL hC hW ⟨V, rfl, HV, hB⟩ hK
        have e24 : V 24 = .bool true := HV 24 _ rfl (hW 24 rfl)
        have H := Lib.hid (show ∀ W', Ext W W' → K (fr (upd V 25 (.bool true))) W' from fun W' he => hK _ W' ⟨upd V 25 (.bool true), rfl, HV.up 25 _ (fun x hx => Option.some.inj hx), Ln2.ext hB he⟩)
        clear hK hC hW hL HV
        have u24 : (upd V 25 (.bool true)) 24 = .bool true := e24
        have HU := Lib.hid (show (upd V 25 (.bool true)) 24 = .bool true from u24)
        clear u24
        rw [HFR.out]
        rw [e24]
        clear e24
        clear hB
        go_wp2_with fail
        show K _ _
        have := H.out _ (Ext.refl _)
        rw [HFR.out] at this
        obtain u24 := HU.out
        rw [u24] at this
        exact this
      · rintro L A W hL ⟨V, rfl, HV, hB⟩
        have e0 : V 0 = lnv f := HV 0 _ rfl (hL 0 (by simp))
        have e1 : V 1 = lnv mf := HV 1 _ rfl (hL 1 (by simp))
        have e2 : V 2 = lnv g := HV 2 _ rfl (hL 2 (by simp))
        have e3 : V 3 = lnv mg := HV 3 _ rfl (hL 3 (by simp))
        have e4 : V 4 = .bool false := HV 4 _ rfl (hL 4 (by simp))
        have e5 : V 5 = .bool false := HV 5 _ rfl (hL 5 (by simp))
        have e6 : V 6 = .bool true := HV 6 _ rfl (hL 6 (by simp))
        have e7 : V 7 = .bool true := HV 7 _ rfl (hL 7 (by simp))
        have e8 : V 8 = lnv f := HV 8 _ rfl (hL 8 (by simp))
        have e9 : V 9 = lnv rf := HV 9 _ rfl (hL 9 (by simp))
        have e10 : V 10 = lnv g := HV 10 _ rfl (hL 10 (by simp))
        have e11 : V 11 = lnv rg := HV 11 _ rfl (hL 11 (by simp))
        have e12 : V 12 = .bool false := HV 12 _ rfl (hL 12 (by simp))
        have e13 : V 13 = .bool false := HV 13 _ rfl (hL 13 (by simp))
        have e14 : V 14 = .bool true := HV 14 _ rfl (hL 14 (by simp))
        have e15 : V 15 = .bool true := HV 15 _ rfl (hL 15 (by simp))
        have e16 : V 16 = .bool true := HV 16 _ rfl (hL 16 (by simp))
        have e17 : V 17 = lnv f := HV 17 _ rfl (hL 17 (by simp))
        have e18 : V 18 = lnv pf := HV 18 _ rfl (hL 18 (by simp))
        have e19 : V 19 = lnv g := HV 19 _ rfl (hL 19 (by simp))
        have e20 : V 20 = lnv pg := HV 20 _ rfl (hL 20 (by simp))
        have e21 : V 21 = .bool false := HV 21 _ rfl (hL 21 (by simp))
        have e22 : V 22 = .bool false := HV 22 _ rfl (hL 22 (by simp))
        have e23 : V 23 = .bool true := HV 23 _ rfl (hL 23 (by simp))
        have e24 : V 24 = .bool true := HV 24 _ rfl (hL 24 (by simp))
        have e25 : V 25 = .bool true := HV 25 _ rfl (hL 25 (by simp))
        rw [HFR.out]
        rw [e0, e1, e2, e3, e4, e5, e6, e7, e8, e9, e10, e11, e12, e13, e14, e15, e16, e17, e18, e19, e20, e21, e22, e23, e24, e25]
        clear hL HV HFR e0 e1 e2 e3 e4 e5 e6 e7 e8 e9 e10 e11 e12 e13 e14 e15 e16 e17 e18 e19 e20 e21 e22 e23 e24 e25
        go_wp2_with fail
        go_ret
        exact ⟨rfl, hB.2.2.1⟩

set_option maxRecDepth 100000 in
theorem linear_told (W : World) (args : Array Value) (h : Told Tryd.f7 W args) (ht : Tb W) : Calls Tryd.prog 7 args W (RetT W) := by
  obtain ⟨H, enc, base, ds, p, hval, hA⟩ := h
  rw [Tryd.params7] at hA hval
  obtain ⟨v0, v1, d0, d1, p0, p1, ha, rfl, rfl, h0, h1⟩ := trodAll_two hA
  obtain rfl : args = #[v0, v1] := by apply Array.toList_inj.1; rw [ha]
  obtain ⟨f, rfl, hf⟩ := lanes_came (hval 0 _ _ rfl rfl) h0
  obtain ⟨g, rfl, hg⟩ := lanes_came (hval 1 _ _ rfl rfl) h1
  exact linear_any f g W hf hg ht

set_option maxRecDepth 100000 in
theorem linear_spec (H : Type) : ∀ ds : List (DataW H), ds.length = Tryd.f7.params.toList.length → Rows.spongeLinearSpec.fn H ds = { results := [.lit (.bool true)], args := ds }
  | [_, _], _ => rfl
  | [], h | [_], h | _ :: _ :: _ :: _, h => by rw [Tryd.params7] at h; simp at h

set_option maxRecDepth 100000 in
theorem spongeLinear_holds : Rows.SpongeLinearSaid :=
  OpenClaim.holds_of_wide 7 Tryd.f7 rfl rfl rfl rfl rfl rfl rfl ⟨rfl, rfl, rfl, rfl, rfl⟩ rfl rfl rfl rfl rfl (by kernel_rfl) Tryd.func7 (by kernel_rfl)
    (of_decide_eq_true (by kernel_rfl)) (by unfold Func.isWrapper; first | (rw [if_pos (by decide +kernel)]; kernel_rfl) | (rw [if_neg (by decide +kernel)]; exact ⟨rfl, rfl⟩))
    (fun os started H enc _ => law_lifted_t started (by kernel_rfl) Tryd.func7 rfl rfl (linear_spec H) (of_decide_eq_true (by kernel_rfl))
      (ChangeSpec.witness_shaped (enc := enc) (C := Tryd.checked) (os := os) (X := fun w _ => laidMetH Tryd.prog laid2 w) false (World.doorLaid Tryd.prog 400 os) #[.agg (Array.replicate 25 (.int .u64 0)), .agg (Array.replicate 25 (.int .u64 0))] 8 rfl (World.shaped_of_RefB (by kernel_rfl) (by kernel_rfl)) (by kernel_rfl) (by kernel_rfl) (by kernel_rfl) (door_met os _)) linear_told)

set_option maxRecDepth 100000 in
theorem spongeLinear_card : Rows.SpongeLinearCardSaid :=
  Claim7.holds_tied_plain_at .later [] [.data, .data] true (true, "6022e3c362c65ddb5e4c18bedef3ddafca15e789426a41385729bbd240e05e94") false
    spongeLinear_holds (fun _ h => by cases h) (by kernel_rfl) (fun _ h => by cases h) spongeLinear_row_tie rfl ⟨rfl, rfl⟩ (by kernel_rfl) rfl
    (fun f fn hf hfn => by
      obtain rfl : f = 7 := Option.some.inj ((show Tryd.prog.funcNamed "sheafer/sheaferlaw03.SpongeLinear" = some 7 by kernel_rfl).symm.trans hf) |>.symm
      obtain rfl : fn = Tryd.f7 := (Option.some.inj (Tryd.func7.symm.trans hfn)).symm
      exact ⟨by kernel_rfl, fun j t ht => by
        rw [Tryd.params7] at ht
        have hm : t ∈ [35, 35] := by simpa using Array.mem_of_getElem? ht
        have hall : ([35, 35].all fun u => !Tryd.prog.wantsStandIn u) = true := by kernel_rfl
        exact (show Tryd.prog.wantsStandIn t = false by simpa using List.all_eq_true.1 hall t hm)⟩)
    (by kernel_rfl)
end Go.Proofs.YthjmjccggkejhaaDoor
