/- SpongeSteps: lanes behind each step are as the document says. -/
import Derived.Test.YthjmjccggkejhaaDoorSre
import Derived.Test.YthjmjccggkejhaaDoorSqa
import Derived.Test.YthjmjccggkejhaaDoorRow
namespace Go.Proofs.YthjmjccggkejhaaDoor
open Go.ChangeShapes Go.WideShapes Go.ChangeAt Go.RowKit Go.Shelf

set_option maxRecDepth 100000 in
theorem same_self25 (p : Nat → Nat) : (!same25 p p) = false := by
  rw [(same25_iff p p).2 fun _ _ => rfl]
  rfl
/-- Lanes that lie there, and the tables. -/
def StB (w : World) (g6 : Nat) (f : Nat → Nat) (W : World) : Prop := Ln W g6 f ∧ Tb W ∧ Ext w W
set_option maxRecDepth 100000 in
theorem StB.ext {w : World} {g6 : Nat} {f : Nat → Nat} {W W' : World} (h : StB w g6 f W) (he : Ext W W') : StB w g6 f W' := ⟨h.1.ext he, h.2.1.ext he, h.2.2.trans he⟩
set_option maxRecDepth 100000 in
theorem StB.drew {w : World} {g6 : Nat} {f : Nat → Nat} {W : World} (h : StB w g6 f W) : StB w g6 f W.drew := h.ext (ext_of_grown (grown_drew (World.grownBy.refl _ _)))
set_option maxRecDepth 100000 in
/-- A new block was made, and written. -/
theorem StB.put {w : World} {g6 g : Nat} {f : Nat → Nat} {W W' : World} {o : Obj} (h : StB w g6 f W) (hg : W.heap.size ≤ g) (k : (W.alloc o).grownBy W' (some g)) : StB w g6 f W' :=
  h.ext (((Ext.refl W).alloc o).grown k hg)
set_option maxRecDepth 100000 in
theorem Ln.pass {g g' : Nat} {f : Nat → Nat} {W W' : World} {o : Obj} (h : Ln W g f) (k : (W.alloc o).grownBy W' (some g')) (hg : W.heap.size ≤ g' := by exact Nat.le_refl _) : Ln W' g f :=
  Ln.ext h (((Ext.refl W).alloc o).grown k hg)
set_option maxRecDepth 100000 in
theorem StB.over {w : World} {g6 g : Nat} {f : Nat → Nat} {W W' : World} (h : StB w g6 f W) (h0 : Tb w) (k : W.grownBy W' (some g)) (h1 : g6 ≠ g) (h2 : w.heap.size ≤ g) : StB w g6 f W' :=
  ⟨h.1.kept k (some_ne h1), ⟨h.2.1.1.kept k (some_ne (by have := h0.1.lt; omega)), h.2.1.2.kept k (some_ne (by have := h0.2.lt; omega))⟩, h.2.2.grown k h2⟩
/-- A row of numbers that came in. -/
def Zs (W : World) (v : Value) (l : List Int) : Prop := Rs W 1 v l.length (l.map fun z => .int .i64 z)
set_option maxRecDepth 100000 in
theorem zs_came {H : Type} {enc : TypeId × Value → H} {W : World} {base : Nat} {v : Value} {d : DataW H} {p : List MemPlace}
    (hval : Value.okWide Tryd.prog W .any base 32 v) (h : DataW.Trod enc Tryd.prog W 0 (fun _ => true) true 32 v d p) : ∃ l : List Int, Zs W v l := by
  obtain ⟨a0, len0, cap0, rfl⟩ := okWide_slice Tryd.underlying32 hval
  obtain ⟨fuel, hf⟩ := h
  rcases open_ints Tryd.underlying32 Tryd.underlying3 (by kernel_rfl) hf with ⟨hcs, _⟩ | ⟨x, l, c, zs, hcs, _, hl, hm, hz, _, hcell, _⟩
  · simp [Value.cells] at hcs
    obtain ⟨rfl, rfl, rfl⟩ := hcs
    exact ⟨[], Rs.nil _ 1⟩
  · simp [Value.cells] at hcs
    obtain ⟨rfl, rfl, rfl⟩ := hcs
    simp only [if_true] at hz
    have hlen : (zs.take len0).length = len0 := by simp; omega
    refine ⟨zs.take len0, by simp, _, cap0, by rw [hlen], by rw [hlen]; exact hl, hm, fun hp => ?_⟩
    rw [hlen] at hp
    obtain ⟨b, o, sp⟩ := x
    have hc0 := hcell 0 (by omega)
    obtain rfl : sp = none := by simpa [Addr.add] using World.cell?_spot hc0
    refine ⟨b, o, rfl, fun i u hu => ?_⟩
    have hi : i < len0 := by
      have := (List.getElem?_eq_some_iff.1 hu).1
      rw [List.length_map, hlen] at this
      exact this
    have hci := hcell i (by omega)
    rw [add_plain] at hci
    rw [hci, ← hu]
    have hzi : i < zs.length := by omega
    simp [hi, List.getD, List.getElem?_eq_getElem hzi]

set_option maxRecDepth 100000 in
set_option maxHeartbeats 1000000 in
theorem steps_any (v s : Value) (l : List (Nat → Nat)) (rl : List Int) (w : World) (hl : As w 25 .u64 18446744073709551616 v l) (hs : Zs w s rl) (ht : Tb w) :
    Calls Tryd.prog 4 #[v, s] w (RetT w) := by
  have HL := Lib.hid hl
  have HT := Lib.hid ht
  obtain ⟨A, c, rfl, h1, h2, h3, h4⟩ := id hl
  obtain ⟨_, B, d, rfl, h5, h6, h7⟩ := hs
  have HS := Lib.hid h7
  clear hl ht h1 h2 h3 h4 h5 h6 h7
  go_enter Tryd.func4, Tryd.ntmps4
  go_wp2_with fail
  refine (wakes_any _ HT.out).mono ?_
  rintro e w1 ⟨rfl, he1⟩
  have HE := Lib.hid he1
  clear he1
  go_wp2_with fail
  go_loopw [5, 6, 7, 8, 9, 10, 11, 12, 17, 18, 19, 20, 21, 22, 23, 24, 25, 26, 27, 28, 29, 30, 31, 32, 33, 34, 35, 36, 37, 38, 39, 40, 41, 42, 43, 44, 45, 46, 47, 48, 49, 50, 51, 52, 53, 54, 55, 56, 57, 58, 59, 60, 61, 62, 63, 64, 65, 66, 67, 68, 69, 70, 71, 72, 73, 74, 75, 76, 77] (fun _ _ _ _ _ _ _ _ u _ _ _ _ _ _ _ _ _ _ _ _ _ _ _ _ _ _ _ _ _ _ _ _ _ _ _ _ _ _ _ _ _ _ _ _ _ _ _ _ _ _ _ _ _ _ _ _ _ _ _ _ _ _ _ _ _ _ _ _ wr => ∃ k : Nat, k ≤ 6 ∧ k ≤ l.length ∧ u = .int .i64 k ∧ Hid (Ext w wr)) (fun _ _ _ _ _ _ _ _ u _ _ _ _ _ _ _ _ _ _ _ _ _ _ _ _ _ _ _ _ _ _ _ _ _ _ _ _ _ _ _ _ _ _ _ _ _ _ _ _ _ _ _ _ _ _ _ _ _ _ _ _ _ _ _ _ _ _ _ _ _ => l.length - (intOf u).toNat)
  case atStart => exact ⟨0, by omega, by omega, rfl, HE⟩
  case round =>
    clear HE
    obtain ⟨k, hk6, hk, rfl, HE⟩ := hrel
    by_cases hlt : k < l.length
    · obtain ⟨b, o, c', e, hr, hb⟩ := HL.out.lanes (by omega)
      injection e with e1 e2 e3
      subst e1
      have HRk := Lib.hid (rangeAt_ext (hr k hlt) HE.out)
      have HF := Lib.hid (hb k hlt)
      clear hr e2 e3 hb
      generalize (l.getD k fun _ => 0) = f at *
      by_cases h6 : k = 6
      · have hd : ((k : Int) == 6) = true := by rw [h6]; rfl
        clear h6
        go_wp2_with (first
          | ((with_reducible refine wpList_load_lanesAt ?_ (.tmp 20) ?_ b (o + k * 25) f ?_ ?_ ?_); (exact rfl); (exact rfl); (exact rfl); (exact HRk.out))
          | ((with_reducible refine wpList_store_lanes ?_ ?_ (.tmp 6) (.tmp 21) ?_ wr.heap.size (lc fun _ => 0) f ?_ ?_ ?_ ?_ ?_); (exact rfl); (exact rfl); (exact rfl); (exact rfl); (exact rfl); (exact Cs.new _ _ _ _ rfl); (exact lc_size _); intro w7 k7 g7; have HE7 := Lib.hid ((HE.out.alloc _).grown g7 HE.out.size); clear k7 g7))
        go_ret
        exact ⟨rfl, HE7.out⟩
      · have hd : ((k : Int) == 6) = false := by simp; omega
        have hk5 : k < 6 := by omega
        clear h6
        have HT1 := Lib.hid (HT.out.ext HE.out)
        go_upto_region 7 with (first
          | ((with_reducible refine wpList_load_lanesAt ?_ (.tmp 20) ?_ b (o + k * 25) f ?_ ?_ ?_); (exact rfl); (exact rfl); (exact rfl); (exact HRk.out))
          | ((with_reducible refine wpList_store_lanes ?_ ?_ (.tmp 6) (.tmp 21) ?_ wr.heap.size (lc fun _ => 0) f ?_ ?_ ?_ ?_ ?_); (exact rfl); (exact rfl); (exact rfl); (exact rfl); (exact rfl); (exact Cs.new _ _ _ _ rfl); (exact lc_size _); intro w7 k7 g7; have HB0 : Hid (StB w wr.heap.size f w7) := ⟨k7, HT1.out.ext (((Ext.refl wr).alloc _).grown g7 (Nat.le_refl _)), (HE.out.alloc _).grown g7 HE.out.size⟩; clear k7 g7))
        clear HT1 HRk
        have HG6 := Lib.hid HE.out.size
        generalize wr.heap.size = g6 at *
        clear HE
        have HM1 := Lib.hid (fun W (h : Tb W) => mix_any f W HF.out h.1)
        have HM2 := Lib.hid (fun W => refMix_any f W HF.out)
        have HW1 := Lib.hid (fun W => rows_any f W HF.out)
        have HW2 := Lib.hid (fun W => refRows_any f W HF.out)
        have HP1 := Lib.hid (fun W (h : Tb W) => permute_any f W HF.out h)
        have HP2 := Lib.hid (fun W => refPermute_any f W HF.out)
        generalize mixF f = mx at *
        generalize rowF f = rw_ at *
        generalize prmF f 24 = pm at *
        refine wp_named fun a0 ha0 => ?_
        obtain ⟨fr, hfr⟩ : ∃ fr : (Nat → Value) → Act, ∀ V, fr V = (((((((((((((((((((a0.put (some 24) (V 0)).put (some 25) (V 1)).put (some 26) (V 2)).put (some 27) (V 3)).put (some 28) (V 4)).put (some 29) (V 5)).put (some 30) (V 6)).put (some 31) (V 7)).put (some 32) (V 8)).put (some 33) (V 9)).put (some 34) (V 10)).put (some 35) (V 11)).put (some 36) (V 12)).put (some 37) (V 13)).put (some 38) (V 14)).put (some 39) (V 15)).put (some 40) (V 16)).put (some 41) (V 17)).put (some 42) (V 18)) := ⟨fun V => (((((((((((((((((((a0.put (some 24) (V 0)).put (some 25) (V 1)).put (some 26) (V 2)).put (some 27) (V 3)).put (some 28) (V 4)).put (some 29) (V 5)).put (some 30) (V 6)).put (some 31) (V 7)).put (some 32) (V 8)).put (some 33) (V 9)).put (some 34) (V 10)).put (some 35) (V 11)).put (some 36) (V 12)).put (some 37) (V 13)).put (some 38) (V 14)).put (some 39) (V 15)).put (some 40) (V 16)).put (some 41) (V 17)).put (some 42) (V 18)), fun _ => rfl⟩
        rw [ha0] at hfr
        simp only [Act.put, List.setIfInBounds_toArray, List.set_cons_zero, List.set_cons_succ] at hfr
        have HFR := Lib.hid hfr
        clear hfr
        refine wp_region_inv (by kernel_rfl) (by kernel_rfl) (fun L A W => ∃ V : Nat → Value, A = fr V ∧ Vals (fun j => ([some (lnv f), some (lnv mx), some (lnv f), some (lnv mx), some (.bool false), some (.bool false), some (lnv f), some (lnv rw_), some (lnv f), some (lnv rw_), some (.bool false), some (.bool false), some (.bool false), some (lnv f), some (lnv pm), some (lnv f), some (lnv pm), some (.bool false), some (.bool false)] : List (Option Value)).getD j none) L V ∧ StB w g6 f W) ?_ ⟨?_, ?_, ?_, ?_, ?_, ?_, ?_, ?_, ?_, ?_, ?_, ?_, ?_, ?_, ?_, ?_, ?_, ?_, ?_, trivial⟩ ?_
        · refine ⟨fun j => a0.tmps.getD (([24, 25, 26, 27, 28, 29, 30, 31, 32, 33, 34, 35, 36, 37, 38, 39, 40, 41, 42] : List Nat).getD j 0) undef, ?_, Vals.no _ _ _ (far_none _ _ rfl), HB0.out.drew⟩
          rw [HFR.out, ha0]
          rfl
        all_goals clear ha0
        · rintro L A W K hL hC hW ⟨V, rfl, HV, hB⟩ hK
          have H := Lib.hid (show ∀ W', Ext W W' → K (fr (upd V 0 (lnv f))) W' from fun W' he => hK _ W' ⟨upd V 0 (lnv f), rfl, HV.up 0 _ (fun x hx => Option.some.inj hx), StB.ext hB he⟩)
          clear hK hC hW hL HV
          rw [HFR.out]
          have HLn := Lib.hid hB.1
          clear hB
          go_wp2_with ((with_reducible refine wpList_load_lanes ?_ (.tmp 6) ?_ g6 f ?_ ?_ ?_); (exact rfl); (exact rfl); (exact rfl); (exact HLn.out))
          show K _ _
          have := H.out _ (Ext.refl _)
          rw [HFR.out] at this
          exact this
        · rintro L A W K hL hC hW ⟨V, rfl, HV, hB⟩ hK
          have e0 : V 0 = lnv f := HV 0 _ rfl (hW 0 rfl)
          have H := Lib.hid (show ∀ W', Ext W W' → K (fr (upd V 1 (lnv mx))) W' from fun W' he => hK _ W' ⟨upd V 1 (lnv mx), rfl, HV.up 1 _ (fun x hx => Option.some.inj hx), StB.ext hB he⟩)
          clear hK hC hW hL HV
          have u0 : (upd V 1 (lnv mx)) 0 = lnv f := e0
          have HU := Lib.hid (show (upd V 1 (lnv mx)) 0 = lnv f from u0)
          clear u0
          rw [HFR.out]
          rw [e0]
          clear e0
          go_wp2_with fail
          refine (HM1.out _ hB.2.1).mono ?_
          rintro e wx ⟨rfl, he⟩
          go_wp2_with fail
          show K _ _
          have := H.out _ he
          rw [HFR.out] at this
          obtain u0 := HU.out
          rw [u0] at this
          exact this
        · rintro L A W K hL hC hW ⟨V, rfl, HV, hB⟩ hK
          have H := Lib.hid (show ∀ W', Ext W W' → K (fr (upd V 2 (lnv f))) W' from fun W' he => hK _ W' ⟨upd V 2 (lnv f), rfl, HV.up 2 _ (fun x hx => Option.some.inj hx), StB.ext hB he⟩)
          clear hK hC hW hL HV
          rw [HFR.out]
          have HLn := Lib.hid hB.1
          clear hB
          go_wp2_with ((with_reducible refine wpList_load_lanes ?_ (.tmp 6) ?_ g6 f ?_ ?_ ?_); (exact rfl); (exact rfl); (exact rfl); (exact HLn.out))
          show K _ _
          have := H.out _ (Ext.refl _)
          rw [HFR.out] at this
          exact this
        · rintro L A W K hL hC hW ⟨V, rfl, HV, hB⟩ hK
          have e2 : V 2 = lnv f := HV 2 _ rfl (hW 2 rfl)
          have H := Lib.hid (show ∀ W', Ext W W' → K (fr (upd V 3 (lnv mx))) W' from fun W' he => hK _ W' ⟨upd V 3 (lnv mx), rfl, HV.up 3 _ (fun x hx => Option.some.inj hx), StB.ext hB he⟩)
          clear hK hC hW hL HV
          have u2 : (upd V 3 (lnv mx)) 2 = lnv f := e2
          have HU := Lib.hid (show (upd V 3 (lnv mx)) 2 = lnv f from u2)
          clear u2
          rw [HFR.out]
          rw [e2]
          clear e2
          go_wp2_with fail
          refine (HM2.out _).mono ?_
          rintro e wx ⟨rfl, he⟩
          go_wp2_with fail
          show K _ _
          have := H.out _ he
          rw [HFR.out] at this
          obtain u2 := HU.out
          rw [u2] at this
          exact this
        · rintro L A W K hL hC hW ⟨V, rfl, HV, hB⟩ hK
          have e1 : V 1 = lnv mx := HV 1 _ rfl (hW 1 rfl)
          have e3 : V 3 = lnv mx := HV 3 _ rfl (hW 3 rfl)
          have H := Lib.hid (show ∀ W', Ext W W' → K (fr (upd V 4 (.bool false))) W' from fun W' he => hK _ W' ⟨upd V 4 (.bool false), rfl, HV.up 4 _ (fun x hx => Option.some.inj hx), StB.ext hB he⟩)
          clear hK hC hW hL HV
          have u1 : (upd V 4 (.bool false)) 1 = lnv mx := e1
          have u3 : (upd V 4 (.bool false)) 3 = lnv mx := e3
          have HU := Lib.hid (show (upd V 4 (.bool false)) 1 = lnv mx ∧ (upd V 4 (.bool false)) 3 = lnv mx from ⟨u1, u3⟩)
          clear u1 u3
          rw [HFR.out]
          rw [e1, e3]
          clear e1 e3
          clear hB
          go_wp2_with ((with_reducible refine wpList_neq_lanes ?_ (.tmp 25) (.tmp 27) ?_ mx mx false ?_ ?_ (same_self25 mx) ?_); (exact rfl); (exact rfl); (exact rfl); (exact rfl))
          show K _ _
          have := H.out _ (Ext.refl _)
          rw [HFR.out] at this
          obtain ⟨u1, u3⟩ := HU.out
          rw [u1, u3] at this
          exact this
        · rintro L A W K hL hC hW ⟨V, rfl, HV, hB⟩ hK
          have e4 : V 4 = .bool false := HV 4 _ rfl (hW 4 rfl)
          have H := Lib.hid (show ∀ W', Ext W W' → K (fr (upd V 5 (.bool false))) W' from fun W' he => hK _ W' ⟨upd V 5 (.bool false), rfl, HV.up 5 _ (fun x hx => Option.some.inj hx), StB.ext hB he⟩)
          clear hK hC hW hL HV
          have u4 : (upd V 5 (.bool false)) 4 = .bool false := e4
          have HU := Lib.hid (show (upd V 5 (.bool false)) 4 = .bool false from u4)
          clear u4
          rw [HFR.out]
          rw [e4]
          clear e4
          clear hB
          go_wp2_with fail
          show K _ _
          have := H.out _ (Ext.refl _)
          rw [HFR.out] at this
          obtain u4 := HU.out
          rw [u4] at this
          exact this
        · rintro L A W K hL hC hW ⟨V, rfl, HV, hB⟩ hK
          have e5 : V 5 = .bool false := HV 5 _ rfl (hW 5 rfl)
          have H := Lib.hid (show ∀ W', Ext W W' → K (fr (upd V 6 (lnv f))) W' from fun W' he => hK _ W' ⟨upd V 6 (lnv f), rfl, HV.up 6 _ (fun x hx => Option.some.inj hx), StB.ext hB he⟩)
          clear hK hC hW hL HV
          have u5 : (upd V 6 (lnv f)) 5 = .bool false := e5
          have HU := Lib.hid (show (upd V 6 (lnv f)) 5 = .bool false from u5)
          clear u5
          rw [HFR.out]
          rw [e5]
          clear e5
          have HLn := Lib.hid hB.1
          clear hB
          go_wp2_with ((with_reducible refine wpList_load_lanes ?_ (.tmp 6) ?_ g6 f ?_ ?_ ?_); (exact rfl); (exact rfl); (exact rfl); (exact HLn.out))
          show K _ _
          have := H.out _ (Ext.refl _)
          rw [HFR.out] at this
          obtain u5 := HU.out
          rw [u5] at this
          exact this
        · rintro L A W K hL hC hW ⟨V, rfl, HV, hB⟩ hK
          have e5 : V 5 = .bool false := HV 5 _ rfl (hW 5 rfl)
          have e6 : V 6 = lnv f := HV 6 _ rfl (hW 6 rfl)
          have H := Lib.hid (show ∀ W', Ext W W' → K (fr (upd V 7 (lnv rw_))) W' from fun W' he => hK _ W' ⟨upd V 7 (lnv rw_), rfl, HV.up 7 _ (fun x hx => Option.some.inj hx), StB.ext hB he⟩)
          clear hK hC hW hL HV
          have u5 : (upd V 7 (lnv rw_)) 5 = .bool false := e5
          have u6 : (upd V 7 (lnv rw_)) 6 = lnv f := e6
          have HU := Lib.hid (show (upd V 7 (lnv rw_)) 5 = .bool false ∧ (upd V 7 (lnv rw_)) 6 = lnv f from ⟨u5, u6⟩)
          clear u5 u6
          rw [HFR.out]
          rw [e5, e6]
          clear e5 e6
          go_wp2_with fail
          refine (HW1.out _).mono ?_
          rintro e wx ⟨rfl, he⟩
          go_wp2_with fail
          show K _ _
          have := H.out _ he
          rw [HFR.out] at this
          obtain ⟨u5, u6⟩ := HU.out
          rw [u5, u6] at this
          exact this
        · rintro L A W K hL hC hW ⟨V, rfl, HV, hB⟩ hK
          have e5 : V 5 = .bool false := HV 5 _ rfl (hW 5 rfl)
          have H := Lib.hid (show ∀ W', Ext W W' → K (fr (upd V 8 (lnv f))) W' from fun W' he => hK _ W' ⟨upd V 8 (lnv f), rfl, HV.up 8 _ (fun x hx => Option.some.inj hx), StB.ext hB he⟩)
          clear hK hC hW hL HV
          have u5 : (upd V 8 (lnv f)) 5 = .bool false := e5
          have HU := Lib.hid (show (upd V 8 (lnv f)) 5 = .bool false from u5)
          clear u5
          rw [HFR.out]
          rw [e5]
          clear e5
          have HLn := Lib.hid hB.1
          clear hB
          go_wp2_with ((with_reducible refine wpList_load_lanes ?_ (.tmp 6) ?_ g6 f ?_ ?_ ?_); (exact rfl); (exact rfl); (exact rfl); (exact HLn.out))
          show K _ _
          have := H.out _ (Ext.refl _)
          rw [HFR.out] at this
          obtain u5 := HU.out
          rw [u5] at this
          exact this
        · rintro L A W K hL hC hW ⟨V, rfl, HV, hB⟩ hK
          have e5 : V 5 = .bool false := HV 5 _ rfl (hW 5 rfl)
          have e8 : V 8 = lnv f := HV 8 _ rfl (hW 8 rfl)
          have H := Lib.hid (show ∀ W', Ext W W' → K (fr (upd V 9 (lnv rw_))) W' from fun W' he => hK _ W' ⟨upd V 9 (lnv rw_), rfl, HV.up 9 _ (fun x hx => Option.some.inj hx), StB.ext hB he⟩)
          clear hK hC hW hL HV
          have u5 : (upd V 9 (lnv rw_)) 5 = .bool false := e5
          have u8 : (upd V 9 (lnv rw_)) 8 = lnv f := e8
          have HU := Lib.hid (show (upd V 9 (lnv rw_)) 5 = .bool false ∧ (upd V 9 (lnv rw_)) 8 = lnv f from ⟨u5, u8⟩)
          clear u5 u8
          rw [HFR.out]
          rw [e5, e8]
          clear e5 e8
          go_wp2_with fail
          refine (HW2.out _).mono ?_
          rintro e wx ⟨rfl, he⟩
          go_wp2_with fail
          show K _ _
          have := H.out _ he
          rw [HFR.out] at this
          obtain ⟨u5, u8⟩ := HU.out
          rw [u5, u8] at this
          exact this
        · rintro L A W K hL hC hW ⟨V, rfl, HV, hB⟩ hK
          have e5 : V 5 = .bool false := HV 5 _ rfl (hW 5 rfl)
          have e7 : V 7 = lnv rw_ := HV 7 _ rfl (hW 7 rfl)
          have e9 : V 9 = lnv rw_ := HV 9 _ rfl (hW 9 rfl)
          have H := Lib.hid (show ∀ W', Ext W W' → K (fr (upd V 10 (.bool false))) W' from fun W' he => hK _ W' ⟨upd V 10 (.bool false), rfl, HV.up 10 _ (fun x hx => Option.some.inj hx), StB.ext hB he⟩)
          clear hK hC hW hL HV
          have u5 : (upd V 10 (.bool false)) 5 = .bool false := e5
          have u7 : (upd V 10 (.bool false)) 7 = lnv rw_ := e7
          have u9 : (upd V 10 (.bool false)) 9 = lnv rw_ := e9
          have HU := Lib.hid (show (upd V 10 (.bool false)) 5 = .bool false ∧ (upd V 10 (.bool false)) 7 = lnv rw_ ∧ (upd V 10 (.bool false)) 9 = lnv rw_ from ⟨u5, u7, u9⟩)
          clear u5 u7 u9
          rw [HFR.out]
          rw [e5, e7, e9]
          clear e5 e7 e9
          clear hB
          go_wp2_with ((with_reducible refine wpList_neq_lanes ?_ (.tmp 31) (.tmp 33) ?_ rw_ rw_ false ?_ ?_ (same_self25 rw_) ?_); (exact rfl); (exact rfl); (exact rfl); (exact rfl))
          show K _ _
          have := H.out _ (Ext.refl _)
          rw [HFR.out] at this
          obtain ⟨u5, u7, u9⟩ := HU.out
          rw [u5, u7, u9] at this
          exact this
        · rintro L A W K hL hC hW ⟨V, rfl, HV, hB⟩ hK
          have e5 : V 5 = .bool false := HV 5 _ rfl (hW 5 rfl)
          have e10 : V 10 = .bool false := HV 10 _ rfl (hW 10 rfl)
          have H := Lib.hid (show ∀ W', Ext W W' → K (fr (upd V 11 (.bool false))) W' from fun W' he => hK _ W' ⟨upd V 11 (.bool false), rfl, HV.up 11 _ (fun x hx => Option.some.inj hx), StB.ext hB he⟩)
          clear hK hC hW hL HV
          have u5 : (upd V 11 (.bool false)) 5 = .bool false := e5
          have u10 : (upd V 11 (.bool false)) 10 = .bool false := e10
          have HU := Lib.hid (show (upd V 11 (.bool false)) 5 = .bool false ∧ (upd V 11 (.bool false)) 10 = .bool false from ⟨u5, u10⟩)
          clear u5 u10
          rw [HFR.out]
          rw [e5, e10]
          clear e5 e10
          clear hB
          go_wp2_with fail
          show K _ _
          have := H.out _ (Ext.refl _)
          rw [HFR.out] at this
          obtain ⟨u5, u10⟩ := HU.out
          rw [u5, u10] at this
          exact this
        · rintro L A W K hL hC hW ⟨V, rfl, HV, hB⟩ hK
          have e11 : V 11 = .bool false := HV 11 _ rfl (hW 11 rfl)
          have H := Lib.hid (show ∀ W', Ext W W' → K (fr (upd V 12 (.bool false))) W' from fun W' he => hK _ W' ⟨upd V 12 (.bool false), rfl, HV.up 12 _ (fun x hx => Option.some.inj hx), StB.ext hB he⟩)
          clear hK hC hW hL HV
          have u11 : (upd V 12 (.bool false)) 11 = .bool false := e11
          have HU := Lib.hid (show (upd V 12 (.bool false)) 11 = .bool false from u11)
          clear u11
          rw [HFR.out]
          rw [e11]
          clear e11
          clear hB
          go_wp2_with fail
          show K _ _
          have := H.out _ (Ext.refl _)
          rw [HFR.out] at this
          obtain u11 := HU.out
          rw [u11] at this
          exact this
        · rintro L A W K hL hC hW ⟨V, rfl, HV, hB⟩ hK
          have e12 : V 12 = .bool false := HV 12 _ rfl (hW 12 rfl)
          have H := Lib.hid (show ∀ W', Ext W W' → K (fr (upd V 13 (lnv f))) W' from fun W' he => hK _ W' ⟨upd V 13 (lnv f), rfl, HV.up 13 _ (fun x hx => Option.some.inj hx), StB.ext hB he⟩)
          clear hK hC hW hL HV
          have u12 : (upd V 13 (lnv f)) 12 = .bool false := e12
          have HU := Lib.hid (show (upd V 13 (lnv f)) 12 = .bool false from u12)
          clear u12
          rw [HFR.out]
          rw [e12]
          clear e12
          have HLn := Lib.hid hB.1
          clear hB
          go_wp2_with ((with_reducible refine wpList_load_lanes ?_ (.tmp 6) ?_ g6 f ?_ ?_ ?_); (exact rfl); (exact rfl); (exact rfl); (exact HLn.out))
          show K _ _
          have := H.out _ (Ext.refl _)
          rw [HFR.out] at this
          obtain u12 := HU.out
          rw [u12] at this
          exact this
        · rintro L A W K hL hC hW ⟨V, rfl, HV, hB⟩ hK
          have e12 : V 12 = .bool false := HV 12 _ rfl (hW 12 rfl)
          have e13 : V 13 = lnv f := HV 13 _ rfl (hW 13 rfl)
          have H := Lib.hid (show ∀ W', Ext W W' → K (fr (upd V 14 (lnv pm))) W' from fun W' he => hK _ W' ⟨upd V 14 (lnv pm), rfl, HV.up 14 _ (fun x hx => Option.some.inj hx), StB.ext hB he⟩)
          clear hK hC hW hL HV
          have u12 : (upd V 14 (lnv pm)) 12 = .bool false := e12
          have u13 : (upd V 14 (lnv pm)) 13 = lnv f := e13
          have HU := Lib.hid (show (upd V 14 (lnv pm)) 12 = .bool false ∧ (upd V 14 (lnv pm)) 13 = lnv f from ⟨u12, u13⟩)
          clear u12 u13
          rw [HFR.out]
          rw [e12, e13]
          clear e12 e13
          go_wp2_with fail
          refine (HP1.out _ hB.2.1).mono ?_
          rintro e wx ⟨rfl, he⟩
          go_wp2_with fail
          show K _ _
          have := H.out _ he
          rw [HFR.out] at this
          obtain ⟨u12, u13⟩ := HU.out
          rw [u12, u13] at this
          exact this
        · rintro L A W K hL hC hW ⟨V, rfl, HV, hB⟩ hK
          have e12 : V 12 = .bool false := HV 12 _ rfl (hW 12 rfl)
          have H := Lib.hid (show ∀ W', Ext W W' → K (fr (upd V 15 (lnv f))) W' from fun W' he => hK _ W' ⟨upd V 15 (lnv f), rfl, HV.up 15 _ (fun x hx => Option.some.inj hx), StB.ext hB he⟩)
          clear hK hC hW hL HV
          have u12 : (upd V 15 (lnv f)) 12 = .bool false := e12
          have HU := Lib.hid (show (upd V 15 (lnv f)) 12 = .bool false from u12)
          clear u12
          rw [HFR.out]
          rw [e12]
          clear e12
          have HLn := Lib.hid hB.1
          clear hB
          go_wp2_with ((with_reducible refine wpList_load_lanes ?_ (.tmp 6) ?_ g6 f ?_ ?_ ?_); (exact rfl); (exact rfl); (exact rfl); (exact HLn.out))
          show K _ _
          have := H.out _ (Ext.refl _)
          rw [HFR.out] at this
          obtain u12 := HU.out
          rw [u12] at this
          exact this
        · rintro L A W K hL hC hW ⟨V, rfl, HV, hB⟩ hK
          have e12 : V 12 = .bool false := HV 12 _ rfl (hW 12 rfl)
          have e15 : V 15 = lnv f := HV 15 _ rfl (hW 15 rfl)
          have H := Lib.hid (show ∀ W', Ext W W' → K (fr (upd V 16 (lnv pm))) W' from fun W' he => hK _ W' ⟨upd V 16 (lnv pm), rfl, HV.up 16 _ (fun x hx => Option.some.inj hx), StB.ext hB he⟩)
          clear hK hC hW hL HV
          have u12 : (upd V 16 (lnv pm)) 12 = .bool false := e12
          have u15 : (upd V 16 (lnv pm)) 15 = lnv f := e15
          have HU := Lib.hid (show (upd V 16 (lnv pm)) 12 = .bool false ∧ (upd V 16 (lnv pm)) 15 = lnv f from ⟨u12, u15⟩)
          clear u12 u15
          rw [HFR.out]
          rw [e12, e15]
          clear e12 e15
          go_wp2_with fail
          refine (HP2.out _).mono ?_
          rintro e wx ⟨rfl, he⟩
          go_wp2_with fail
          show K _ _
          have := H.out _ he
          rw [HFR.out] at this
          obtain ⟨u12, u15⟩ := HU.out
          rw [u12, u15] at this
          exact this
        · rintro L A W K hL hC hW ⟨V, rfl, HV, hB⟩ hK
          have e12 : V 12 = .bool false := HV 12 _ rfl (hW 12 rfl)
          have e14 : V 14 = lnv pm := HV 14 _ rfl (hW 14 rfl)
          have e16 : V 16 = lnv pm := HV 16 _ rfl (hW 16 rfl)
          have H := Lib.hid (show ∀ W', Ext W W' → K (fr (upd V 17 (.bool false))) W' from fun W' he => hK _ W' ⟨upd V 17 (.bool false), rfl, HV.up 17 _ (fun x hx => Option.some.inj hx), StB.ext hB he⟩)
          clear hK hC hW hL HV
          have u12 : (upd V 17 (.bool false)) 12 = .bool false := e12
          have u14 : (upd V 17 (.bool false)) 14 = lnv pm := e14
          have u16 : (upd V 17 (.bool false)) 16 = lnv pm := e16
          have HU := Lib.hid (show (upd V 17 (.bool false)) 12 = .bool false ∧ (upd V 17 (.bool false)) 14 = lnv pm ∧ (upd V 17 (.bool false)) 16 = lnv pm from ⟨u12, u14, u16⟩)
          clear u12 u14 u16
          rw [HFR.out]
          rw [e12, e14, e16]
          clear e12 e14 e16
          clear hB
          go_wp2_with ((with_reducible refine wpList_neq_lanes ?_ (.tmp 38) (.tmp 40) ?_ pm pm false ?_ ?_ (same_self25 pm) ?_); (exact rfl); (exact rfl); (exact rfl); (exact rfl))
          show K _ _
          have := H.out _ (Ext.refl _)
          rw [HFR.out] at this
          obtain ⟨u12, u14, u16⟩ := HU.out
          rw [u12, u14, u16] at this
          exact this
        · rintro L A W K hL hC hW ⟨V, rfl, HV, hB⟩ hK
          have e12 : V 12 = .bool false := HV 12 _ rfl (hW 12 rfl)
          have e17 : V 17 = .bool false := HV 17 _ rfl (hW 17 rfl)
          have H := Lib.hid (show ∀ W', Ext W W' → K (fr (upd V 18 (.bool false))) W' from fun W' he => hK _ W' ⟨upd V 18 (.bool false), rfl, HV.up 18 _ (fun x hx => Option.some.inj hx), StB.ext hB he⟩)
          clear hK hC hW hL HV
          have u12 : (upd V 18 (.bool false)) 12 = .bool false := e12
          have u17 : (upd V 18 (.bool false)) 17 = .bool false := e17
          have HU := Lib.hid (show (upd V 18 (.bool false)) 12 = .bool false ∧ (upd V 18 (.bool false)) 17 = .bool false from ⟨u12, u17⟩)
          clear u12 u17
          rw [HFR.out]
          rw [e12, e17]
          clear e12 e17
          clear hB
          go_wp2_with fail
          show K _ _
          have := H.out _ (Ext.refl _)
          rw [HFR.out] at this
          obtain ⟨u12, u17⟩ := HU.out
          rw [u12, u17] at this
          exact this
        · rintro L A W hL ⟨V, rfl, HV, hB⟩
          have e0 : V 0 = lnv f := HV 0 _ rfl (hL 0 (by simp))
          have e1 : V 1 = lnv mx := HV 1 _ rfl (hL 1 (by simp))
          have e2 : V 2 = lnv f := HV 2 _ rfl (hL 2 (by simp))
          have e3 : V 3 = lnv mx := HV 3 _ rfl (hL 3 (by simp))
          have e4 : V 4 = .bool false := HV 4 _ rfl (hL 4 (by simp))
          have e5 : V 5 = .bool false := HV 5 _ rfl (hL 5 (by simp))
          have e6 : V 6 = lnv f := HV 6 _ rfl (hL 6 (by simp))
          have e7 : V 7 = lnv rw_ := HV 7 _ rfl (hL 7 (by simp))
          have e8 : V 8 = lnv f := HV 8 _ rfl (hL 8 (by simp))
          have e9 : V 9 = lnv rw_ := HV 9 _ rfl (hL 9 (by simp))
          have e10 : V 10 = .bool false := HV 10 _ rfl (hL 10 (by simp))
          have e11 : V 11 = .bool false := HV 11 _ rfl (hL 11 (by simp))
          have e12 : V 12 = .bool false := HV 12 _ rfl (hL 12 (by simp))
          have e13 : V 13 = lnv f := HV 13 _ rfl (hL 13 (by simp))
          have e14 : V 14 = lnv pm := HV 14 _ rfl (hL 14 (by simp))
          have e15 : V 15 = lnv f := HV 15 _ rfl (hL 15 (by simp))
          have e16 : V 16 = lnv pm := HV 16 _ rfl (hL 16 (by simp))
          have e17 : V 17 = .bool false := HV 17 _ rfl (hL 17 (by simp))
          have e18 : V 18 = .bool false := HV 18 _ rfl (hL 18 (by simp))
          rw [HFR.out]
          rw [e0, e1, e2, e3, e4, e5, e6, e7, e8, e9, e10, e11, e12, e13, e14, e15, e16, e17, e18]
          clear hL HV HFR e0 e1 e2 e3 e4 e5 e6 e7 e8 e9 e10 e11 e12 e13 e14 e15 e16 e17 e18
          clear HM1 HM2 HW1 HW2 HP1 HP2 HB0
          have HB1 := Lib.hid hB
          clear hB
          go_wp2_with fail
          go_loopw [7, 8, 9, 10, 11, 12, 45, 46, 47, 48, 49, 50, 51, 52, 53, 54, 55, 56, 57, 58, 59, 60, 61, 62, 63, 64, 65, 66, 67, 68, 69, 70, 71, 72, 73, 74, 75, 76] (fun _ _ _ _ _ _ u _ _ _ _ _ _ _ _ _ _ _ _ _ _ _ _ _ _ _ _ _ _ _ _ _ _ _ _ _ _ _ wr => ∃ j : Nat, j ≤ 6 ∧ j ≤ rl.length ∧ u = .int .i64 j ∧ Hid (StB w g6 f wr)) (fun _ _ _ _ _ _ u _ _ _ _ _ _ _ _ _ _ _ _ _ _ _ _ _ _ _ _ _ _ _ _ _ _ _ _ _ _ _ _ => rl.length - (intOf u).toNat)
          case atStart => exact ⟨0, by omega, by omega, rfl, HB1⟩
          case round =>
            clear HB1
            obtain ⟨j, hj6, hj, rfl, HQ⟩ := hrel
            by_cases hlj : j < rl.length
            · obtain ⟨b2, o2, rfl, hc2⟩ := HS.out (by omega)
              have hc3 := HQ.out.2.2.cell (hc2 j (.int .i64 (rl.getD j 0)) (by simp [hlj]))
              clear hc2
              generalize rl.getD j 0 = z at *
              by_cases h6 : j = 6
              · have hdj : ((j : Int) == 6) = true := by rw [h6]; rfl
                clear h6
                go_wp2_with fail
                exact ⟨⟨k + 1, by omega, by omega, by go_num, Lib.hid HQ.out.2.2⟩, by simp [intOf]; omega⟩
              · have hdj : ((j : Int) == 6) = false := by simp; omega
                have hj5 : j < 6 := by omega
                clear h6
                by_cases hz0 : 0 ≤ z
                · have hd0 : decide (0 ≤ z) = true := decide_eq_true hz0
                  by_cases hz24 : z < 24
                  · obtain ⟨m, rfl⟩ : ∃ m : Nat, z = m := ⟨z.toNat, by omega⟩
                    have hm24 : m < 24 := by omega
                    have hd2 : decide ((m : Int) < 24) = true := decide_eq_true hz24
                    have hrv := rndV_in f m hm24
                    clear hz0 hz24
                    have HRV := Lib.hid (fun W (h : Tb W) => round_any f (m : Int) W HF.out h)
                    rw [hrv] at HRV
                    go_wp2_with ((with_reducible refine wpList_load_lanes ?_ (.tmp 6) ?_ g6 f ?_ ?_ ?_); (exact rfl); (exact rfl); (exact rfl); (exact HQ.out.1))
                    refine (HRV.out _ HQ.out.2.1).mono ?_
                    rintro e w3 ⟨rfl, he3⟩
                    have HQ3 := Lib.hid (HQ.out.ext he3)
                    clear he3 HQ
                    clear hrv
                    have HS := Lib.hid (fun W => refRound_any f m W HF.out hm24)
                    generalize rndF f m = p at *
                    go_wp2_with (first
                      | ((with_reducible refine wpList_store_lanes ?_ ?_ (.tmp 9) (.tmp 56) ?_ w3.heap.size (lc fun _ => 0) p ?_ ?_ ?_ ?_ ?_); (exact rfl); (exact rfl); (exact rfl); (exact rfl); (exact rfl); (exact Cs.new _ _ _ _ rfl); (exact lc_size _); intro w4 k4 g4; have K4 := Lib.hid k4; have HQ4 : Hid (StB w g6 f w4) := Lib.hid (HQ3.out.put (Nat.le_refl _) g4); clear k4 g4)
                      | ((with_reducible refine wpList_store_lanes ?_ ?_ (.tmp 11) (.tmp 58) ?_ w4.heap.size (lc fun _ => 0) (fun _ => 0) ?_ ?_ ?_ ?_ ?_); (exact rfl); (exact rfl); (exact rfl); (exact rfl); (exact rfl); (exact Cs.new _ _ _ _ rfl); (exact lc_size _); intro w5 k5 g5; have K5 := Lib.hid k5; have K45 := Lib.hid (K4.out.pass g5); have HQ5 : Hid (StB w g6 f w5) := Lib.hid (HQ4.out.put (Nat.le_refl _) g5); clear k5 g5)
                      | ((with_reducible refine wpList_load_lanes ?_ (.tmp 6) ?_ g6 f ?_ ?_ ?_); (exact rfl); (exact rfl); (exact rfl); (exact HQ5.out.1)))
                    refine (HS.out _).mono ?_
                    rintro e w6 ⟨rfl, he6⟩
                    have HQ6 := Lib.hid (HQ5.out.ext he6)
                    have K46 := Lib.hid (K45.out.ext he6)
                    have K6 := Lib.hid (K5.out.ext he6)
                    have HNE := Lib.hid (Nat.ne_of_lt (Cs.lt K4.out))
                    have H46 := Lib.hid (Nat.ne_of_lt (Cs.lt HQ4.out.1))
                    have HW4 := Lib.hid HQ4.out.2.2.size
                    clear he6 HQ5 HQ4 HQ3 K45 K5
                    go_wp2_with (first
                      | ((with_reducible refine wpList_store_lanes ?_ ?_ (.tmp 11) (.tmp 67) ?_ w4.heap.size (lc fun _ => 0) p ?_ ?_ ?_ ?_ ?_); (exact rfl); (exact rfl); (exact rfl); (exact rfl); (exact rfl); (exact K6.out); (exact lc_size _); intro w7 k7 g7; have K7 := Lib.hid k7; have K47 := Lib.hid (Ln.kept K46.out g7 (some_ne HNE.out)); have HQ7 : Hid (StB w g6 f w7) := Lib.hid (HQ6.out.over HT.out g7 H46.out HW4.out); clear k7 g7)
                      | ((with_reducible refine wpList_load_lanes ?_ (.tmp 9) ?_ w3.heap.size p ?_ ?_ ?_); (exact rfl); (exact rfl); (exact rfl); (exact K47.out))
                      | ((with_reducible refine wpList_load_lanes ?_ (.tmp 11) ?_ w4.heap.size p ?_ ?_ ?_); (exact rfl); (exact rfl); (exact rfl); (exact K7.out))
                      | ((with_reducible refine wpList_neq_lanes ?_ (.tmp 68) (.tmp 69) ?_ p p false ?_ ?_ (same_self25 p) ?_); (exact rfl); (exact rfl); (exact rfl); (exact rfl)))
                    exact ⟨⟨j + 1, by omega, by omega, by go_num, HQ7⟩, by simp [intOf]; omega⟩
                  · have hd2 : decide (z < 24) = false := decide_eq_false hz24
                    have hrv : rndV f z = .tuple #[lnv (fun _ => 0), .int .i64 2] := by unfold rndV; rw [if_neg (by omega)]
                    clear hz0 hz24
                    have HRV := Lib.hid (fun W (h : Tb W) => round_any f z W HF.out h)
                    rw [hrv] at HRV
                    go_wp2_with ((with_reducible refine wpList_load_lanes ?_ (.tmp 6) ?_ g6 f ?_ ?_ ?_); (exact rfl); (exact rfl); (exact rfl); (exact HQ.out.1))
                    refine (HRV.out _ HQ.out.2.1).mono ?_
                    rintro e w3 ⟨rfl, he3⟩
                    have HQ3 := Lib.hid (HQ.out.ext he3)
                    clear he3 HQ
                    clear hrv
                    go_wp2_with (first
                      | ((with_reducible refine wpList_store_lanes ?_ ?_ (.tmp 9) (.tmp 56) ?_ w3.heap.size (lc fun _ => 0) (fun _ => 0) ?_ ?_ ?_ ?_ ?_); (exact rfl); (exact rfl); (exact rfl); (exact rfl); (exact rfl); (exact Cs.new _ _ _ _ rfl); (exact lc_size _); intro w4 k4 g4; have K4 := Lib.hid k4; have HQ4 : Hid (StB w g6 f w4) := Lib.hid (HQ3.out.put (Nat.le_refl _) g4); clear k4 g4)
                      | ((with_reducible refine wpList_store_lanes ?_ ?_ (.tmp 11) (.tmp 58) ?_ w4.heap.size (lc fun _ => 0) (fun _ => 0) ?_ ?_ ?_ ?_ ?_); (exact rfl); (exact rfl); (exact rfl); (exact rfl); (exact rfl); (exact Cs.new _ _ _ _ rfl); (exact lc_size _); intro w5 k5 g5; have K5 := Lib.hid k5; have K45 := Lib.hid (K4.out.pass g5); have HQ5 : Hid (StB w g6 f w5) := Lib.hid (HQ4.out.put (Nat.le_refl _) g5); clear k5 g5)
                      | ((with_reducible refine wpList_load_lanes ?_ (.tmp 9) ?_ w3.heap.size (fun _ => 0) ?_ ?_ ?_); (exact rfl); (exact rfl); (exact rfl); (exact K45.out))
                      | ((with_reducible refine wpList_load_lanes ?_ (.tmp 11) ?_ w4.heap.size (fun _ => 0) ?_ ?_ ?_); (exact rfl); (exact rfl); (exact rfl); (exact K5.out))
                      | ((with_reducible refine wpList_neq_lanes ?_ (.tmp 68) (.tmp 69) ?_ (fun _ => 0) (fun _ => 0) false ?_ ?_ (same_self25 _) ?_); (exact rfl); (exact rfl); (exact rfl); (exact rfl)))
                    exact ⟨⟨j + 1, by omega, by omega, by go_num, HQ5⟩, by simp [intOf]; omega⟩
                · have hd0 : decide (0 ≤ z) = false := decide_eq_false hz0
                  have hrv : rndV f z = .tuple #[lnv (fun _ => 0), .int .i64 2] := by unfold rndV; rw [if_neg (by omega)]
                  clear hz0
                  have HRV := Lib.hid (fun W (h : Tb W) => round_any f z W HF.out h)
                  rw [hrv] at HRV
                  go_wp2_with ((with_reducible refine wpList_load_lanes ?_ (.tmp 6) ?_ g6 f ?_ ?_ ?_); (exact rfl); (exact rfl); (exact rfl); (exact HQ.out.1))
                  refine (HRV.out _ HQ.out.2.1).mono ?_
                  rintro e w3 ⟨rfl, he3⟩
                  have HQ3 := Lib.hid (HQ.out.ext he3)
                  clear he3 HQ
                  clear hrv
                  go_wp2_with (first
                    | ((with_reducible refine wpList_store_lanes ?_ ?_ (.tmp 9) (.tmp 56) ?_ w3.heap.size (lc fun _ => 0) (fun _ => 0) ?_ ?_ ?_ ?_ ?_); (exact rfl); (exact rfl); (exact rfl); (exact rfl); (exact rfl); (exact Cs.new _ _ _ _ rfl); (exact lc_size _); intro w4 k4 g4; have K4 := Lib.hid k4; have HQ4 : Hid (StB w g6 f w4) := Lib.hid (HQ3.out.put (Nat.le_refl _) g4); clear k4 g4)
                    | ((with_reducible refine wpList_store_lanes ?_ ?_ (.tmp 11) (.tmp 58) ?_ w4.heap.size (lc fun _ => 0) (fun _ => 0) ?_ ?_ ?_ ?_ ?_); (exact rfl); (exact rfl); (exact rfl); (exact rfl); (exact rfl); (exact Cs.new _ _ _ _ rfl); (exact lc_size _); intro w5 k5 g5; have K5 := Lib.hid k5; have K45 := Lib.hid (K4.out.pass g5); have HQ5 : Hid (StB w g6 f w5) := Lib.hid (HQ4.out.put (Nat.le_refl _) g5); clear k5 g5)
                    | ((with_reducible refine wpList_load_lanes ?_ (.tmp 9) ?_ w3.heap.size (fun _ => 0) ?_ ?_ ?_); (exact rfl); (exact rfl); (exact rfl); (exact K45.out))
                    | ((with_reducible refine wpList_load_lanes ?_ (.tmp 11) ?_ w4.heap.size (fun _ => 0) ?_ ?_ ?_); (exact rfl); (exact rfl); (exact rfl); (exact K5.out))
                    | ((with_reducible refine wpList_neq_lanes ?_ (.tmp 68) (.tmp 69) ?_ (fun _ => 0) (fun _ => 0) false ?_ ?_ (same_self25 _) ?_); (exact rfl); (exact rfl); (exact rfl); (exact rfl)))
                  exact ⟨⟨j + 1, by omega, by omega, by go_num, HQ5⟩, by simp [intOf]; omega⟩
            · obtain rfl : j = rl.length := by omega
              go_wp2_with fail
              exact ⟨⟨k + 1, by omega, by omega, by go_num, Lib.hid HQ.out.2.2⟩, by simp [intOf]; omega⟩
    · obtain rfl : k = l.length := by omega
      go_wp2_with fail
      go_ret
      exact ⟨rfl, HE.out⟩

set_option maxRecDepth 100000 in
theorem u64_wf (z : Int) (hz : (Lit.int .u64 z).wf = true) : 0 ≤ z ∧ z < ((18446744073709551616 : Nat) : Int) := by
  have h : 0 ≤ z ∧ z ≤ 18446744073709551615 := by simpa [Lit.wf, IntKind.min, IntKind.max, IntKind.signed, IntKind.bits] using hz
  omega
set_option maxRecDepth 100000 in
theorem steps_told (W : World) (args : Array Value) (h : Told Tryd.f4 W args) (ht : Tb W) : Calls Tryd.prog 4 args W (RetT W) := by
  obtain ⟨H, enc, base, ds, p, hval, hA⟩ := h
  rw [Tryd.params4] at hA hval
  obtain ⟨v0, v1, d0, d1, p0, p1, ha, rfl, rfl, h0, h1⟩ := trodAll_two hA
  obtain rfl : args = #[v0, v1] := by apply Array.toList_inj.1; rw [ha]
  obtain ⟨l, hl⟩ := as_came (N := 25) (M := 18446744073709551616) Tryd.underlying31 Tryd.underlying35 Tryd.underlying33 (by kernel_rfl) (by kernel_rfl) (by decide) u64_wf (hval 0 _ _ rfl rfl) h0
  obtain ⟨rl, hs⟩ := zs_came (hval 1 _ _ rfl rfl) h1
  exact steps_any v0 v1 l rl W hl hs ht

set_option maxRecDepth 100000 in
theorem steps_spec (H : Type) : ∀ ds : List (DataW H), ds.length = Tryd.f4.params.toList.length → Rows.spongeStepsSpec.fn H ds = { results := [.lit (.bool true)], args := ds }
  | [_, _], _ => rfl
  | [], h | [_], h | _ :: _ :: _ :: _, h => by rw [Tryd.params4] at h; simp at h

set_option maxRecDepth 100000 in
theorem spongeSteps_holds : Rows.SpongeStepsSaid :=
  OpenClaim.holds_of_wide 4 Tryd.f4 rfl rfl rfl rfl rfl rfl rfl ⟨rfl, rfl, rfl, rfl, rfl⟩ rfl rfl rfl rfl rfl (by kernel_rfl) Tryd.func4 (by kernel_rfl)
    (of_decide_eq_true (by kernel_rfl)) (by unfold Func.isWrapper; first | (rw [if_pos (by decide +kernel)]; kernel_rfl) | (rw [if_neg (by decide +kernel)]; exact ⟨rfl, rfl⟩))
    (fun os started H enc _ => law_lifted_t started (by kernel_rfl) Tryd.func4 rfl rfl (steps_spec H) (of_decide_eq_true (by kernel_rfl))
      (ChangeSpec.witness_shaped (enc := enc) (C := Tryd.checked) (os := os) (X := fun w _ => laidMetH Tryd.prog laid2 w) false (World.doorLaid Tryd.prog 400 os) #[.slice none 0 0, .slice none 0 0] 8 rfl (World.shaped_of_RefB (by kernel_rfl) (by kernel_rfl)) (by kernel_rfl) (by kernel_rfl) (by kernel_rfl) (door_met os _)) steps_told)

set_option maxRecDepth 100000 in
theorem spongeSteps_card : Rows.SpongeStepsCardSaid :=
  Claim7.holds_tied_plain_at .later [] [.data, .data] true (true, "6022e3c362c65ddb5e4c18bedef3ddafca15e789426a41385729bbd240e05e94") false
    spongeSteps_holds (fun _ h => by cases h) (by kernel_rfl) (fun _ h => by cases h) spongeSteps_row_tie rfl ⟨rfl, rfl⟩ (by kernel_rfl) rfl
    (fun f fn hf hfn => by
      obtain rfl : f = 4 := Option.some.inj ((show Tryd.prog.funcNamed "sheafer/sheaferlaw03.SpongeSteps" = some 4 by kernel_rfl).symm.trans hf) |>.symm
      obtain rfl : fn = Tryd.f4 := (Option.some.inj (Tryd.func4.symm.trans hfn)).symm
      exact ⟨by kernel_rfl, fun j t ht => by
        rw [Tryd.params4] at ht
        have hm : t ∈ [31, 32] := by simpa using Array.mem_of_getElem? ht
        have hall : ([31, 32].all fun u => !Tryd.prog.wantsStandIn u) = true := by kernel_rfl
        exact (show Tryd.prog.wantsStandIn t = false by simpa using List.all_eq_true.1 hall t hm)⟩)
    (by kernel_rfl)
end Go.Proofs.YthjmjccggkejhaaDoor
