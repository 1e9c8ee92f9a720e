/- Contract of package sponge: Sum. -/
import Derived.Test.YthjmjccggkejhaaDoorSpg
import Derived.Test.YthjmjccggkejhaaDoorMga
namespace Go.Proofs.YthjmjccggkejhaaDoor
open Go.RowKit Go.Shelf

/-- A block of the padded bytes. -/
def blk (P : List UInt8) (i : Nat) : List UInt8 := (P.drop (136 * i)).take 136
/-- The lanes when i blocks are soaked up. -/
def sk (P : List UInt8) : Nat → Nat → Nat
  | 0 => fun _ => 0
  | i + 1 => prmF (wiF (sk P i) (blk P i) (blk P i).length) 24
set_option maxRecDepth 100000 in
theorem sk_lt (P : List UInt8) (i : Nat) : Lok (sk P i) := by
  induction i with
  | zero => intro i _; exact Nat.pow_pos (n := 64) (show 0 < 2 by decide)
  | succ i ih => exact prmF_lt _ (wiF_lt _ _ ih _ (by unfold blk; simp; omega)) 24 (by omega)
/-- The digest of bytes. -/
def sumF (b : List UInt8) : Nat → Nat := dgB (sk (padL b) (padN b / 136))
set_option maxRecDepth 100000 in
theorem Own.keptAt {w w' : World} {b g : Nat} {e : TypeId} {v : Value} {l : List UInt8} (h : Own w b e v l) (hg : w.grownBy w' (some g)) (hu : g < b) : Own w' b e v l := by
  refine World.ownsRow.kept h hg ?_
  cases hv : v.ownBlock with
  | none => exact .inl rfl
  | some k =>
    refine .inr fun e => ?_
    have h1 := (h.lt k hv).1
    injection e with e
    omega
set_option maxRecDepth 100000 in
theorem slice_bs {w : World} {g n cap : Nat} {l : List UInt8} (h : Bs w (.slice (some ⟨g, 0, none⟩) n cap) l) (fr k : Nat) (hfr : fr + k ≤ l.length) (hk : fr < cap) : Bs w (.slice (some ⟨g, fr, none⟩) k (cap - fr)) ((l.drop fr).take k) := by
  have hn := h.len
  have h1 := h.dropLt fr (by omega) hk
  have h2 := h1.take k (by rw [List.length_drop]; omega)
  have he : (some (⟨g, 0, none⟩ : Addr)).map (·.add fr) = some ⟨g, fr, none⟩ := by
    by_cases h0 : fr = 0
    · subst h0; rfl
    · simp [Addr.add, h0]
  rwa [he] at h2
def SumB (w : World) (F : Nat → Nat) (v : Value) (P : List UInt8) (W : World) : Prop := Ib W w.heap.size (fun _ => 0) ∧ Ln W (w.heap.size + 1) F ∧ Own W (w.heap.size + 2) 5 v P ∧ Ext w W
set_option maxRecDepth 100000 in
theorem SumB.ext {w : World} {F : Nat → Nat} {v : Value} {P : List UInt8} {W W' : World} (h : SumB w F v P W) (he : Ext W W') : SumB w F v P W' := ⟨Cs.ext h.1 he, h.2.1.ext he, h.2.2.1.ext he, h.2.2.2.trans he⟩
set_option maxRecDepth 100000 in
theorem SumB.drew {w : World} {F : Nat → Nat} {v : Value} {P : List UInt8} {W : World} (h : SumB w F v P W) : SumB w F v P W.drew := h.ext (ext_of_grown (grown_drew (World.grownBy.refl _ _)))
set_option maxRecDepth 100000 in
theorem SumB.st {w : World} {F G : Nat → Nat} {v : Value} {P : List UInt8} {W W' : World} (h : SumB w F v P W) (k : Ln W' (w.heap.size + 1) G) (hg : W.grownBy W' (some (w.heap.size + 1))) : SumB w G v P W' :=
  ⟨Cs.kept h.1 hg (some_ne (by omega)), k, h.2.2.1.keptAt hg (by omega), h.2.2.2.grown hg (by omega)⟩

set_option maxRecDepth 100000 in
set_option maxHeartbeats 2000000 in
theorem sum_any (v : Value) (b : List UInt8) (w : World) (hb : Bs w v b) (hl : b.length ≤ 1000000000) (ht : Tb w) :
    Calls Tryd.prog 14 #[v] w fun e w' => e = .returned (idv (sumF b)) ∧ Ext w w' := by
  have HB := Lib.hid hb
  have HT := Lib.hid ht
  clear hb ht
  have HZ : Hid (Ib ((w.alloc (.cells (ic fun _ => 0) 27)).alloc (.cells (lc fun _ => 0) 35)) w.heap.size (fun _ => 0)) := (Cs.new _ _ _ _ rfl).alloc _
  have HL : Hid (Ln ((w.alloc (.cells (ic fun _ => 0) 27)).alloc (.cells (lc fun _ => 0) 35)) (w.heap.size + 1) (sk (padL b) 0)) := Cs.new _ _ _ _ (by simp)
  have HE : Hid (Ext w ((w.alloc (.cells (ic fun _ => 0) 27)).alloc (.cells (lc fun _ => 0) 35))) := ((Ext.refl w).alloc _).alloc _
  have HS : Hid ((((w.alloc (.cells (ic fun _ => 0) 27)).alloc (.cells (lc fun _ => 0) 35))).heap.size = w.heap.size + 2) := by simp [Hid]
  rw [lc_zero, ic_zero] at *
  go_enter Tryd.func14, Tryd.ntmps14
  go_wp2_with fail
  refine (pad_any v b _ (HB.out.ext HE.out) hl).mono ?_
  rintro e w1 ⟨pv, rfl, hown, he⟩
  rw [HS.out] at hown
  have hPl : 0 < (padL b).length := by rw [padL_len]; unfold padN; omega
  obtain ⟨gg, cap, rfl, hgb, _, _, _⟩ := hown.form hPl
  have hcap : (padL b).length ≤ cap := by obtain ⟨_, _, e1, h1, _⟩ := hown.bs; injection e1 with e2 e3 e4; omega
  have hcm : cap ≤ maxLen := by obtain ⟨_, _, e1, _, h1, _⟩ := hown.bs; injection e1 with e2 e3 e4; omega
  unfold maxLen at hcm
  have hPN : (padL b).length = (padN b / 136) * 136 := by rw [padL_len]; unfold padN; omega
  have HPN := Lib.hid hPN
  clear hPN
  have hPm : (padL b).length ≤ 1000000136 := by rw [padL_len]; unfold padN; omega
  have HQ : Hid (sumF b = dgB (sk (padL b) (padN b / 136))) := rfl
  have HB0 : Hid (SumB w (sk (padL b) 0) (.slice (some ⟨gg, 0, none⟩) (padL b).length cap) (padL b) w1) := ⟨Cs.ext HZ.out he, HL.out.ext he, hown, HE.out.trans he⟩
  generalize padL b = P at *
  generalize padN b / 136 = N at *
  clear hown he HZ HL HE HS
  go_wp2_with fail
  go_loopw [5, 8, 9, 10, 11, 12, 13, 14, 15, 16, 17, 18, 19, 20, 21] (fun u _ _ _ _ _ _ _ _ _ _ _ _ _ _ wr => ∃ i : Nat, i ≤ N ∧ u = .int .i64 ((136 * i : Nat) : Int) ∧ Hid (SumB w (sk P i) (.slice (some ⟨gg, 0, none⟩) P.length cap) P wr)) (fun u _ _ _ _ _ _ _ _ _ _ _ _ _ _ _ => P.length - (intOf u).toNat)
  case atStart => exact ⟨0, by omega, rfl, HB0⟩
  case round =>
    clear HB0
    obtain ⟨i, hi, rfl, HB0⟩ := hrel
    by_cases hlt : i < N
    · have HFl := Lib.hid (sk_lt P i)
      have HSk : Hid (sk P (i + 1) = prmF (wiF (sk P i) ((P.drop (136 * i)).take 136) ((P.drop (136 * i)).take 136).length) 24) := rfl
      have hfm2 : 136 * i + 136 ≤ P.length := by rw [HPN.out]; omega
      have hcf : 136 * i < cap := by omega
      have hfr : 136 * (i + 1) = 136 * i + 136 := by omega
      have hfp : 136 * i < P.length := by omega
      generalize sk P i = F at *
      generalize 136 * i = fm at *
      have HSB := Lib.hid (show ∀ W, Bs W (.slice (some ⟨gg, 0, none⟩) P.length cap) P → Bs W (.slice (some ⟨gg, fm, none⟩) 136 (cap - fm)) ((P.drop fm).take 136) from fun W h => slice_bs h fm 136 hfm2 hcf)
      have hbl : ((P.drop fm).take 136).length ≤ 200 := by simp; omega
      generalize (P.drop fm).take 136 = bl at *
      have HW := Lib.hid (show ∀ W, Bs W (.slice (some ⟨gg, fm, none⟩) 136 (cap - fm)) bl → Calls Tryd.prog 46 #[lnv F, .slice (some ⟨gg, fm, none⟩) 136 (cap - fm)] W fun e w' => e = .returned (lnv (wiF F bl bl.length)) ∧ Ext W w' from fun W h => with_lanes F _ bl W HFl.out h hbl)
      have HGl := wiF_lt F bl HFl.out _ hbl
      generalize wiF F bl bl.length = G at *
      have HPm := Lib.hid (show ∀ W, Tb W → Calls Tryd.prog 22 #[lnv G] W fun e w' => e = .returned (lnv (prmF G 24)) ∧ Ext W w' from fun W h => permute_any G W HGl h)
      clear HGl hbl
      generalize prmF G 24 = R at *
      go_upto_region 6 with (fail)
      refine wp_named fun a0 ha0 => ?_
      obtain ⟨fr, hfr⟩ : ∃ fr : (Nat → Value) → Act, ∀ V, fr V = ((((((((a0.put (some 14) (V 0)).put (some 15) (V 1)).put (some 16) (V 2)).put (some 17) (V 3)).put (some 18) (V 4)).put (some 19) (V 5)).put (some 20) (V 6)).put (some 21) (V 7)) := ⟨fun V => ((((((((a0.put (some 14) (V 0)).put (some 15) (V 1)).put (some 16) (V 2)).put (some 17) (V 3)).put (some 18) (V 4)).put (some 19) (V 5)).put (some 20) (V 6)).put (some 21) (V 7)), fun _ => rfl⟩
      rw [ha0] at hfr
      simp only [Act.put, List.setIfInBounds_toArray, List.set_cons_zero, List.set_cons_succ] at hfr
      have HFR := Lib.hid hfr
      clear hfr
      refine wp_region_inv (by kernel_rfl) (by kernel_rfl) (fun L A W => ∃ V : Nat → Value, A = fr V ∧ Vals (fun j => ([some (lnv F), some (.slice (some ⟨gg, 0, none⟩) P.length cap), some (.int .i64 (fm : Nat)), some (.int .i64 (fm : Nat)), some (.int .i64 (fm + 136 : Nat)), some (.slice (some ⟨gg, fm, none⟩) 136 (cap - fm)), some (lnv G), some (lnv R), none] : List (Option Value)).getD j none) L V ∧ (L 8 = false → SumB w F (.slice (some ⟨gg, 0, none⟩) P.length cap) P W) ∧ (L 8 = true → SumB w R (.slice (some ⟨gg, 0, none⟩) P.length cap) P W)) ?_ ⟨?_, ?_, ?_, ?_, ?_, ?_, ?_, ?_, ?_, trivial⟩ ?_
      · refine ⟨fun j => a0.tmps.getD (([14, 15, 16, 17, 18, 19, 20, 21, 0] : List Nat).getD j 0) undef, ?_, Vals.no _ _ _ (far_none _ _ rfl), fun _ => HB0.out.drew, fun h => absurd h (by decide)⟩
        rw [HFR.out, ha0]
        rfl
      all_goals clear ha0
      · rintro L A W K hL hC hW ⟨V, rfl, HV, hb, ha⟩ hK
        have h0 : L 8 = false := hC.no hL 8 _ rfl rfl
        have hB := hb h0
        have H := Lib.hid (show ∀ W', Ext W W' → K (fr (upd V 0 (lnv F))) W' from fun W' he => hK _ W' ⟨upd V 0 (lnv F), rfl, HV.up 0 _ (fun x hx => Option.some.inj hx), fun _ => SumB.ext hB he, fun h => absurd (more_ne h rfl) (by rw [h0]; simp)⟩)
        clear hK hC hW hL HV hb ha h0
        rw [HFR.out]
        have HLn := Lib.hid hB.2.1
        clear hB
        go_wp2_with ((with_reducible refine wpList_load_lanes ?_ (.tmp 3) ?_ (w.heap.size + 1) F ?_ ?_ ?_); (exact rfl); (exact rfl); (exact rfl); (exact HLn.out))
        show K _ _
        have := H.out _ (Ext.refl _)
        rw [HFR.out] at this
        exact this
      · rintro L A W K hL hC hW ⟨V, rfl, HV, hb, ha⟩ hK
        have h0 : L 8 = false := hC.no hL 8 _ rfl rfl
        have hB := hb h0
        have H := Lib.hid (show ∀ W', Ext W W' → K (fr (upd V 1 (.slice (some ⟨gg, 0, none⟩) P.length cap))) W' from fun W' he => hK _ W' ⟨upd V 1 (.slice (some ⟨gg, 0, none⟩) P.length cap), rfl, HV.up 1 _ (fun x hx => Option.some.inj hx), fun _ => SumB.ext hB he, fun h => absurd (more_ne h rfl) (by rw [h0]; simp)⟩)
        clear hK hC hW hL HV hb ha h0
        rw [HFR.out]
        clear hB
        go_wp2_with fail
        show K _ _
        have := H.out _ (Ext.refl _)
        rw [HFR.out] at this
        exact this
      · rintro L A W K hL hC hW ⟨V, rfl, HV, hb, ha⟩ hK
        have h0 : L 8 = false := hC.no hL 8 _ rfl rfl
        have hB := hb h0
        have H := Lib.hid (show ∀ W', Ext W W' → K (fr (upd V 2 (.int .i64 (fm : Nat)))) W' from fun W' he => hK _ W' ⟨upd V 2 (.int .i64 (fm : Nat)), rfl, HV.up 2 _ (fun x hx => Option.some.inj hx), fun _ => SumB.ext hB he, fun h => absurd (more_ne h rfl) (by rw [h0]; simp)⟩)
        clear hK hC hW hL HV hb ha h0
        rw [HFR.out]
        clear hB
        go_wp2_with fail
        show K _ _
        have := H.out _ (Ext.refl _)
        rw [HFR.out] at this
        exact this
      · rintro L A W K hL hC hW ⟨V, rfl, HV, hb, ha⟩ hK
        have h0 : L 8 = false := hC.no hL 8 _ rfl rfl
        have hB := hb h0
        have H := Lib.hid (show ∀ W', Ext W W' → K (fr (upd V 3 (.int .i64 (fm : Nat)))) W' from fun W' he => hK _ W' ⟨upd V 3 (.int .i64 (fm : Nat)), rfl, HV.up 3 _ (fun x hx => Option.some.inj hx), fun _ => SumB.ext hB he, fun h => absurd (more_ne h rfl) (by rw [h0]; simp)⟩)
        clear hK hC hW hL HV hb ha h0
        rw [HFR.out]
        clear hB
        go_wp2_with fail
        show K _ _
        have := H.out _ (Ext.refl _)
        rw [HFR.out] at this
        exact this
      · rintro L A W K hL hC hW ⟨V, rfl, HV, hb, ha⟩ hK
        have e3 : V 3 = .int .i64 (fm : Nat) := HV 3 _ rfl (hW 3 rfl)
        have h0 : L 8 = false := hC.no hL 8 _ rfl rfl
        have hB := hb h0
        have H := Lib.hid (show ∀ W', Ext W W' → K (fr (upd V 4 (.int .i64 (fm + 136 : Nat)))) W' from fun W' he => hK _ W' ⟨upd V 4 (.int .i64 (fm + 136 : Nat)), rfl, HV.up 4 _ (fun x hx => Option.some.inj hx), fun _ => SumB.ext hB he, fun h => absurd (more_ne h rfl) (by rw [h0]; simp)⟩)
        clear hK hC hW hL HV hb ha h0
        have u3 : (upd V 4 (.int .i64 (fm + 136 : Nat))) 3 = .int .i64 (fm : Nat) := e3
        have HU := Lib.hid (show (upd V 4 (.int .i64 (fm + 136 : Nat))) 3 = .int .i64 (fm : Nat) from u3)
        clear u3
        rw [HFR.out]
        rw [e3]
        clear e3
        have hq : IntKind.i64.wrap ((fm : Int) + 136) = ((fm + 136 : Nat) : Int) := by rw [IntWalk.i64_in _ (by omega)]; omega
        clear hB
        go_wp2_with fail
        show K _ _
        have := H.out _ (Ext.refl _)
        rw [HFR.out] at this
        obtain u3 := HU.out
        rw [u3] at this
        exact this
      · rintro L A W K hL hC hW ⟨V, rfl, HV, hb, ha⟩ hK
        have e1 : V 1 = .slice (some ⟨gg, 0, none⟩) P.length cap := HV 1 _ rfl (hW 1 rfl)
        have e2 : V 2 = .int .i64 (fm : Nat) := HV 2 _ rfl (hW 2 rfl)
        have e4 : V 4 = .int .i64 (fm + 136 : Nat) := HV 4 _ rfl (hW 4 rfl)
        have h0 : L 8 = false := hC.no hL 8 _ rfl rfl
        have hB := hb h0
        have H := Lib.hid (show ∀ W', Ext W W' → K (fr (upd V 5 (.slice (some ⟨gg, fm, none⟩) 136 (cap - fm)))) W' from fun W' he => hK _ W' ⟨upd V 5 (.slice (some ⟨gg, fm, none⟩) 136 (cap - fm)), rfl, HV.up 5 _ (fun x hx => Option.some.inj hx), fun _ => SumB.ext hB he, fun h => absurd (more_ne h rfl) (by rw [h0]; simp)⟩)
        clear hK hC hW hL HV hb ha h0
        have u1 : (upd V 5 (.slice (some ⟨gg, fm, none⟩) 136 (cap - fm))) 1 = .slice (some ⟨gg, 0, none⟩) P.length cap := e1
        have u2 : (upd V 5 (.slice (some ⟨gg, fm, none⟩) 136 (cap - fm))) 2 = .int .i64 (fm : Nat) := e2
        have u4 : (upd V 5 (.slice (some ⟨gg, fm, none⟩) 136 (cap - fm))) 4 = .int .i64 (fm + 136 : Nat) := e4
        have HU := Lib.hid (show (upd V 5 (.slice (some ⟨gg, fm, none⟩) 136 (cap - fm))) 1 = .slice (some ⟨gg, 0, none⟩) P.length cap ∧ (upd V 5 (.slice (some ⟨gg, fm, none⟩) 136 (cap - fm))) 2 = .int .i64 (fm : Nat) ∧ (upd V 5 (.slice (some ⟨gg, fm, none⟩) 136 (cap - fm))) 4 = .int .i64 (fm + 136 : Nat) from ⟨u1, u2, u4⟩)
        clear u1 u2 u4
        rw [HFR.out]
        rw [e1, e2, e4]
        clear e1 e2 e4
        have h1 : (0 : Int) ≤ (fm : Int) := by omega
        have h2 : (fm : Int) ≤ ((fm + 136 : Nat) : Int) := by omega
        have h3 : ((fm + 136 : Nat) : Int) ≤ (cap : Int) := by omega
        have h4 : fm + 136 - fm = 136 := by omega
        clear hB
        go_wp2_with fail
        rw [h4]
        show K _ _
        have := H.out _ (Ext.refl _)
        rw [HFR.out] at this
        obtain ⟨u1, u2, u4⟩ := HU.out
        rw [u1, u2, u4] at this
        exact this
      · rintro L A W K hL hC hW ⟨V, rfl, HV, hb, ha⟩ hK
        have e0 : V 0 = lnv F := HV 0 _ rfl (hW 0 rfl)
        have e5 : V 5 = .slice (some ⟨gg, fm, none⟩) 136 (cap - fm) := HV 5 _ rfl (hW 5 rfl)
        have h0 : L 8 = false := hC.no hL 8 _ rfl rfl
        have hB := hb h0
        have H := Lib.hid (show ∀ W', Ext W W' → K (fr (upd V 6 (lnv G))) W' from fun W' he => hK _ W' ⟨upd V 6 (lnv G), rfl, HV.up 6 _ (fun x hx => Option.some.inj hx), fun _ => SumB.ext hB he, fun h => absurd (more_ne h rfl) (by rw [h0]; simp)⟩)
        clear hK hC hW hL HV hb ha h0
        have u0 : (upd V 6 (lnv G)) 0 = lnv F := e0
        have u5 : (upd V 6 (lnv G)) 5 = .slice (some ⟨gg, fm, none⟩) 136 (cap - fm) := e5
        have HU := Lib.hid (show (upd V 6 (lnv G)) 0 = lnv F ∧ (upd V 6 (lnv G)) 5 = .slice (some ⟨gg, fm, none⟩) 136 (cap - fm) from ⟨u0, u5⟩)
        clear u0 u5
        rw [HFR.out]
        rw [e0, e5]
        clear e0 e5
        go_wp2_with fail
        refine (HW.out _ (HSB.out _ hB.2.2.1.bs)).mono ?_
        rintro e wx ⟨rfl, he⟩
        go_wp2_with fail
        show K _ _
        have := H.out _ he
        rw [HFR.out] at this
        obtain ⟨u0, u5⟩ := HU.out
        rw [u0, u5] at this
        exact this
      · rintro L A W K hL hC hW ⟨V, rfl, HV, hb, ha⟩ hK
        have e6 : V 6 = lnv G := HV 6 _ rfl (hW 6 rfl)
        have h0 : L 8 = false := hC.no hL 8 _ rfl rfl
        have hB := hb h0
        have H := Lib.hid (show ∀ W', Ext W W' → K (fr (upd V 7 (lnv R))) W' from fun W' he => hK _ W' ⟨upd V 7 (lnv R), rfl, HV.up 7 _ (fun x hx => Option.some.inj hx), fun _ => SumB.ext hB he, fun h => absurd (more_ne h rfl) (by rw [h0]; simp)⟩)
        clear hK hC hW hL HV hb ha h0
        have u6 : (upd V 7 (lnv R)) 6 = lnv G := e6
        have HU := Lib.hid (show (upd V 7 (lnv R)) 6 = lnv G from u6)
        clear u6
        rw [HFR.out]
        rw [e6]
        clear e6
        go_wp2_with fail
        refine (HPm.out _ (HT.out.ext hB.2.2.2)).mono ?_
        rintro e wx ⟨rfl, he⟩
        go_wp2_with fail
        show K _ _
        have := H.out _ he
        rw [HFR.out] at this
        obtain u6 := HU.out
        rw [u6] at this
        exact this
      · rintro L A W K hL hC hW ⟨V, rfl, HV, hb, ha⟩ hK
        have e7 : V 7 = lnv R := HV 7 _ rfl (hW 7 rfl)
        have hB := hb hL
        have H := Lib.hid (show ∀ W', SumB w R (.slice (some ⟨gg, 0, none⟩) P.length cap) P W' → K (fr V) W' from fun W' hA => hK _ W' ⟨V, rfl, HV.st 8 rfl, fun h => absurd h (by unfold More; rw [if_pos rfl]; simp), fun _ => hA⟩)
        clear hK hC hW hL HV hb ha
        have HU := Lib.hid (show V 7 = lnv R from e7)
        rw [HFR.out]
        rw [e7]
        clear e7
        have HB := Lib.hid hB
        clear hB
        go_wp2_with ((with_reducible refine wpList_store_lanes ?_ ?_ (.tmp 3) (.tmp 21) ?_ (w.heap.size + 1) (lc F) R ?_ ?_ ?_ ?_ ?_); (exact rfl); (exact rfl); (exact rfl); (exact rfl); (exact rfl); (exact HB.out.2.1); (exact lc_size _); intro w7 k7 g7; have HA := Lib.hid (HB.out.st k7 g7); clear k7 g7)
        show K _ _
        have := H.out _ HA.out
        rw [HFR.out] at this
        obtain u7 := HU.out
        rw [u7] at this
        exact this
      · rintro L A W hL ⟨V, rfl, HV, hb, ha⟩
        have e0 : V 0 = lnv F := HV 0 _ rfl (hL 0 (by simp))
        have e1 : V 1 = .slice (some ⟨gg, 0, none⟩) P.length cap := HV 1 _ rfl (hL 1 (by simp))
        have e2 : V 2 = .int .i64 (fm : Nat) := HV 2 _ rfl (hL 2 (by simp))
        have e3 : V 3 = .int .i64 (fm : Nat) := HV 3 _ rfl (hL 3 (by simp))
        have e4 : V 4 = .int .i64 (fm + 136 : Nat) := HV 4 _ rfl (hL 4 (by simp))
        have e5 : V 5 = .slice (some ⟨gg, fm, none⟩) 136 (cap - fm) := HV 5 _ rfl (hL 5 (by simp))
        have e6 : V 6 = lnv G := HV 6 _ rfl (hL 6 (by simp))
        have e7 : V 7 = lnv R := HV 7 _ rfl (hL 7 (by simp))
        have hA := ha (hL 8 (by simp))
        rw [HFR.out]
        rw [e0, e1, e2, e3, e4, e5, e6, e7]
        clear hL HV HFR e0 e1 e2 e3 e4 e5 e6 e7 hb ha
        have HA2 := Lib.hid hA
        clear hA
        go_wp2_with fail
        refine ⟨⟨i + 1, by omega, by rw [hfr]; go_num, by rw [HSk.out]; exact HA2⟩, by simp [intOf]; omega⟩
    · obtain rfl : i = N := by omega
      have hnn : 136 * i = P.length := by rw [HPN.out]; omega
      have HNN := Lib.hid hnn
      rw [hnn]
      clear hnn hlt hi
      go_wp2_with (first
        | ((with_reducible refine wpList_load_lanes ?_ (.tmp 3) ?_ (w.heap.size + 1) (sk P i) ?_ ?_ ?_); (exact rfl); (exact rfl); (exact rfl); (exact HB0.out.2.1)))
      refine (digest_any (sk P i) _ (sk_lt P i)).mono ?_
      rintro e w3 ⟨rfl, he3⟩
      have HB1 := Lib.hid (HB0.out.ext he3)
      clear he3
      go_wp2_with ((with_reducible refine wpList_store_id ?_ ?_ (.tmp 2) (.tmp 23) ?_ w.heap.size (ic fun _ => 0) (dgB (sk P i)) ?_ ?_ ?_ ?_ ?_); (exact rfl); (exact rfl); (exact rfl); (exact rfl); (exact rfl); (exact HB1.out.1); (exact ic_size _); intro w7 k7 g7; have K7 := Lib.hid k7; have HE7 := Lib.hid (HB1.out.2.2.2.grown g7 (by omega)); clear k7 g7)
      rw [HQ.out]
      exact bodyPost_ret (results_id Tryd.results14 _ _ w.heap.size _ rfl K7.out) rfl ⟨rfl, HE7.out⟩
end Go.Proofs.YthjmjccggkejhaaDoor
