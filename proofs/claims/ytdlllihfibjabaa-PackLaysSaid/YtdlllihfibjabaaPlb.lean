/- PackBack: parts and their bytes lead back to one another. No condition: every slice of parts, of bytes, of booleans. -/
import Derived.Test.YtdlllihfibjabaaPla
namespace Go.Proofs.Ytdlllihfibjabaa
open Go.ChangeShapes Go.WideShapes Go.ChangeAt Go.RowKit Go.Shelf

set_option maxRecDepth 100000 in
theorem tlS_mod (l : List Pt) (k : Nat) : tlS l k % 32 = 0 := by
  unfold tlS
  induction (l.take k) with
  | nil => rfl
  | cons p l ih =>
    rw [List.map_cons, List.sum_cons]
    have : tlN p % 32 = 0 := by
      unfold tlN flN
      split <;> omega
    omega
set_option maxRecDepth 100000 in
/-- Bytes whose number is no multiple of 32 are none's. -/
theorem rdE_odd (b : List UInt8) (ls : List Bool) (hl : ls.length ≤ 16) (h : b.length % 32 ≠ 0) : rdE b ls = none := by
  cases hr : rdE b ls with
  | none => rfl
  | some ps =>
    obtain ⟨h1, h2, h3, _⟩ := rdE_is b ls hl ps hr
    have h4 := layL_len ps h1
    rw [h2] at h4
    have := tlS_mod ps ps.length
    omega
set_option maxRecDepth 100000 in
theorem back_facts (l : List Pt) (h : errP l = 0) (hw : ∀ p ∈ l, p.2.1 < M256) : rdErr (layL l) (l.map (·.1)) = 0 ∧ rdL (layL l) (l.map (·.1)) = l ∧ (layL l).length % 32 = 0 ∧ 32 * l.length ≤ (layL l).length ∧ szN l = (layL l).length ∧ (layL l).length ≤ 1000000 := by
  have hr := rdE_of l h hw
  have hl := layL_len l h
  have h1 := tlS_mod l l.length
  have h2 := tlS_le l h l.length (Nat.le_refl _)
  have h3 := errP_len l h
  refine ⟨by rw [rdErr_mapped _ _ h, hr]; rfl, by rw [rdL_mapped _ _ h, hr]; rfl, by omega, by omega, ?_, by omega⟩
  unfold szN
  rw [if_pos h, hl]
set_option maxRecDepth 100000 in
theorem odd_facts (l : List Pt) (h : errP l = 0) (b : List UInt8) (hb : b.length % 32 ≠ 0) : rdErr b (l.map (·.1)) = 141 := by
  rw [rdErr_mapped _ _ h, rdE_odd b _ (by rw [List.length_map]; exact errP_len l h) hb]
  rfl
set_option maxRecDepth 100000 in
/-- What is read of whatever bytes. -/
theorem read_facts (b : List UInt8) (ls : List Bool) : (rdErr b ls ≠ 0 ∧ rdL b ls = []) ∨ (rdErr b ls = 0 ∧ errP (rdL b ls) = 0 ∧ layL (rdL b ls) = b ∧ (rdL b ls).length = ls.length) := by
  unfold rdErr rdL
  split
  · exact .inl ⟨by decide, rfl⟩
  · rename_i hl
    cases hr : rdE b ls with
    | none => exact .inl ⟨by decide, rfl⟩
    | some ps =>
      obtain ⟨h1, h2, h3, _⟩ := rdE_is b ls (by omega) ps hr
      refine .inr ⟨rfl, h1, h2, ?_⟩
      rw [← h3, List.length_map]
      rfl
/-- Behind the first half. -/
def RetTail (w : World) (e : Ending) (w' : World) : Prop := RetT w e w'

set_option maxRecDepth 100000 in
set_option maxHeartbeats 4000000 in
theorem packBack_any (v1 v2 v3 : Value) (x : List Pt) (raw : List UInt8) (long : List Bool) (w : World) (h1 : Pts w v1 x) (h2 : Bs w v2 raw) (h3 : Bls w v3 long) : Calls Try.prog 6 #[v1, v2, v3] w (RetT w) := by
  have H1 := Lib.hid h1
  have H2 := Lib.hid h2
  have H3 := Lib.hid h3
  obtain ⟨AR, cR, rfl, r1, r2, r3⟩ := h2
  unfold maxLen at r2
  obtain ⟨AL, cL, rfl, s1, s2⟩ := h3.len
  unfold maxLen at s2
  clear h1 h3 r3
  go_enter Try.func6, Try.ntmps6
  go_wp2_with fail
  refine (packWakes_any _).mono ?_
  rintro e w1 ⟨rfl, he1⟩
  have HE1 := Lib.hid he1
  clear he1
  go_wp2_with fail
  refine (packFew_any _ x _ (H1.out.ext HE1.out)).mono ?_
  rintro e w2 ⟨va, rfl, hf2, he2⟩
  have HE2 := Lib.hid (HE1.out.trans he2)
  have HL2 := Lib.hid (fewP_len x)
  have HA2 := Lib.hid hf2.here
  generalize fewP x = l at *
  clear hf2 he2 HE1 H1
  go_wp2_with fail
  refine (lay_any _ l _ HA2.out).mono ?_
  rintro e w3 ⟨vb, rfl, ho3, he3⟩
  have HE3 := Lib.hid (HE2.out.trans he3)
  have HA3 := Lib.hid (HA2.out.ext he3)
  have HB3 := Lib.hid ho3.bs
  have HBF := Lib.hid (fun h => back_facts l h HA2.out.words)
  have HOF := Lib.hid (odd_facts l)
  obtain ⟨A3, c3, rfl, q1, q2, q3⟩ := ho3.bs
  obtain ⟨A2, c2, rfl, q4, q5⟩ := HA2.out.len
  unfold maxLen at q2 q5
  clear he3 ho3 q3 HE2 HA2
  generalize layL l = b at *
  generalize errP l = el at *
  by_cases h0 : el = 0
  · subst h0
    obtain ⟨z1, z2, z3, z4, z5, z6⟩ := HBF.out rfl
    have HOF2 := Lib.hid (HOF.out rfl)
    have HBE := Lib.hid z1
    have HBL := Lib.hid z2
    have HSZ := Lib.hid z5
    have HQ4 := Lib.hid z4
    have HQ6 := Lib.hid z6
    have HQ3 := Lib.hid z3
    have hlB : (b.length : Int) ≤ 1000000 := by omega
    have hlL : (l.length : Int) ≤ 17 := by have := HL2.out; omega
    clear z1 z2 z3 z4 z5 z6 HBF HOF
    go_wp2_with fail
    refine (packForm_any _ l _ HA3.out (by have := HL2.out; omega)).mono ?_
    rintro e w4 ⟨v4, rfl, hb4, he4⟩
    have HE4 := Lib.hid (HE3.out.trans he4)
    have HA4 := Lib.hid (HA3.out.ext he4)
    have HB4 := Lib.hid (HB3.out.ext he4)
    have HL4 := Lib.hid hb4
    clear he4 hb4 HE3 HA3 HB3
    go_wp2_with fail
    refine (packRead_any _ _ b _ _ HB4.out HL4.out (by have := HQ6.out; omega)).mono ?_
    rintro e w5 ⟨v5, rfl, hf5, he5⟩
    rw [HBE.out]
    rw [HBL.out] at hf5
    have HE5 := Lib.hid (HE4.out.trans he5)
    have HA5 := Lib.hid (HA4.out.ext he5)
    have HB5 := Lib.hid (HB4.out.ext he5)
    have HF5 := Lib.hid hf5.here
    clear he5 hf5 HE4 HA4 HB4 HL4
    go_wp2_with fail
    refine (packSame_any _ _ l l _ HF5.out HA5.out).mono ?_
    rintro e w6 ⟨rfl, he6⟩
    rw [show (l == l) = true by simp]
    have HE6 := Lib.hid (HE5.out.trans he6)
    have HA6 := Lib.hid (HA5.out.ext he6)
    have HB6 := Lib.hid (HB5.out.ext he6)
    clear he6 HE5 HA5 HB5 HF5
    have hm1 : (b.length : Int).tmod 32 = 0 := by
      rw [Int.tmod_eq_emod_of_nonneg (by omega)]
      have := HQ3.out
      omega
    have hm2 : IntKind.i64.wrap (32 * (l.length : Int)) = 32 * (l.length : Int) := IntWalk.i64_in _ (by omega)
    have hm3 : decide ((b.length : Int) < 32 * (l.length : Int)) = false := decide_eq_false (by have := HQ4.out; omega)
    have hm4 : decide (b.length < 32 * l.length) = false := decide_eq_false (by have := HQ4.out; omega)
    go_wp2_with fail
    refine (size_any _ l _ HA6.out).mono ?_
    rintro e w7 ⟨rfl, he7⟩
    rw [HSZ.out]
    have HE7 := Lib.hid (HE6.out.trans he7)
    have HA7 := Lib.hid (HA6.out.ext he7)
    have HB7 := Lib.hid (HB6.out.ext he7)
    clear he7 HE6 HA6 HB6 hm1 hm2 hm3 hm4
    have hbb : ((b.length : Int) != (b.length : Int)) = false := by simp
    go_wp2_with (at_builtin; go_loud (first
      | (refine wpList_append_bytes rfl (.tmp 67) (.tmp 68) _ rfl w7.heap.size 5 Try.underlying28 u8info _ [] rfl (own_made w7 _ 5 (Nat.le_refl _)) _ b rfl (HB7.out.ext ((Ext.refl w7).alloc _)) (by have := HQ6.out; simp; omega) ((Ext.refl w7).alloc _).size ?_; intro v8 w8 ho hg _; have HX8 := Lib.hid (((Ext.refl w7).alloc (.cells #[] 5)).append (own_made w7 _ 5 (Nat.le_refl _)) hg); rw [List.nil_append] at ho; have HO8 := Lib.hid ho; clear ho hg)
      | (refine wpList_append_bytes rfl (.tmp 69) (.tmp 70) _ rfl w7.heap.size 5 Try.underlying28 u8info _ b rfl (HO8.out.ext ((Ext.refl w8).alloc _)) _ [0] rfl (bs_lit _ _ 5 [0] _ _ (heap_alloc_new _ _) rfl rfl (by simp [maxLen])) (by have := HQ6.out; simp; omega) (HX8.out.alloc _).size ?_; intro v9 w9 ho hg _; have HX9 := Lib.hid ((HX8.out.alloc (.cells #[.int .u8 0] 5)).append (HO8.out.ext ((Ext.refl w8).alloc _)) hg); have HB9 := Lib.hid ho.bs; clear ho hg HX8 HO8)))
    have HA9 := Lib.hid (HA7.out.ext HX9.out)
    have HC9 := Lib.hid (HB7.out.ext HX9.out)
    have HE9 := Lib.hid (HE7.out.trans HX9.out)
    clear HX9 HE7 HA7 HB7
    refine (packForm_any _ l _ HA9.out (by have := HL2.out; omega)).mono ?_
    rintro e w10 ⟨v10, rfl, hb10, he10⟩
    have HE10 := Lib.hid (HE9.out.trans he10)
    have HA10 := Lib.hid (HA9.out.ext he10)
    have HB10 := Lib.hid (HB9.out.ext he10)
    have HC10 := Lib.hid (HC9.out.ext he10)
    have HL10 := Lib.hid hb10
    clear he10 hb10 HE9 HA9 HB9 HC9
    go_wp2_with fail
    refine (packRead_any _ _ (b ++ [0]) _ _ HB10.out HL10.out (by have := HQ6.out; simp; omega)).mono ?_
    rintro e w11 ⟨v11, rfl, _, he11⟩
    rw [HOF2.out (b ++ [0]) (by have := HQ3.out; simp; omega)]
    have HE11 := Lib.hid (HE10.out.trans he11)
    have HA11 := Lib.hid (HA10.out.ext he11)
    have HC11 := Lib.hid (HC10.out.ext he11)
    clear he11 HE10 HA10 HB10 HL10 HC10
    by_cases hz : b.length = 0
    · have hz1 : decide ((0 : Int) < (b.length : Int)) = false := decide_eq_false (by omega)
      have hz2 : decide (0 < b.length) = false := decide_eq_false (by omega)
      clear hz
      go_wp2_with fail
      refine (packRead_any _ _ (raw.take 4000) long _ ((H2.out.ext HE11.out).takeMin 4000 _ (by omega)) (H3.out.ext HE11.out) (by simp; omega)).mono ?_
      rintro e wt ⟨vt, rfl, hft, het⟩
      have HT := Lib.hid (HE11.out.trans het)
      have HRB := Lib.hid (((H2.out.ext HE11.out).takeMin 4000 (min (raw.length : Int) 4000).toNat (by omega)).ext het)
      have HFT := Lib.hid hft.here
      clear hft het
      generalize raw.take 4000 = rb at *
      rcases read_facts rb long with ⟨f1, f2⟩ | ⟨f1, f2, f3, f4⟩
      · rw [f2] at HFT
        obtain ⟨At, ct, rfl, _, k6⟩ := HFT.out.len
        have hb1 : (rdErr rb long != 0) = true := by simpa using f1
        have hb2 : (rdErr rb long == 0) = false := by simpa using f1
        clear f1 f2
        generalize rdErr rb long = er at *
        go_wp2_with fail
        go_ret
        exact ⟨rfl, HT.out⟩
      · rw [f1]
        have HG2 := Lib.hid f2
        have HG3 := Lib.hid f3
        have HG4 := Lib.hid f4
        generalize rdL rb long = got at *
        clear f1 f2 f3 f4
        obtain ⟨At, ct, rfl, _, k6⟩ := HFT.out.len
        go_wp2_with fail
        refine (lay_any _ got _ HFT.out).mono ?_
        rintro e wl ⟨vl, rfl, hol, hel⟩
        rw [HG2.out]
        rw [HG3.out] at hol
        have HLB := Lib.hid hol.bs
        have HRL := Lib.hid (HRB.out.ext hel)
        have HTL := Lib.hid (HT.out.trans hel)
        clear hol hel HRB HFT HT
        go_wp2_with fail
        refine (bytesEqual_any _ _ rb rb _ HLB.out HRL.out).mono ?_
        rintro e wq ⟨rfl, rfl⟩
        rw [show (rb == rb) = true by simp, HG4.out]
        have hgl : ((long.length : Int) == (long.length : Int)) = true := by simp
        go_wp2_with fail
        go_ret
        exact ⟨rfl, HTL.out⟩
    · obtain ⟨m, hm⟩ : ∃ m, b.length - 1 = m := ⟨_, rfl⟩
      have hz1 : decide ((0 : Int) < (b.length : Int)) = true := decide_eq_true (by omega)
      have hz2 : decide (0 < b.length) = true := decide_eq_true (by omega)
      have hmw : IntKind.i64.wrap ((b.length : Int) - 1) = (m : Int) := by rw [IntWalk.i64_in _ (by omega)]; omega
      have hmb : m ≤ b.length := by omega
      have hmc : m ≤ c3 := by omega
      have hmd : (m : Int) ≤ 1000000 := by omega
      have HFO := Lib.hid (fun W (h : Ext w11 W) => packForm_any _ l W (HA11.out.ext h) (by have := HL2.out; omega))
      have HRO := Lib.hid (fun W v (h : Ext w11 W) (hv : Bls W v (l.map (·.1))) => show Calls Try.prog 25 #[.slice A3 m c3, v] W (fun e w' => ∃ u, e = .returned (.tuple #[u, .int .i64 141]) ∧ True ∧ Ext W w') from
        (packRead_any _ _ (b.take m) _ W ((HC11.out.ext h).take m hmb) hv (by simp; omega)).mono fun e w' ⟨u, h1, _, h2⟩ => ⟨u, by rw [h1, HOF2.out (b.take m) (by have := HQ3.out; simp; omega)], trivial, h2⟩)
      have HB11 := Lib.hid (Ext.refl w11)
      clear hm
      go_upto_region 13 with (fail)
      refine wp_named fun a0 ha0 => ?_
      obtain ⟨fr, hfr⟩ : ∃ fr : (Nat → Value) → Act, ∀ V, fr V = (((((((((((((a0.put (some 83) (V 0)).put (some 84) (V 1)).put (some 85) (V 2)).put (some 86) (V 3)).put (some 87) (V 4)).put (some 88) (V 5)).put (some 89) (V 6)).put (some 90) (V 7)).put (some 82) (V 8)).put (some 91) (V 9)).put (some 92) (V 10)).put (some 14) (V 11)).put (some 15) (V 12)) := ⟨fun V => (((((((((((((a0.put (some 83) (V 0)).put (some 84) (V 1)).put (some 85) (V 2)).put (some 86) (V 3)).put (some 87) (V 4)).put (some 88) (V 5)).put (some 89) (V 6)).put (some 90) (V 7)).put (some 82) (V 8)).put (some 91) (V 9)).put (some 92) (V 10)).put (some 14) (V 11)).put (some 15) (V 12)), fun _ => rfl⟩
      rw [ha0] at hfr
      simp only [Act.put, List.setIfInBounds_toArray, List.set_cons_zero, List.set_cons_succ] at hfr
      have HFR := Lib.hid hfr
      clear hfr
      refine wp_region_inv (by kernel_rfl) (by kernel_rfl) (fun L A W => ∃ V : Nat → Value, A = fr V ∧ Vals (fun j => ([some (.slice A3 b.length c3), some (.slice A3 b.length c3), some (.int .i64 (b.length : Nat)), some (.int .i64 (m : Nat)), some (.slice A3 m c3), some (.slice A2 l.length c2), none, none, none, none, some (.int .i64 141), none, some (.int .i64 141)] : List (Option Value)).getD j none) L V ∧ (Ext w11 W) ∧ (L 6 = true → Bls W (V 6) (l.map (·.1))) ∧ (L 7 = true → ∃ u, (V 7) = .tuple #[u, .int .i64 141]) ∧ (L 8 = true → ∃ u, (V 8) = .tuple #[u, .int .i64 141]) ∧ (L 9 = true → True) ∧ (L 11 = true → True)) ?_ ⟨?_, ?_, ?_, ?_, ?_, ?_, ?_, ?_, ?_, ?_, ?_, ?_, ?_, trivial⟩ ?_
      · refine ⟨fun j => a0.tmps.getD (([83, 84, 85, 86, 87, 88, 89, 90, 82, 91, 92, 14, 15] : List Nat).getD j 0) undef, ?_, Vals.no _ _ _ (far_none _ _ rfl), ext_drewN (Ext.refl w11) 1, fun h0 => absurd h0 (by decide), fun h0 => absurd h0 (by decide), fun h0 => absurd h0 (by decide), fun h0 => absurd h0 (by decide), fun h0 => absurd h0 (by decide)⟩
        rw [HFR.out, ha0]
        rfl
      all_goals clear ha0
      · rintro L A W K hL hC hW ⟨V, rfl, HV, s0, f6, f7, f8, f9, f11⟩ hK
        have H := Lib.hid (show ∀ W', Ext W W' → K (fr (upd V 0 (.slice A3 b.length c3))) W' from fun W' he => hK _ _ ⟨upd V 0 (.slice A3 b.length c3), rfl, HV.up 0 _ (fun x hx => Option.some.inj hx), Ext.trans s0 he, fun h0 => Bls.ext (f6 (more_ne h0 rfl)) he, fun h0 => (fun h _ => h) (f7 (more_ne h0 rfl)) he, fun h0 => (fun h _ => h) (f8 (more_ne h0 rfl)) he, fun h0 => (fun h _ => h) (f9 (more_ne h0 rfl)) he, fun h0 => (fun h _ => h) (f11 (more_ne h0 rfl)) he⟩)
        clear hK hC hW hL HV s0 f6 f7 f8 f9 f11
        rw [HFR.out]
        go_wp2_with fail
        show K _ _
        have := H.out _ (Ext.refl _)
        rw [HFR.out] at this
        exact this
      · rintro L A W K hL hC hW ⟨V, rfl, HV, s0, f6, f7, f8, f9, f11⟩ hK
        have H := Lib.hid (show ∀ W', Ext W W' → K (fr (upd V 1 (.slice A3 b.length c3))) W' from fun W' he => hK _ _ ⟨upd V 1 (.slice A3 b.length c3), rfl, HV.up 1 _ (fun x hx => Option.some.inj hx), Ext.trans s0 he, fun h0 => Bls.ext (f6 (more_ne h0 rfl)) he, fun h0 => (fun h _ => h) (f7 (more_ne h0 rfl)) he, fun h0 => (fun h _ => h) (f8 (more_ne h0 rfl)) he, fun h0 => (fun h _ => h) (f9 (more_ne h0 rfl)) he, fun h0 => (fun h _ => h) (f11 (more_ne h0 rfl)) he⟩)
        clear hK hC hW hL HV s0 f6 f7 f8 f9 f11
        rw [HFR.out]
        go_wp2_with fail
        show K _ _
        have := H.out _ (Ext.refl _)
        rw [HFR.out] at this
        exact this
      · rintro L A W K hL hC hW ⟨V, rfl, HV, s0, f6, f7, f8, f9, f11⟩ hK
        have e1 : V 1 = .slice A3 b.length c3 := HV 1 _ rfl (hW 1 rfl)
        have H := Lib.hid (show ∀ W', Ext W W' → K (fr (upd V 2 (.int .i64 (b.length : Nat)))) W' from fun W' he => hK _ _ ⟨upd V 2 (.int .i64 (b.length : Nat)), rfl, HV.up 2 _ (fun x hx => Option.some.inj hx), Ext.trans s0 he, fun h0 => Bls.ext (f6 (more_ne h0 rfl)) he, fun h0 => (fun h _ => h) (f7 (more_ne h0 rfl)) he, fun h0 => (fun h _ => h) (f8 (more_ne h0 rfl)) he, fun h0 => (fun h _ => h) (f9 (more_ne h0 rfl)) he, fun h0 => (fun h _ => h) (f11 (more_ne h0 rfl)) he⟩)
        have HU := Lib.hid (show (upd V 2 (.int .i64 (b.length : Nat))) 1 = .slice A3 b.length c3 from e1)
        clear hK hC hW hL HV s0 f6 f7 f8 f9 f11
        rw [HFR.out]
        rw [e1]
        clear e1
        go_wp2_with fail
        show K _ _
        have := H.out _ (Ext.refl _)
        rw [HFR.out] at this
        obtain u1 := HU.out
        rw [u1] at this
        exact this
      · rintro L A W K hL hC hW ⟨V, rfl, HV, s0, f6, f7, f8, f9, f11⟩ hK
        have e2 : V 2 = .int .i64 (b.length : Nat) := HV 2 _ rfl (hW 2 rfl)
        have H := Lib.hid (show ∀ W', Ext W W' → K (fr (upd V 3 (.int .i64 (m : Nat)))) W' from fun W' he => hK _ _ ⟨upd V 3 (.int .i64 (m : Nat)), rfl, HV.up 3 _ (fun x hx => Option.some.inj hx), Ext.trans s0 he, fun h0 => Bls.ext (f6 (more_ne h0 rfl)) he, fun h0 => (fun h _ => h) (f7 (more_ne h0 rfl)) he, fun h0 => (fun h _ => h) (f8 (more_ne h0 rfl)) he, fun h0 => (fun h _ => h) (f9 (more_ne h0 rfl)) he, fun h0 => (fun h _ => h) (f11 (more_ne h0 rfl)) he⟩)
        have HU := Lib.hid (show (upd V 3 (.int .i64 (m : Nat))) 2 = .int .i64 (b.length : Nat) from e2)
        clear hK hC hW hL HV s0 f6 f7 f8 f9 f11
        rw [HFR.out]
        rw [e2]
        clear e2
        go_wp2_with fail
        show K _ _
        have := H.out _ (Ext.refl _)
        rw [HFR.out] at this
        obtain u2 := HU.out
        rw [u2] at this
        exact this
      · rintro L A W K hL hC hW ⟨V, rfl, HV, s0, f6, f7, f8, f9, f11⟩ hK
        have e0 : V 0 = .slice A3 b.length c3 := HV 0 _ rfl (hW 0 rfl)
        have e3 : V 3 = .int .i64 (m : Nat) := HV 3 _ rfl (hW 3 rfl)
        have H := Lib.hid (show ∀ W', Ext W W' → K (fr (upd V 4 (.slice A3 m c3))) W' from fun W' he => hK _ _ ⟨upd V 4 (.slice A3 m c3), rfl, HV.up 4 _ (fun x hx => Option.some.inj hx), Ext.trans s0 he, fun h0 => Bls.ext (f6 (more_ne h0 rfl)) he, fun h0 => (fun h _ => h) (f7 (more_ne h0 rfl)) he, fun h0 => (fun h _ => h) (f8 (more_ne h0 rfl)) he, fun h0 => (fun h _ => h) (f9 (more_ne h0 rfl)) he, fun h0 => (fun h _ => h) (f11 (more_ne h0 rfl)) he⟩)
        have HU := Lib.hid (show (upd V 4 (.slice A3 m c3)) 0 = .slice A3 b.length c3 ∧ (upd V 4 (.slice A3 m c3)) 3 = .int .i64 (m : Nat) from ⟨e0, e3⟩)
        clear hK hC hW hL HV s0 f6 f7 f8 f9 f11
        rw [HFR.out]
        rw [e0, e3]
        clear e0 e3
        go_wp2_with fail
        show K _ _
        have := H.out _ (Ext.refl _)
        rw [HFR.out] at this
        obtain ⟨u0, u3⟩ := HU.out
        rw [u0, u3] at this
        exact this
      · rintro L A W K hL hC hW ⟨V, rfl, HV, s0, f6, f7, f8, f9, f11⟩ hK
        have H := Lib.hid (show ∀ W', Ext W W' → K (fr (upd V 5 (.slice A2 l.length c2))) W' from fun W' he => hK _ _ ⟨upd V 5 (.slice A2 l.length c2), rfl, HV.up 5 _ (fun x hx => Option.some.inj hx), Ext.trans s0 he, fun h0 => Bls.ext (f6 (more_ne h0 rfl)) he, fun h0 => (fun h _ => h) (f7 (more_ne h0 rfl)) he, fun h0 => (fun h _ => h) (f8 (more_ne h0 rfl)) he, fun h0 => (fun h _ => h) (f9 (more_ne h0 rfl)) he, fun h0 => (fun h _ => h) (f11 (more_ne h0 rfl)) he⟩)
        clear hK hC hW hL HV s0 f6 f7 f8 f9 f11
        rw [HFR.out]
        go_wp2_with fail
        show K _ _
        have := H.out _ (Ext.refl _)
        rw [HFR.out] at this
        exact this
      · rintro L A W K hL hC hW ⟨V, rfl, HV, s0, f6, f7, f8, f9, f11⟩ hK
        have e5 : V 5 = .slice A2 l.length c2 := HV 5 _ rfl (hW 5 rfl)
        have hB := s0
        have H := Lib.hid (show ∀ v W', Ext W W' → (Bls W' v (l.map (·.1))) → K (fr (upd V 6 v)) W' from fun v W' he hp => hK _ _ ⟨upd V 6 v, rfl, HV.up 6 _ (fun x hx => absurd hx (by intro h; cases h)), Ext.trans s0 he, fun h0 => hp, fun h0 => (fun h _ => h) (f7 (more_ne h0 rfl)) he, fun h0 => (fun h _ => h) (f8 (more_ne h0 rfl)) he, fun h0 => (fun h _ => h) (f9 (more_ne h0 rfl)) he, fun h0 => (fun h _ => h) (f11 (more_ne h0 rfl)) he⟩)
        have HU := Lib.hid (show ∀ v, (upd V 6 v) 5 = .slice A2 l.length c2 from fun v => e5)
        clear hK hC hW hL HV s0 f6 f7 f8 f9 f11
        rw [HFR.out]
        rw [e5]
        clear e5
        go_wp2_with fail
        refine (HFO.out _ hB).mono ?_
        rintro e wx ⟨v, rfl, hb, he⟩
        have := H.out _ _ he (hb)
        clear H
        go_wp2_with fail
        show K _ _
        rw [HFR.out] at this
        obtain u5 := HU.out _
        rw [u5] at this
        exact this
      · rintro L A W K hL hC hW ⟨V, rfl, HV, s0, f6, f7, f8, f9, f11⟩ hK
        have e4 : V 4 = .slice A3 m c3 := HV 4 _ rfl (hW 4 rfl)
        have hB := s0
        have q6 := f6 (hW 6 rfl)
        have H := Lib.hid (show ∀ v W', Ext W W' → (∃ u, v = .tuple #[u, .int .i64 141]) → K (fr (upd V 7 v)) W' from fun v W' he hp => hK _ _ ⟨upd V 7 v, rfl, HV.up 7 _ (fun x hx => absurd hx (by intro h; cases h)), Ext.trans s0 he, fun h0 => Bls.ext (f6 (more_ne h0 rfl)) he, fun h0 => hp, fun h0 => (fun h _ => h) (f8 (more_ne h0 rfl)) he, fun h0 => (fun h _ => h) (f9 (more_ne h0 rfl)) he, fun h0 => (fun h _ => h) (f11 (more_ne h0 rfl)) he⟩)
        have HU := Lib.hid (show ∀ v, (upd V 7 v) 4 = .slice A3 m c3 from fun v => e4)
        clear hK hC hW hL HV s0 f6 f7 f8 f9 f11
        rw [HFR.out]
        rw [e4]
        clear e4
        go_wp2_with fail
        refine (HRO.out _ _ hB q6).mono ?_
        rintro e wx ⟨v, rfl, _, he⟩
        have := H.out _ _ he ((⟨v, rfl⟩ : ∃ u, Value.tuple #[v, .int .i64 141] = .tuple #[u, .int .i64 141]))
        clear H
        go_wp2_with fail
        show K _ _
        rw [HFR.out] at this
        obtain u4 := HU.out _
        rw [u4] at this
        exact this
      · rintro L A W K hL hC hW ⟨V, rfl, HV, s0, f6, f7, f8, f9, f11⟩ hK
        have q7 := f7 (hW 7 rfl)
        obtain ⟨u7, e7⟩ := q7
        have H := Lib.hid (show ∀ v W', Ext W W' → (∃ u, v = .tuple #[u, .int .i64 141]) → K (fr (upd V 8 v)) W' from fun v W' he hp => hK _ _ ⟨upd V 8 v, rfl, HV.up 8 _ (fun x hx => absurd hx (by intro h; cases h)), Ext.trans s0 he, fun h0 => Bls.ext (f6 (more_ne h0 rfl)) he, fun h0 => (fun h _ => h) (f7 (more_ne h0 rfl)) he, fun h0 => hp, fun h0 => (fun h _ => h) (f9 (more_ne h0 rfl)) he, fun h0 => (fun h _ => h) (f11 (more_ne h0 rfl)) he⟩)
        have HU := Lib.hid (show ∀ v, (upd V 8 v) 7 = .tuple #[u7, .int .i64 141] from fun v => e7)
        clear hK hC hW hL HV s0 f6 f7 f8 f9 f11
        rw [HFR.out]
        rw [e7]
        clear e7
        go_wp2_with fail
        show K _ _
        have := H.out (.tuple #[u7, .int .i64 141]) _ (Ext.refl _) (⟨u7, rfl⟩)
        rw [HFR.out] at this
        obtain u7 := HU.out _
        rw [u7] at this
        exact this
      · rintro L A W K hL hC hW ⟨V, rfl, HV, s0, f6, f7, f8, f9, f11⟩ hK
        have q8 := f8 (hW 8 rfl)
        obtain ⟨u8, e8⟩ := q8
        have H := Lib.hid (show ∀ v W', Ext W W' → (True) → K (fr (upd V 9 v)) W' from fun v W' he hp => hK _ _ ⟨upd V 9 v, rfl, HV.up 9 _ (fun x hx => absurd hx (by intro h; cases h)), Ext.trans s0 he, fun h0 => Bls.ext (f6 (more_ne h0 rfl)) he, fun h0 => (fun h _ => h) (f7 (more_ne h0 rfl)) he, fun h0 => (fun h _ => h) (f8 (more_ne h0 rfl)) he, fun h0 => hp, fun h0 => (fun h _ => h) (f11 (more_ne h0 rfl)) he⟩)
        have HU := Lib.hid (show ∀ v, (upd V 9 v) 8 = .tuple #[u8, .int .i64 141] from fun v => e8)
        clear hK hC hW hL HV s0 f6 f7 f8 f9 f11
        rw [HFR.out]
        rw [e8]
        clear e8
        go_wp2_with fail
        show K _ _
        have := H.out (u8) _ (Ext.refl _) (trivial)
        rw [HFR.out] at this
        obtain u8 := HU.out _
        rw [u8] at this
        exact this
      · rintro L A W K hL hC hW ⟨V, rfl, HV, s0, f6, f7, f8, f9, f11⟩ hK
        have q8 := f8 (hW 8 rfl)
        obtain ⟨u8, e8⟩ := q8
        have H := Lib.hid (show ∀ W', Ext W W' → K (fr (upd V 10 (.int .i64 141))) W' from fun W' he => hK _ _ ⟨upd V 10 (.int .i64 141), rfl, HV.up 10 _ (fun x hx => Option.some.inj hx), Ext.trans s0 he, fun h0 => Bls.ext (f6 (more_ne h0 rfl)) he, fun h0 => (fun h _ => h) (f7 (more_ne h0 rfl)) he, fun h0 => (fun h _ => h) (f8 (more_ne h0 rfl)) he, fun h0 => (fun h _ => h) (f9 (more_ne h0 rfl)) he, fun h0 => (fun h _ => h) (f11 (more_ne h0 rfl)) he⟩)
        have HU := Lib.hid (show (upd V 10 (.int .i64 141)) 8 = .tuple #[u8, .int .i64 141] from e8)
        clear hK hC hW hL HV s0 f6 f7 f8 f9 f11
        rw [HFR.out]
        rw [e8]
        clear e8
        go_wp2_with fail
        show K _ _
        have := H.out _ (Ext.refl _)
        rw [HFR.out] at this
        obtain u8 := HU.out
        rw [u8] at this
        exact this
      · rintro L A W K hL hC hW ⟨V, rfl, HV, s0, f6, f7, f8, f9, f11⟩ hK
        have H := Lib.hid (show ∀ v W', Ext W W' → (True) → K (fr (upd V 11 v)) W' from fun v W' he hp => hK _ _ ⟨upd V 11 v, rfl, HV.up 11 _ (fun x hx => absurd hx (by intro h; cases h)), Ext.trans s0 he, fun h0 => Bls.ext (f6 (more_ne h0 rfl)) he, fun h0 => (fun h _ => h) (f7 (more_ne h0 rfl)) he, fun h0 => (fun h _ => h) (f8 (more_ne h0 rfl)) he, fun h0 => (fun h _ => h) (f9 (more_ne h0 rfl)) he, fun h0 => hp⟩)
        clear hK hC hW hL HV s0 f6 f7 f8 f9 f11
        rw [HFR.out]
        go_wp2_with fail
        show K _ _
        have := H.out (V 9) _ (Ext.refl _) (trivial)
        rw [HFR.out] at this
        exact this
      · rintro L A W K hL hC hW ⟨V, rfl, HV, s0, f6, f7, f8, f9, f11⟩ hK
        have e10 : V 10 = .int .i64 141 := HV 10 _ rfl (hW 10 rfl)
        have H := Lib.hid (show ∀ W', Ext W W' → K (fr (upd V 12 (.int .i64 141))) W' from fun W' he => hK _ _ ⟨upd V 12 (.int .i64 141), rfl, HV.up 12 _ (fun x hx => Option.some.inj hx), Ext.trans s0 he, fun h0 => Bls.ext (f6 (more_ne h0 rfl)) he, fun h0 => (fun h _ => h) (f7 (more_ne h0 rfl)) he, fun h0 => (fun h _ => h) (f8 (more_ne h0 rfl)) he, fun h0 => (fun h _ => h) (f9 (more_ne h0 rfl)) he, fun h0 => (fun h _ => h) (f11 (more_ne h0 rfl)) he⟩)
        have HU := Lib.hid (show (upd V 12 (.int .i64 141)) 10 = .int .i64 141 from e10)
        clear hK hC hW hL HV s0 f6 f7 f8 f9 f11
        rw [HFR.out]
        rw [e10]
        clear e10
        go_wp2_with fail
        show K _ _
        have := H.out _ (Ext.refl _)
        rw [HFR.out] at this
        obtain u10 := HU.out
        rw [u10] at this
        exact this
      · rintro L A W hL ⟨V, rfl, HV, s0, f6, f7, f8, f9, f11⟩
        have e0 : V 0 = .slice A3 b.length c3 := HV 0 _ rfl (hL 0 (by simp))
        have e1 : V 1 = .slice A3 b.length c3 := HV 1 _ rfl (hL 1 (by simp))
        have e2 : V 2 = .int .i64 (b.length : Nat) := HV 2 _ rfl (hL 2 (by simp))
        have e3 : V 3 = .int .i64 (m : Nat) := HV 3 _ rfl (hL 3 (by simp))
        have e4 : V 4 = .slice A3 m c3 := HV 4 _ rfl (hL 4 (by simp))
        have e5 : V 5 = .slice A2 l.length c2 := HV 5 _ rfl (hL 5 (by simp))
        have e10 : V 10 = .int .i64 141 := HV 10 _ rfl (hL 10 (by simp))
        have e12 : V 12 = .int .i64 141 := HV 12 _ rfl (hL 12 (by simp))
        have hA := s0
        have p89 := f6 (hL 6 (by simp))
        have p90 := f7 (hL 7 (by simp))
        have p82 := f8 (hL 8 (by simp))
        have p91 := f9 (hL 9 (by simp))
        have p14 := f11 (hL 11 (by simp))
        rw [HFR.out]
        rw [e0, e1, e2, e3, e4, e5, e10, e12]
        clear hL HV HFR e0 e1 e2 e3 e4 e5 e10 e12 s0 f6 f7 f8 f9 f11
        have HAA := Lib.hid (HE11.out.trans hA)
        clear hA
        go_wp2_with fail
        refine (packRead_any _ _ (raw.take 4000) long _ ((H2.out.ext HAA.out).takeMin 4000 _ (by omega)) (H3.out.ext HAA.out) (by simp; omega)).mono ?_
        rintro e wt ⟨vt, rfl, hft, het⟩
        have HT := Lib.hid (HAA.out.trans het)
        have HRB := Lib.hid (((H2.out.ext HAA.out).takeMin 4000 (min (raw.length : Int) 4000).toNat (by omega)).ext het)
        have HFT := Lib.hid hft.here
        clear hft het
        generalize raw.take 4000 = rb at *
        rcases read_facts rb long with ⟨f1, f2⟩ | ⟨f1, f2, f3, f4⟩
        · rw [f2] at HFT
          obtain ⟨At, ct, rfl, _, k6⟩ := HFT.out.len
          have hb1 : (rdErr rb long != 0) = true := by simpa using f1
          have hb2 : (rdErr rb long == 0) = false := by simpa using f1
          clear f1 f2
          generalize rdErr rb long = er at *
          go_wp2_with fail
          go_ret
          exact ⟨rfl, HT.out⟩
        · rw [f1]
          have HG2 := Lib.hid f2
          have HG3 := Lib.hid f3
          have HG4 := Lib.hid f4
          generalize rdL rb long = got at *
          clear f1 f2 f3 f4
          obtain ⟨At, ct, rfl, _, k6⟩ := HFT.out.len
          go_wp2_with fail
          refine (lay_any _ got _ HFT.out).mono ?_
          rintro e wl ⟨vl, rfl, hol, hel⟩
          rw [HG2.out]
          rw [HG3.out] at hol
          have HLB := Lib.hid hol.bs
          have HRL := Lib.hid (HRB.out.ext hel)
          have HTL := Lib.hid (HT.out.trans hel)
          clear hol hel HRB HFT HT
          go_wp2_with fail
          refine (bytesEqual_any _ _ rb rb _ HLB.out HRL.out).mono ?_
          rintro e wq ⟨rfl, rfl⟩
          rw [show (rb == rb) = true by simp, HG4.out]
          have hgl : ((long.length : Int) == (long.length : Int)) = true := by simp
          go_wp2_with fail
          go_ret
          exact ⟨rfl, HTL.out⟩
  · have hb1 : (el != 0) = true := by simpa using h0
    have hb2 : (el == 0) = false := by simpa using h0
    clear HBF HOF h0
    go_wp2_with fail
    refine (packRead_any _ _ (raw.take 4000) long _ ((H2.out.ext HE3.out).takeMin 4000 _ (by omega)) (H3.out.ext HE3.out) (by simp; omega)).mono ?_
    rintro e wt ⟨vt, rfl, hft, het⟩
    have HT := Lib.hid (HE3.out.trans het)
    have HRB := Lib.hid (((H2.out.ext HE3.out).takeMin 4000 (min (raw.length : Int) 4000).toNat (by omega)).ext het)
    have HFT := Lib.hid hft.here
    clear hft het
    generalize raw.take 4000 = rb at *
    rcases read_facts rb long with ⟨f1, f2⟩ | ⟨f1, f2, f3, f4⟩
    · rw [f2] at HFT
      obtain ⟨At, ct, rfl, _, k6⟩ := HFT.out.len
      have hb1 : (rdErr rb long != 0) = true := by simpa using f1
      have hb2 : (rdErr rb long == 0) = false := by simpa using f1
      clear f1 f2
      generalize rdErr rb long = er at *
      go_wp2_with fail
      go_ret
      exact ⟨rfl, HT.out⟩
    · rw [f1]
      have HG2 := Lib.hid f2
      have HG3 := Lib.hid f3
      have HG4 := Lib.hid f4
      generalize rdL rb long = got at *
      clear f1 f2 f3 f4
      obtain ⟨At, ct, rfl, _, k6⟩ := HFT.out.len
      go_wp2_with fail
      refine (lay_any _ got _ HFT.out).mono ?_
      rintro e wl ⟨vl, rfl, hol, hel⟩
      rw [HG2.out]
      rw [HG3.out] at hol
      have HLB := Lib.hid hol.bs
      have HRL := Lib.hid (HRB.out.ext hel)
      have HTL := Lib.hid (HT.out.trans hel)
      clear hol hel HRB HFT HT
      go_wp2_with fail
      refine (bytesEqual_any _ _ rb rb _ HLB.out HRL.out).mono ?_
      rintro e wq ⟨rfl, rfl⟩
      rw [show (rb == rb) = true by simp, HG4.out]
      have hgl : ((long.length : Int) == (long.length : Int)) = true := by simp
      go_wp2_with fail
      go_ret
      exact ⟨rfl, HTL.out⟩
set_option maxRecDepth 100000 in
theorem packBack_told (W : World) (args : Array Value) (h : Told Try.f6 W args) : Calls Try.prog 6 args W (RetT W) := by
  obtain ⟨H, enc, base, ds, p, hval, hA⟩ := h
  rw [Try.params6] at hA hval
  obtain ⟨v0, v1, v2, d0, d1, d2, p0, p1, p2, ha, rfl, rfl, h0, h1, h2⟩ := trodAll_three hA
  obtain rfl : args = #[v0, v1, v2] := by apply Array.toList_inj.1; rw [ha]
  obtain ⟨x0, hx0⟩ := pts_came (hval 0 _ v0 rfl rfl) h0
  obtain ⟨x1, hx1⟩ := bs_came (hval 1 _ v1 rfl rfl) h1
  obtain ⟨x2, hx2⟩ := bls_came (hval 2 _ v2 rfl rfl) h2
  exact packBack_any v0 v1 v2 x0 x1 x2 W hx0 hx1 hx2

set_option maxRecDepth 100000 in
theorem packBack_spec (H : Type) : ∀ ds : List (DataW H), ds.length = Try.f6.params.toList.length → Rows.packBackSpec.fn H ds = { results := [.lit (.bool true)], args := ds }
  | [_, _, _], _ => rfl
  | [], h | [_], h | [_, _], h | _ :: _ :: _ :: _ :: _, h => by rw [Try.params6] at h; simp at h

set_option maxRecDepth 100000 in
theorem packBack_holds : Rows.PackBackSaid :=
  OpenClaim.holds_of_wide 6 Try.f6 rfl rfl rfl rfl rfl rfl rfl ⟨rfl, rfl, rfl, rfl, rfl⟩ rfl rfl rfl rfl rfl (by kernel_rfl) Try.func6 (by kernel_rfl)
    (of_decide_eq_true (by kernel_rfl)) (by unfold Func.isWrapper; first | (rw [if_pos (by decide +kernel)]; kernel_rfl) | (rw [if_neg (by decide +kernel)]; exact ⟨rfl, rfl⟩))
    (fun os started H enc _ => law_lifted started (by kernel_rfl) Try.func6 rfl rfl (packBack_spec H) (of_decide_eq_true (by kernel_rfl))
      (ChangeSpec.witness6 (enc := enc) (C := Try.checked) false ⟨#[], #[.slice none 0 0, .slice none 0 0, .slice none 0 0], []⟩ 8 (by kernel_rfl) (by kernel_rfl) (by kernel_rfl) (by kernel_rfl)) packBack_told)
end Go.Proofs.Ytdlllihfibjabaa
