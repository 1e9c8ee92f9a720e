/- Package pack: Lay. -/
import Derived.Test.YtdlllihfibjabaaPkf
namespace Go.Proofs.Ytdlllihfibjabaa
open Go.RowKit Go.Shelf

/-- The heads of the first k parts. -/
def hdL (l : List Pt) (k : Nat) : List UInt8 := ((l.take k).map fun p => bytL p.2.1 (List.range 32)).flatten
set_option maxRecDepth 100000 in
theorem hdL_next (l : List Pt) (k : Nat) (hk : k < l.length) : hdL l (k + 1) = hdL l k ++ bytL (l.getD k (false, 0, [])).2.1 (List.range 32) := by
  unfold hdL
  rw [List.take_succ_eq_append_getElem hk, List.map_append, List.flatten_append]
  simp [List.getD, hk]
set_option maxRecDepth 100000 in
theorem hdL_len (l : List Pt) (k : Nat) (hk : k ≤ l.length) : (hdL l k).length = 32 * k := by
  induction k with
  | zero => simp [hdL]
  | succ k ih =>
    rw [hdL_next l k (by omega), List.length_append, ih (by omega), bytL_len]
    simp
    omega
/-- Heads, and the first tails behind them. -/
def lyF (l : List Pt) : Nat → List UInt8
  | 0 => hdL l l.length
  | i + 1 => if (l.getD i (false, 0, [])).1 then lyR (lyF l i) i (l.getD i (false, 0, [])).2.2 else lyF l i
set_option maxRecDepth 100000 in
theorem lyR_len (R : List UInt8) (i : Nat) (d : List UInt8) : (lyR R i d).length = R.length + (32 + flN d.length) := by
  have : d.length ≤ flN d.length := by unfold flN; omega
  simp only [lyR, List.length_append, lay_length, nbL_len, List.length_replicate]
  omega
set_option maxRecDepth 100000 in
theorem lyF_len (l : List Pt) (i : Nat) (hi : i ≤ l.length) : (lyF l i).length = 32 * l.length + tlS l i := by
  induction i with
  | zero => show (hdL l l.length).length = _; rw [hdL_len l _ (Nat.le_refl _)]; simp [tlS]
  | succ i ih =>
    have h := ih (by omega)
    rw [tlS_next l i (by omega)]
    unfold lyF tlN
    split
    · rw [lyR_len, h]; omega
    · rw [h]; omega
/-- The bytes of parts. -/
def layL (l : List Pt) : List UInt8 := if errP l = 0 then lyF l l.length else []
/-- What Lay answers. -/
def RetLy (w : World) (l : List Pt) (e : Ending) (w' : World) : Prop := ∃ u, e = .returned (.tuple #[u, .int .i64 (errP l)]) ∧ Own w' w.heap.size 5 u (layL l) ∧ Ext w w'
set_option maxRecDepth 100000 in
theorem LyB.form {w0 : World} {g : Nat} {rv : Value} {R : List UInt8} {W : World} (h : LyB w0 g rv R W) : ∃ gg cap, rv = .slice (some ⟨gg, 0, none⟩) R.length cap ∧ R.length ≤ cap ∧ cap ≤ maxLen := by
  rcases h.2.1.2 with ⟨e, _⟩ | ⟨gg, cap, cur, e, _, _, h1, h2, _⟩
  · exact absurd e h.2.2.2.2.1
  · exact ⟨gg, cap, e, h1, h2⟩
set_option maxRecDepth 100000 in
theorem LyE.toExt {w0 : World} {g : Nat} {R : List UInt8} {W : World} (h : LyE w0 g R W) : Ext w0 W := by
  obtain ⟨rv, h⟩ := h
  exact h.2.2.1
def LyP (w0 : World) (g : Nat) (rv : Value) (R : List UInt8) (g7 : Nat) (p : Pt) (u : Value) (W : World) : Prop := LyB w0 g rv R W ∧ Pb W g7 p u
set_option maxRecDepth 100000 in
theorem LyP.ext {w0 : World} {g : Nat} {rv : Value} {R : List UInt8} {g7 : Nat} {p : Pt} {u : Value} {W W' : World} (h : LyP w0 g rv R g7 p u W) (he : Ext W W') : LyP w0 g rv R g7 p u W' := ⟨h.1.ext he, h.2.ext he⟩
set_option maxRecDepth 100000 in
theorem LyE.tails (v : Value) (l : List Pt) (w2 : World) (g : Nat) (hv : Pts w2 v l) (h0 : errP l = 0) (W2 : World) (h : LyE w2 g (lyF l 0) W2) :
    Calls Try.prog 57 #[.func (.func 58) #[] #[.pointer (some ⟨g, 0, none⟩)], v] W2 fun e w' => e = .returned (.tuple #[]) ∧ LyE w2 g (lyF l l.length) w' :=
  tails_any 58 #[.pointer (some ⟨g, 0, none⟩)] v l (fun i W => LyE w2 g (lyF l i) W) W2 (enters_of Try.func58 (by kernel_rfl) rfl) h w2 hv (fun i W h => h.toExt) (fun i W W' h he => h.ext he)
    (fun i W hi hn h => by
      show LyE w2 g (lyF l (i + 1)) W
      have e : lyF l (i + 1) = lyF l i := by show (if _ then _ else _) = _; rw [hn]; rfl
      rw [e]
      exact h)
    (fun i u W hi hy h hu _ => (lay1_any i g u _ (lyF l i) w2 W (by rw [lyF_len l i (by omega)]; omega) (by rw [lyF_len l i (by omega)]; have := tlS_le l h0 i (by omega); have := errP_len l h0; omega) (by have := mayB_data _ (errP_all l h0 i hi); omega) hu h).mono fun e W' ⟨e1, e2⟩ => ⟨e1, by
      show LyE w2 g (lyF l (i + 1)) W'
      have e3 : lyF l (i + 1) = lyR (lyF l i) i (l.getD i (false, 0, [])).2.2 := by show (if _ then _ else _) = _; rw [hy]; rfl
      rw [e3]
      exact e2⟩)

set_option maxRecDepth 100000 in
set_option maxHeartbeats 1000000 in
theorem lay_any (v : Value) (l : List Pt) (w : World) (hv : Pts w v l) : Calls Try.prog 18 #[v] w (RetLy w l) := by
  have HV := Lib.hid hv
  obtain ⟨A0, c, rfl, h1, h2⟩ := hv.len
  unfold maxLen at h2
  clear hv
  obtain ⟨i0, hi, hz0, hz1, hz2⟩ := info_parts u8info
  go_enter Try.func18, Try.ntmps18
  go_wp2_with fail
  refine (check_any _ l _ HV.out).mono ?_
  rintro e w1 ⟨rfl, he⟩
  have HE := Lib.hid he
  clear he
  by_cases h0 : errP l = 0
  · have hl := errP_len l h0
    have HZ := Lib.hid (show szN l ≤ 5000 by unfold szN; rw [if_pos h0]; have := tlS_le l h0 _ (Nat.le_refl _); omega)
    have HLY := Lib.hid (show layL l = lyF l l.length by unfold layL; rw [if_pos h0])
    have HTL := Lib.hid (fun w2 (h : Pts w2 (.slice A0 l.length c) l) g => LyE.tails _ l w2 g h h0)
    have HER := Lib.hid h0
    have HW := Lib.hid (fun k (hk : k < l.length) => hdL_next l k hk)
    have HLN := Lib.hid (fun k (hk : k ≤ l.length) => hdL_len l k hk)
    rw [h0]
    go_wp2_with fail
    refine (size_any _ l _ (HV.out.ext HE.out)).mono ?_
    rintro e w2 ⟨rfl, he⟩
    have HE2 := Lib.hid (HE.out.trans he)
    have HV2 := Lib.hid (HV.out.ext HE2.out)
    clear he
    have hz := HZ.out
    generalize szN l = sz at *
    go_wp2_with (at_make; refine wpList_make_own _ rfl _ _ 28 rfl w2.heap.size 5 i0 (.int .u8 0) 1 Try.underlying28 hi hz0 hz1 .i64 .i64 _ sz rfl rfl rfl (by rw [hz2]; omega) (by unfold maxLen; omega) (Nat.le_refl _) ?_; intro w3 ho hg; have HL0 : Hid (LyE w2 w3.heap.size [] (w3.alloc (.cells #[.slice (some ⟨w2.heap.size, 0, none⟩) 0 sz] 28))) := Lib.hid ⟨_, Cs.new _ _ _ _ rfl, Own.ext (show Own w3 w2.heap.size 5 (.slice (some ⟨w2.heap.size, 0, none⟩) 0 sz) [] from ho) ((Ext.refl w3).alloc _), (ext_of_grown hg).alloc _, hg.size, (by intro e; cases e), (by intro e; injection e with e; have := ho.lt _ rfl; omega)⟩; clear ho hg)
    generalize w3.heap.size = g at *
    go_loopw [18] (fun x wr => ∃ k : Nat, k ≤ l.length ∧ x = .int .i64 k ∧ Hid (LyE w2 g (hdL l k) wr)) (fun x _ => l.length - (intOf x).toNat)
    case atStart => exact ⟨0, by omega, rfl, by simpa [hdL] using HL0⟩
    case round =>
      clear HL0
      obtain ⟨k, hk, rfl, HL⟩ := hrel
      by_cases hlt : k < l.length
      · have hdk : decide (k < l.length) = true := decide_eq_true hlt
        obtain ⟨rv, hB0⟩ := HL.out
        obtain ⟨gg, cap, rfl, hc1, hc2⟩ := hB0.form
        unfold maxLen at hc2
        have HB0 := Lib.hid hB0
        have hR := hdL_len l k hk
        obtain ⟨b, o, u, rfl, hr, hu, hw⟩ := HV2.out.at k hlt
        have HR := Lib.hid (show wr.rangeAt b (o + k * 6) (ptc (l.getD k (false, 0, [])) u).toList from fun j x h => HB0.out.2.2.1.cell (hr j x h))
        have HU := Lib.hid hu
        have HN := Lib.hid (HW.out k hlt)
        clear hr hu hB0 HL
        generalize hR2 : hdL l (k + 1) = R2 at *
        have HR2 := Lib.hid hR2
        clear hR2
        generalize hdL l k = R at *
        generalize hn : R.length = n at *
        have HRL := Lib.hid hn
        have hnb : n ≤ 512 := by omega
        clear hn hR
        generalize l.getD k (false, 0, []) = p at *
        go_upto_region 8 with (first
          | ((with_reducible refine wpList_load_part ?_ (.tmp 20) ?_ b (o + k * 6) p u ?_ ?_ ?_); (exact rfl); (exact rfl); (exact rfl); (exact HR.out))
          | ((with_reducible refine wpList_store_part ?_ ?_ (.tmp 7) (.tmp 21) ?_ wr.heap.size pz p u ?_ ?_ ?_ ?_ ?_ ?_); (exact rfl); (exact rfl); (exact rfl); (exact bs_one HU.out); (exact rfl); (exact rfl); (exact Cs.new _ _ _ _ rfl); (exact rfl); intro w4 k4 g4; have HP4 : Hid (LyP w2 g (.slice (some ⟨gg, 0, none⟩) n cap) R wr.heap.size p u w4) := Lib.hid ⟨HB0.out.ext (((Ext.refl wr).alloc _).grown g4 (Nat.le_refl _)), k4⟩; clear k4 g4))
        obtain ⟨lg, nn, d⟩ := p
        dsimp only at *
        generalize wr.heap.size = g7 at *
        have HBY := Lib.hid (fun W => bytes_any nn W)
        have HN2 := Lib.hid (show R2.length = n + 32 by rw [HN.out, List.length_append, bytL_len, HRL.out]; simp)
        clear HB0 HR HU
        generalize bytL nn (List.range 32) = bn at *
        have HBL := Lib.hid (show bn.length = 32 by have h1 := HN2.out; rw [HN.out, List.length_append, HRL.out] at h1; omega)
        refine wp_named fun a0 ha0 => ?_
        obtain ⟨fr, hfr⟩ : ∃ fr : (Nat → Value) → Act, ∀ V, fr V = (((((a0.put (some 22) (V 0)).put (some 23) (V 1)).put (some 24) (V 2)).put (some 25) (V 3)).put (some 26) (V 4)) := ⟨fun V => (((((a0.put (some 22) (V 0)).put (some 23) (V 1)).put (some 24) (V 2)).put (some 25) (V 3)).put (some 26) (V 4)), fun _ => rfl⟩
        rw [ha0] at hfr
        simp only [Act.put, List.setIfInBounds_toArray, List.set_cons_zero, List.set_cons_succ] at hfr
        have HFR := Lib.hid hfr
        clear hfr
        refine wp_region_inv (by kernel_rfl) (by kernel_rfl) (fun L A W => ∃ V : Nat → Value, A = fr V ∧ Vals (fun j => ([some (.slice (some ⟨gg, 0, none⟩) n cap), some (.pointer (some ⟨g7, 1, none⟩)), some (wv nn), none, none, none] : List (Option Value)).getD j none) L V ∧ (L 4 = false → LyP w2 g (.slice (some ⟨gg, 0, none⟩) n cap) R g7 (lg, nn, d) u W) ∧ (L 4 = true → L 5 = false → LyA w2 g (V 4) R2 W) ∧ (L 5 = true → LyE w2 g R2 W) ∧ (L 4 = false → L 3 = true → Bs W (V 3) bn) ∧ (L 5 = false → L 4 = true → SlK (n + 32) (V 4))) ?_ ⟨?_, ?_, ?_, ?_, ?_, ?_, trivial⟩ ?_
        · refine ⟨fun j => a0.tmps.getD (([22, 23, 24, 25, 26, 0] : List Nat).getD j 0) undef, ?_, Vals.no _ _ _ (far_none _ _ rfl), fun _ => HP4.out.ext (Ext.refl _).drew, fun h0 h1 => absurd h0 (by decide), fun h0 => absurd h0 (by decide), fun h0 h1 => absurd h1 (by decide), fun h0 h1 => absurd h1 (by decide)⟩
          rw [HFR.out, ha0]
          rfl
        all_goals clear ha0
        · rintro L A W K hL hC hW ⟨V, rfl, HV, s0, s1, s2, f3, f4⟩ hK
          have hB := s0 (hC.no hL 4 _ rfl rfl)
          have H := Lib.hid (show ∀ W', Ext W W' → K (fr (upd V 0 (.slice (some ⟨gg, 0, none⟩) n cap))) W' from fun W' he => hK _ _ ⟨upd V 0 (.slice (some ⟨gg, 0, none⟩) n cap), rfl, HV.up 0 _ (fun x hx => Option.some.inj hx), fun h0 => LyP.ext (s0 (by unfold More at h0; rwa [if_neg (by decide)] at h0)) he, fun h0 h1 => LyA.ext (s1 (more_ne h0 rfl) (by unfold More at h1; rwa [if_neg (by decide)] at h1)) he, fun h0 => LyE.ext (s2 (more_ne h0 rfl)) he, fun h0 h1 => Bs.ext (f3 (by unfold More at h0; rwa [if_neg (by decide)] at h0) (more_ne h1 rfl)) he, fun h0 h1 => (fun h _ => h) (f4 (by unfold More at h0; rwa [if_neg (by decide)] at h0) (more_ne h1 rfl)) he⟩)
          clear hK hC hW hL HV s0 s1 s2 f3 f4
          rw [HFR.out]
          have hcl := Cs.cell hB.1.1 0 _ rfl
          clear hB
          go_wp2_with fail
          show K _ _
          have := H.out _ (Ext.refl _)
          rw [HFR.out] at this
          exact this
        · rintro L A W K hL hC hW ⟨V, rfl, HV, s0, s1, s2, f3, f4⟩ hK
          have H := Lib.hid (show ∀ W', Ext W W' → K (fr (upd V 1 (.pointer (some ⟨g7, 1, none⟩)))) W' from fun W' he => hK _ _ ⟨upd V 1 (.pointer (some ⟨g7, 1, none⟩)), rfl, HV.up 1 _ (fun x hx => Option.some.inj hx), fun h0 => LyP.ext (s0 (by unfold More at h0; rwa [if_neg (by decide)] at h0)) he, fun h0 h1 => LyA.ext (s1 (more_ne h0 rfl) (by unfold More at h1; rwa [if_neg (by decide)] at h1)) he, fun h0 => LyE.ext (s2 (more_ne h0 rfl)) he, fun h0 h1 => Bs.ext (f3 (by unfold More at h0; rwa [if_neg (by decide)] at h0) (more_ne h1 rfl)) he, fun h0 h1 => (fun h _ => h) (f4 (by unfold More at h0; rwa [if_neg (by decide)] at h0) (more_ne h1 rfl)) he⟩)
          clear hK hC hW hL HV s0 s1 s2 f3 f4
          rw [HFR.out]
          go_wp2_with fail
          show K _ _
          have := H.out _ (Ext.refl _)
          rw [HFR.out] at this
          exact this
        · rintro L A W K hL hC hW ⟨V, rfl, HV, s0, s1, s2, f3, f4⟩ hK
          have e1 : V 1 = .pointer (some ⟨g7, 1, none⟩) := HV 1 _ rfl (hW 1 rfl)
          have hB := s0 (hC.no (hC.no hL 3 _ rfl rfl) 4 _ rfl rfl)
          have H := Lib.hid (show ∀ W', Ext W W' → K (fr (upd V 2 (wv nn))) W' from fun W' he => hK _ _ ⟨upd V 2 (wv nn), rfl, HV.up 2 _ (fun x hx => Option.some.inj hx), fun h0 => LyP.ext (s0 (by unfold More at h0; rwa [if_neg (by decide)] at h0)) he, fun h0 h1 => LyA.ext (s1 (more_ne h0 rfl) (by unfold More at h1; rwa [if_neg (by decide)] at h1)) he, fun h0 => LyE.ext (s2 (more_ne h0 rfl)) he, fun h0 h1 => Bs.ext (f3 (by unfold More at h0; rwa [if_neg (by decide)] at h0) (more_ne h1 rfl)) he, fun h0 h1 => (fun h _ => h) (f4 (by unfold More at h0; rwa [if_neg (by decide)] at h0) (more_ne h1 rfl)) he⟩)
          have HU := Lib.hid (show (upd V 2 (wv nn)) 1 = .pointer (some ⟨g7, 1, none⟩) from e1)
          clear hK hC hW hL HV s0 s1 s2 f3 f4
          rw [HFR.out]
          rw [e1]
          clear e1
          have HWD := Lib.hid hB.2.word
          clear hB
          refine wpList_load_wordIn rfl (.tmp 23) rfl g7 1 nn rfl HWD.out ?_
          show K _ _
          have := H.out _ (Ext.refl _)
          rw [HFR.out] at this
          obtain u1 := HU.out
          rw [u1] at this
          exact this
        · rintro L A W K hL hC hW ⟨V, rfl, HV, s0, s1, s2, f3, f4⟩ hK
          have e2 : V 2 = wv nn := HV 2 _ rfl (hW 2 rfl)
          have hB := s0 (hC.no hL 4 _ rfl rfl)
          have H := Lib.hid (show ∀ v W', Ext W W' → (Bs W' v bn) → K (fr (upd V 3 v)) W' from fun v W' he hp => hK _ _ ⟨upd V 3 v, rfl, HV.up 3 _ (fun x hx => absurd hx (by intro h; cases h)), fun h0 => LyP.ext (s0 (by unfold More at h0; rwa [if_neg (by decide)] at h0)) he, fun h0 h1 => LyA.ext (s1 (more_ne h0 rfl) (by unfold More at h1; rwa [if_neg (by decide)] at h1)) he, fun h0 => LyE.ext (s2 (more_ne h0 rfl)) he, fun h0 h1 => hp, fun h0 h1 => (fun h _ => h) (f4 (by unfold More at h0; rwa [if_neg (by decide)] at h0) (more_ne h1 rfl)) he⟩)
          have HU := Lib.hid (show ∀ v, (upd V 3 v) 2 = wv nn from fun v => e2)
          clear hK hC hW hL HV s0 s1 s2 f3 f4
          rw [HFR.out]
          rw [e2]
          clear e2
          go_wp2_with fail
          refine (HBY.out _).mono ?_
          rintro e wx ⟨v, rfl, ho, he⟩
          have := H.out _ _ he (ho.bs)
          clear H
          go_wp2_with fail
          show K _ _
          rw [HFR.out] at this
          obtain u2 := HU.out _
          rw [u2] at this
          exact this
        · rintro L A W K hL hC hW ⟨V, rfl, HV, s0, s1, s2, f3, f4⟩ hK
          have e0 : V 0 = .slice (some ⟨gg, 0, none⟩) n cap := HV 0 _ rfl (hW 0 rfl)
          have hB := s0 hL
          have q3 := f3 hL (hW 3 rfl)
          have H := Lib.hid (show ∀ v W', (LyA w2 g v R2 W') → (SlK (n + 32) v) → K (fr (upd V 4 v)) W' from fun v W' hA hp => hK _ _ ⟨upd V 4 v, rfl, HV.up 4 _ (fun x hx => absurd hx (by intro h; cases h)), fun h0 => absurd h0 (by unfold More; rw [if_pos rfl]; simp), fun h0 h1 => hA, fun h0 => absurd (more_ne h0 rfl) (by rw [(hC.no hL 5 _ rfl rfl)]; simp), fun h0 h1 => absurd h0 (by unfold More; rw [if_pos rfl]; simp), fun h0 h1 => hp⟩)
          have HU := Lib.hid (show ∀ v, (upd V 4 v) 0 = .slice (some ⟨gg, 0, none⟩) n cap from fun v => e0)
          clear hK hC hW hL HV s0 s1 s2 f3 f4
          rw [HFR.out]
          rw [e0]
          clear e0
          have HB := Lib.hid hB
          have Q3 := Lib.hid q3
          clear hB q3
          go_wp2_with (at_builtin; go_loud (refine wpList_append_bytes rfl (.tmp 22) (.tmp 25) _ rfl w2.heap.size 5 Try.underlying28 u8info _ R rfl HB.out.1.2.1 _ bn rfl Q3.out (by rw [HRL.out, HBL.out]; omega) HB.out.1.2.2.1.size ?_); intro v' W' ho hg hb; rw [← HN.out] at ho; have HP := Lib.hid (SlK.of ho (by rw [HN2.out]; omega) _ HN2.out); have HA := Lib.hid (HB.out.1.more ho hg hb (Own.notNil ho (by rw [HN2.out]; omega))); clear ho hg hb)
          show K _ _
          have := H.out _ _ HA.out HP.out
          rw [HFR.out] at this
          obtain u0 := HU.out _
          rw [u0] at this
          exact this
        · rintro L A W K hL hC hW ⟨V, rfl, HV, s0, s1, s2, f3, f4⟩ hK
          have hB := s1 (hW 4 rfl) hL
          have q4 := f4 hL (hW 4 rfl)
          obtain ⟨G4, c4, e4⟩ := q4
          have H := Lib.hid (show ∀ W', (LyE w2 g R2 W') → K (fr (V)) W' from fun W' hA => hK _ _ ⟨V, rfl, HV.st 5 rfl, fun h0 => absurd (show L 4 = false by unfold More at h0; rwa [if_neg (by decide)] at h0) (by rw [(hW 4 rfl)]; simp), fun h0 h1 => absurd h1 (by unfold More; rw [if_pos rfl]; simp), fun h0 => hA, fun h0 h1 => absurd (show L 4 = false by unfold More at h0; rwa [if_neg (by decide)] at h0) (by rw [(hW 4 rfl)]; simp), fun h0 h1 => absurd h0 (by unfold More; rw [if_pos rfl]; simp)⟩)
          have HU := Lib.hid (show (V) 4 = .slice (some ⟨G4, 0, none⟩) (n + 32) c4 from e4)
          clear hK hC hW hL HV s0 s1 s2 f3 f4
          rw [HFR.out]
          rw [e4]
          clear e4
          have HB := Lib.hid hB
          clear hB
          have HB2 := Lib.hid (show LyA w2 g (.slice (some ⟨G4, 0, none⟩) (n + 32) c4) R2 W from by have := HB.out; rwa [HU.out] at this)
          obtain ⟨rv0, hcs⟩ := HB2.out.1
          have hc := Cs.cell hcs 0 _ rfl
          have hf := Cs.frozen hcs 0
          clear hcs HB
          have HA := Lib.hid (show LyE w2 g R2 _ from ⟨_, HB2.out.put⟩)
          go_wp2_with fail
          show K _ _
          have := H.out _ HA.out
          rw [HFR.out] at this
          obtain u4 := HU.out
          rw [u4] at this
          exact this
        · rintro L A W hL ⟨V, rfl, HV, s0, s1, s2, f3, f4⟩
          have e0 : V 0 = .slice (some ⟨gg, 0, none⟩) n cap := HV 0 _ rfl (hL 0 (by simp))
          have e1 : V 1 = .pointer (some ⟨g7, 1, none⟩) := HV 1 _ rfl (hL 1 (by simp))
          have e2 : V 2 = wv nn := HV 2 _ rfl (hL 2 (by simp))
          have hA := s2 (hL 5 (by simp))
          rw [HFR.out]
          rw [e0, e1, e2]
          clear hL HV HFR e0 e1 e2 s0 s1 s2 f3 f4
          have HL8 := Lib.hid hA
          clear hA
          go_wp2_with fail
          exact ⟨⟨k + 1, by omega, by go_num, by rw [HR2.out]; exact HL8⟩, by simp [intOf]; omega⟩
      · obtain rfl : k = l.length := by omega
        have HT := Lib.hid (HTL.out w2 HV2.out g wr HL.out)
        clear HL
        go_wp2_with fail
        refine HT.out.mono ?_
        rintro e w5 ⟨rfl, hj⟩
        obtain ⟨rv, hB⟩ := hj
        have HB := Lib.hid hB
        obtain ⟨gg, cap, e5, _, _⟩ := hB.form
        subst e5
        have hc := Cs.cell hB.1 0 _ rfl
        clear hB
        go_wp2_with fail
        refine bodyPost_ret (results_tmp2 rfl _ _ _) rfl ?_
        exact ⟨_, by rw [HER.out]; rfl, by rw [HLY.out]; exact Own.mono HB.out.2.1 HE2.out.size, HE2.out.trans HB.out.2.2.1⟩
  · have HLY := Lib.hid (show layL l = [] by unfold layL; rw [if_neg h0])
    have hd : (errP l == 0) = false := by simpa using h0
    generalize he : errP l = er at *
    have HEE := Lib.hid he
    clear he
    go_wp2_with fail
    refine bodyPost_ret (results_tmp2 rfl _ _ _) rfl ?_
    exact ⟨.slice none 0 0, by rw [HEE.out]; rfl, by rw [HLY.out]; exact World.ownsRow_nil _ _ _ _, HE.out⟩
end Go.Proofs.Ytdlllihfibjabaa
