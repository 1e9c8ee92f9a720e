/- Package pack: the closure of Lay. -/
import Derived.Test.YtdlllihfibjabaaPke
import Derived.Test.YtdlllihfibjabaaByu
namespace Go.Proofs.Ytdlllihfibjabaa
open Go.RowKit Go.Shelf

/-- The variable g holds the row rv, which reads as R. -/
def LyB (w0 : World) (g : Nat) (rv : Value) (R : List UInt8) (W : World) : Prop := Cs W g 28 #[rv] ∧ Own W w0.heap.size 5 rv R ∧ Ext w0 W ∧ w0.heap.size ≤ g ∧ rv ≠ .slice none 0 0 ∧ rv.ownBlock ≠ some g
set_option maxRecDepth 100000 in
theorem LyB.ext {w0 : World} {g : Nat} {rv : Value} {R : List UInt8} {W W' : World} (h : LyB w0 g rv R W) (he : Ext W W') : LyB w0 g rv R W' := ⟨Cs.ext h.1 he, h.2.1.ext he, h.2.2.1.trans he, h.2.2.2⟩
set_option maxRecDepth 100000 in
theorem LyB.wrote {w0 : World} {g : Nat} {rv : Value} {R R' : List UInt8} {W W' : World} (h : LyB w0 g rv R W) (ho : Own W' w0.heap.size 5 rv R') (hg : W.grownBy W' rv.ownBlock) : LyB w0 g rv R' W' :=
  ⟨Cs.kept h.1 hg (Ne.symm h.2.2.2.2.2), ho, Below.grown h.2.2.1 hg h.2.2.1.size (fun j hj => (h.2.1.lt j hj).1), h.2.2.2⟩
/-- The row v is there, and the variable g not yet. -/
def LyA (w0 : World) (g : Nat) (v : Value) (R : List UInt8) (W : World) : Prop := (∃ rv, Cs W g 28 #[rv]) ∧ Own W w0.heap.size 5 v R ∧ Ext w0 W ∧ w0.heap.size ≤ g ∧ v ≠ .slice none 0 0 ∧ v.ownBlock ≠ some g
set_option maxRecDepth 100000 in
theorem LyA.ext {w0 : World} {g : Nat} {rv : Value} {R : List UInt8} {W W' : World} (h : LyA w0 g rv R W) (he : Ext W W') : LyA w0 g rv R W' := by
  obtain ⟨⟨rv2, h1⟩, h2⟩ := h
  exact ⟨⟨rv2, Cs.ext h1 he⟩, h2.1.ext he, h2.2.1.trans he, h2.2.2⟩
set_option maxRecDepth 100000 in
theorem LyB.more {w0 : World} {g : Nat} {rv v : Value} {R R' : List UInt8} {W W' : World} (h : LyB w0 g rv R W) (ho : Own W' w0.heap.size 5 v R') (hg : W.grownBy W' rv.ownBlock) (hb : v.ownBlock = rv.ownBlock ∨ v.ownBlock = some W.heap.size) (hn : v ≠ .slice none 0 0) : LyA w0 g v R' W' :=
  ⟨⟨rv, Cs.kept h.1 hg (Ne.symm h.2.2.2.2.2)⟩, ho, Below.grown h.2.2.1 hg h.2.2.1.size (fun j hj => (h.2.1.lt j hj).1), h.2.2.2.1, hn, by
    rcases hb with e | e
    · rw [e]; exact h.2.2.2.2.2
    · rw [e]; intro e2; injection e2 with e2; have := Cs.lt h.1; omega⟩
set_option maxRecDepth 100000 in
theorem LyA.put {w0 : World} {g : Nat} {v : Value} {R : List UInt8} {W : World} (h : LyA w0 g v R W) : LyB w0 g v R (W.setCell ⟨g, 0, none⟩ v) := by
  obtain ⟨⟨rv, h1⟩, h2, h3, h4, h5, h6⟩ := h
  exact ⟨Cs.set h1 0 v, World.ownsRow.kept h2 (grown_set _ _ _ _) (.inr h6), h3.grown (grown_set _ _ _ _) h4, h4, h5, h6⟩
set_option maxRecDepth 100000 in
theorem Own.notNil {w : World} {b : Nat} {e : TypeId} {v : Value} {l : List UInt8} (h : Own w b e v l) (hl : 0 < l.length) : v ≠ .slice none 0 0 := by
  obtain ⟨g, cap, rfl, _⟩ := h.form hl
  intro e
  cases e
/-- A slice of k elements. -/
def SlK (k : Nat) (v : Value) : Prop := ∃ G c, v = .slice (some ⟨G, 0, none⟩) k c
set_option maxRecDepth 100000 in
theorem SlK.of {w : World} {b : Nat} {e : TypeId} {v : Value} {l : List UInt8} (h : Own w b e v l) (hl : 0 < l.length) (k : Nat) (hk : l.length = k) : SlK k v := by
  obtain ⟨g, cap, rfl, _⟩ := h.form hl
  subst hk
  exact ⟨g, cap, rfl⟩

/-- Some row is in the variable g, and reads as R. -/
def LyE (w0 : World) (g : Nat) (R : List UInt8) (W : World) : Prop := ∃ rv, LyB w0 g rv R W
set_option maxRecDepth 100000 in
theorem LyE.ext {w0 : World} {g : Nat} {R : List UInt8} {W W' : World} (h : LyE w0 g R W) (he : Ext W W') : LyE w0 g R W' := by
  obtain ⟨rv, h⟩ := h
  exact ⟨rv, h.ext he⟩
/-- What is behind a tail. -/
def lyR (R : List UInt8) (i : Nat) (d : List UInt8) : List UInt8 := lay R (32 * i) (nbL R.length) ++ nbL d.length ++ d ++ List.replicate (flN d.length - d.length) 0
set_option maxRecDepth 100000 in
set_option maxHeartbeats 1000000 in
theorem lay1_any (i g : Nat) (u : Value) (d R : List UInt8) (w0 w : World) (hR : 32 * i + 32 ≤ R.length) (hRm : R.length ≤ 1000000000) (hd : d.length ≤ 1000000000) (hu : Bs w0 u d) (hg : LyE w0 g R w) :
    Calls Try.prog 58 #[.int .i64 (i : Int), u, .pointer (some ⟨g, 0, none⟩)] w fun e w' => e = .returned (.tuple #[]) ∧ LyE w0 g (lyR R i d) w' := by
  obtain ⟨rv, hg⟩ := hg
  have HU := Lib.hid hu
  have HG0 := Lib.hid hg
  obtain ⟨gg, cap, rfl, _, _, _, _⟩ := hg.2.1.form (by omega)
  obtain ⟨A0, c, rfl, h1, h2, _⟩ := hu
  unfold maxLen at h2
  have hcap : R.length ≤ cap ∧ cap ≤ maxLen := by obtain ⟨_, _, e1, h1, h2, _⟩ := hg.2.1.bs; injection e1 with e2 e3 e4; omega
  unfold maxLen at hcap
  clear hg
  go_enter Try.func58, Try.ntmps58
  have HNB := Lib.hid (fun W => packNumber_any R.length W (by omega))
  have HNL := Lib.hid (nbL_len R.length)
  have HND := Lib.hid (fun W => packNumber_any d.length W (by omega))
  generalize hn : R.length = n at *
  have HN := Lib.hid hn
  clear hn
  have HLL := Lib.hid (fun (W : World) v (h : LyB w0 g (.slice (some ⟨gg, 0, none⟩) n cap) R W) (hv : Bs W v (nbL n)) => h)
  generalize hq : 32 * i = q at *
  have a3 : 32 * (i : Int) = (q : Int) := by omega
  have a4 : IntKind.i64.wrap (32 * (i : Int)) = (q : Int) := by rw [IntWalk.i64_in _ (by omega)]; omega
  have a10 : IntKind.i64.wrap (q : Int) = (q : Int) := IntWalk.i64_in _ (by omega)
  have a5 : (0 : Int) ≤ (q : Int) := by omega
  have a6 : (q : Int) ≤ (n : Int) := by omega
  have a7 : ¬ cap - q = 0 := by omega
  have a8 : q ≤ n := by omega
  have a9 : ¬ cap = q := by omega
  have a11 : 32 ≤ n - q := by omega
  have a12 : q + 32 ≤ n := by omega
  go_wp2_with fail
  refine wp_named fun a0 ha0 => ?_
  obtain ⟨fr, hfr⟩ : ∃ fr : (Nat → Value) → Act, ∀ V, fr V = ((((((((a0.put (some 5) (V 0)).put (some 6) (V 1)).put (some 7) (V 2)).put (some 8) (V 3)).put (some 9) (V 4)).put (some 10) (V 5)).put (some 11) (V 6)).put (some 12) (V 7)) := ⟨fun V => ((((((((a0.put (some 5) (V 0)).put (some 6) (V 1)).put (some 7) (V 2)).put (some 8) (V 3)).put (some 9) (V 4)).put (some 10) (V 5)).put (some 11) (V 6)).put (some 12) (V 7)), fun _ => rfl⟩
  rw [ha0] at hfr
  simp only [Act.put, List.setIfInBounds_toArray, List.set_cons_zero, List.set_cons_succ] at hfr
  have HFR := Lib.hid hfr
  clear hfr
  refine wp_region_inv (by kernel_rfl) (by kernel_rfl) (fun L A W => ∃ V : Nat → Value, A = fr V ∧ Vals (fun j => ([some (.slice (some ⟨gg, 0, none⟩) n cap), some (.int .i64 (i : Nat)), some (.int .i64 (q : Nat)), some (.slice (some ⟨gg, q, none⟩) (n - q) (cap - q)), some (.slice (some ⟨gg, 0, none⟩) n cap), some (.int .i64 (n : Nat)), none, some (.int .i64 32)] : List (Option Value)).getD j none) L V ∧ (L 7 = false → LyB w0 g (.slice (some ⟨gg, 0, none⟩) n cap) R W) ∧ (L 7 = true → LyB w0 g (.slice (some ⟨gg, 0, none⟩) n cap) (lay R q (nbL n)) W) ∧ (L 7 = false → L 6 = true → Bs W (V 6) (nbL n))) ?_ ⟨?_, ?_, ?_, ?_, ?_, ?_, ?_, ?_, trivial⟩ ?_
  · refine ⟨fun j => a0.tmps.getD (([5, 6, 7, 8, 9, 10, 11, 12] : List Nat).getD j 0) undef, ?_, Vals.no _ _ _ (far_none _ _ rfl), fun _ => HG0.out.ext (Ext.refl _).drew, fun h0 => absurd h0 (by decide), fun h0 h1 => absurd h1 (by decide)⟩
    rw [HFR.out, ha0]
    rfl
  all_goals clear ha0
  · rintro L A W K hL hC hW ⟨V, rfl, HV, s0, s1, f6⟩ hK
    have hB := s0 (hC.no (hC.no hL 3 _ rfl rfl) 7 _ rfl rfl)
    have H := Lib.hid (show ∀ W', Ext W W' → K (fr (upd V 0 (.slice (some ⟨gg, 0, none⟩) n cap))) W' from fun W' he => hK _ _ ⟨upd V 0 (.slice (some ⟨gg, 0, none⟩) n cap), rfl, HV.up 0 _ (fun x hx => Option.some.inj hx), fun h0 => LyB.ext (s0 (by unfold More at h0; rwa [if_neg (by decide)] at h0)) he, fun h0 => LyB.ext (s1 (more_ne h0 rfl)) he, fun h0 h1 => Bs.ext (f6 (by unfold More at h0; rwa [if_neg (by decide)] at h0) (more_ne h1 rfl)) he⟩)
    clear hK hC hW hL HV s0 s1 f6
    rw [HFR.out]
    have hcl := Cs.cell hB.1 0 _ rfl
    clear hB
    go_wp2_with fail
    show K _ _
    have := H.out _ (Ext.refl _)
    rw [HFR.out] at this
    exact this
  · rintro L A W K hL hC hW ⟨V, rfl, HV, s0, s1, f6⟩ hK
    have H := Lib.hid (show ∀ W', Ext W W' → K (fr (upd V 1 (.int .i64 (i : Nat)))) W' from fun W' he => hK _ _ ⟨upd V 1 (.int .i64 (i : Nat)), rfl, HV.up 1 _ (fun x hx => Option.some.inj hx), fun h0 => LyB.ext (s0 (by unfold More at h0; rwa [if_neg (by decide)] at h0)) he, fun h0 => LyB.ext (s1 (more_ne h0 rfl)) he, fun h0 h1 => Bs.ext (f6 (by unfold More at h0; rwa [if_neg (by decide)] at h0) (more_ne h1 rfl)) he⟩)
    clear hK hC hW hL HV s0 s1 f6
    rw [HFR.out]
    go_wp2_with fail
    show K _ _
    have := H.out _ (Ext.refl _)
    rw [HFR.out] at this
    exact this
  · rintro L A W K hL hC hW ⟨V, rfl, HV, s0, s1, f6⟩ hK
    have e1 : V 1 = .int .i64 (i : Nat) := HV 1 _ rfl (hW 1 rfl)
    have H := Lib.hid (show ∀ W', Ext W W' → K (fr (upd V 2 (.int .i64 (q : Nat)))) W' from fun W' he => hK _ _ ⟨upd V 2 (.int .i64 (q : Nat)), rfl, HV.up 2 _ (fun x hx => Option.some.inj hx), fun h0 => LyB.ext (s0 (by unfold More at h0; rwa [if_neg (by decide)] at h0)) he, fun h0 => LyB.ext (s1 (more_ne h0 rfl)) he, fun h0 h1 => Bs.ext (f6 (by unfold More at h0; rwa [if_neg (by decide)] at h0) (more_ne h1 rfl)) he⟩)
    have HU := Lib.hid (show (upd V 2 (.int .i64 (q : Nat))) 1 = .int .i64 (i : Nat) from e1)
    clear hK hC hW hL HV s0 s1 f6
    rw [HFR.out]
    rw [e1]
    clear e1
    go_wp2_with fail
    show K _ _
    have := H.out _ (Ext.refl _)
    rw [HFR.out] at this
    obtain u1 := HU.out
    rw [u1] at this
    exact this
  · rintro L A W K hL hC hW ⟨V, rfl, HV, s0, s1, f6⟩ hK
    have e0 : V 0 = .slice (some ⟨gg, 0, none⟩) n cap := HV 0 _ rfl (hW 0 rfl)
    have e2 : V 2 = .int .i64 (q : Nat) := HV 2 _ rfl (hW 2 rfl)
    have H := Lib.hid (show ∀ W', Ext W W' → K (fr (upd V 3 (.slice (some ⟨gg, q, none⟩) (n - q) (cap - q)))) W' from fun W' he => hK _ _ ⟨upd V 3 (.slice (some ⟨gg, q, none⟩) (n - q) (cap - q)), rfl, HV.up 3 _ (fun x hx => Option.some.inj hx), fun h0 => LyB.ext (s0 (by unfold More at h0; rwa [if_neg (by decide)] at h0)) he, fun h0 => LyB.ext (s1 (more_ne h0 rfl)) he, fun h0 h1 => Bs.ext (f6 (by unfold More at h0; rwa [if_neg (by decide)] at h0) (more_ne h1 rfl)) he⟩)
    have HU := Lib.hid (show (upd V 3 (.slice (some ⟨gg, q, none⟩) (n - q) (cap - q))) 0 = .slice (some ⟨gg, 0, none⟩) n cap ∧ (upd V 3 (.slice (some ⟨gg, q, none⟩) (n - q) (cap - q))) 2 = .int .i64 (q : Nat) from ⟨e0, e2⟩)
    clear hK hC hW hL HV s0 s1 f6
    rw [HFR.out]
    rw [e0, e2]
    clear e0 e2
    go_wp2_with fail
    show K _ _
    have := H.out _ (Ext.refl _)
    rw [HFR.out] at this
    obtain ⟨u0, u2⟩ := HU.out
    rw [u0, u2] at this
    exact this
  · rintro L A W K hL hC hW ⟨V, rfl, HV, s0, s1, f6⟩ hK
    have hB := s0 (hC.no (hC.no (hC.no hL 5 _ rfl rfl) 6 _ rfl rfl) 7 _ rfl rfl)
    have H := Lib.hid (show ∀ W', Ext W W' → K (fr (upd V 4 (.slice (some ⟨gg, 0, none⟩) n cap))) W' from fun W' he => hK _ _ ⟨upd V 4 (.slice (some ⟨gg, 0, none⟩) n cap), rfl, HV.up 4 _ (fun x hx => Option.some.inj hx), fun h0 => LyB.ext (s0 (by unfold More at h0; rwa [if_neg (by decide)] at h0)) he, fun h0 => LyB.ext (s1 (more_ne h0 rfl)) he, fun h0 h1 => Bs.ext (f6 (by unfold More at h0; rwa [if_neg (by decide)] at h0) (more_ne h1 rfl)) he⟩)
    clear hK hC hW hL HV s0 s1 f6
    rw [HFR.out]
    have hcl := Cs.cell hB.1 0 _ rfl
    clear hB
    go_wp2_with fail
    show K _ _
    have := H.out _ (Ext.refl _)
    rw [HFR.out] at this
    exact this
  · rintro L A W K hL hC hW ⟨V, rfl, HV, s0, s1, f6⟩ hK
    have e4 : V 4 = .slice (some ⟨gg, 0, none⟩) n cap := HV 4 _ rfl (hW 4 rfl)
    have H := Lib.hid (show ∀ W', Ext W W' → K (fr (upd V 5 (.int .i64 (n : Nat)))) W' from fun W' he => hK _ _ ⟨upd V 5 (.int .i64 (n : Nat)), rfl, HV.up 5 _ (fun x hx => Option.some.inj hx), fun h0 => LyB.ext (s0 (by unfold More at h0; rwa [if_neg (by decide)] at h0)) he, fun h0 => LyB.ext (s1 (more_ne h0 rfl)) he, fun h0 h1 => Bs.ext (f6 (by unfold More at h0; rwa [if_neg (by decide)] at h0) (more_ne h1 rfl)) he⟩)
    have HU := Lib.hid (show (upd V 5 (.int .i64 (n : Nat))) 4 = .slice (some ⟨gg, 0, none⟩) n cap from e4)
    clear hK hC hW hL HV s0 s1 f6
    rw [HFR.out]
    rw [e4]
    clear e4
    go_wp2_with fail
    show K _ _
    have := H.out _ (Ext.refl _)
    rw [HFR.out] at this
    obtain u4 := HU.out
    rw [u4] at this
    exact this
  · rintro L A W K hL hC hW ⟨V, rfl, HV, s0, s1, f6⟩ hK
    have e5 : V 5 = .int .i64 (n : Nat) := HV 5 _ rfl (hW 5 rfl)
    have hB := s0 (hC.no hL 7 _ rfl rfl)
    have H := Lib.hid (show ∀ v W', Ext W W' → (Bs W' v (nbL n)) → K (fr (upd V 6 v)) W' from fun v W' he hp => hK _ _ ⟨upd V 6 v, rfl, HV.up 6 _ (fun x hx => absurd hx (by intro h; cases h)), fun h0 => LyB.ext (s0 (by unfold More at h0; rwa [if_neg (by decide)] at h0)) he, fun h0 => LyB.ext (s1 (more_ne h0 rfl)) he, fun h0 h1 => hp⟩)
    have HU := Lib.hid (show ∀ v, (upd V 6 v) 5 = .int .i64 (n : Nat) from fun v => e5)
    clear hK hC hW hL HV s0 s1 f6
    rw [HFR.out]
    rw [e5]
    clear e5
    go_wp2_with fail
    refine (HNB.out _).mono ?_
    rintro e wx ⟨v, rfl, ho, he⟩
    have := H.out _ _ he (ho.bs)
    clear H
    go_wp2_with fail
    show K _ _
    rw [HFR.out] at this
    obtain u5 := HU.out _
    rw [u5] at this
    exact this
  · rintro L A W K hL hC hW ⟨V, rfl, HV, s0, s1, f6⟩ hK
    have e3 : V 3 = .slice (some ⟨gg, q, none⟩) (n - q) (cap - q) := HV 3 _ rfl (hW 3 rfl)
    have hB := s0 hL
    have q6 := f6 hL (hW 6 rfl)
    have H := Lib.hid (show ∀ W', (LyB w0 g (.slice (some ⟨gg, 0, none⟩) n cap) (lay R q (nbL n)) W') → K (fr (upd V 7 (.int .i64 32))) W' from fun W' hA => hK _ _ ⟨upd V 7 (.int .i64 32), rfl, HV.up 7 _ (fun x hx => Option.some.inj hx), fun h0 => absurd h0 (by unfold More; rw [if_pos rfl]; simp), fun h0 => hA, fun h0 h1 => absurd h0 (by unfold More; rw [if_pos rfl]; simp)⟩)
    have HU := Lib.hid (show (upd V 7 (.int .i64 32)) 3 = .slice (some ⟨gg, q, none⟩) (n - q) (cap - q) from e3)
    clear hK hC hW hL HV s0 s1 f6
    rw [HFR.out]
    rw [e3]
    clear e3
    have HB := Lib.hid hB
    have HQ6 := Lib.hid q6
    clear hB q6
    refine wpList_copy_at rfl (.tmp 8) (.tmp 11) _ _ rfl 5 Try.underlying28 (by kernel_rfl) w0.heap.size gg n cap q (n - q) (cap - q) R rfl HB.out.2.1 _ (nbL n) rfl HQ6.out (by rw [nbL_len]; omega) (by rw [nbL_len]; exact a11) (by rw [nbL_len, HN.out]; exact a12) ?_
    intro W' ho hgr
    rw [nbL_len]
    have HA := Lib.hid (HB.out.wrote ho hgr)
    clear ho hgr
    show K _ _
    have := H.out _ HA.out
    rw [HFR.out] at this
    obtain u3 := HU.out
    rw [u3] at this
    exact this
  · rintro L A W hL ⟨V, rfl, HV, s0, s1, f6⟩
    have e0 : V 0 = .slice (some ⟨gg, 0, none⟩) n cap := HV 0 _ rfl (hL 0 (by simp))
    have e1 : V 1 = .int .i64 (i : Nat) := HV 1 _ rfl (hL 1 (by simp))
    have e2 : V 2 = .int .i64 (q : Nat) := HV 2 _ rfl (hL 2 (by simp))
    have e3 : V 3 = .slice (some ⟨gg, q, none⟩) (n - q) (cap - q) := HV 3 _ rfl (hL 3 (by simp))
    have e4 : V 4 = .slice (some ⟨gg, 0, none⟩) n cap := HV 4 _ rfl (hL 4 (by simp))
    have e5 : V 5 = .int .i64 (n : Nat) := HV 5 _ rfl (hL 5 (by simp))
    have e7 : V 7 = .int .i64 32 := HV 7 _ rfl (hL 7 (by simp))
    have hA := s1 (hL 7 (by simp))
    rw [HFR.out]
    rw [e0, e1, e2, e3, e4, e5, e7]
    clear hL HV HFR e0 e1 e2 e3 e4 e5 e7 s0 s1 f6
    have HG1 := Lib.hid hA
    clear hA
    have HLR := Lib.hid (show lyR R i d = lay R q (nbL n) ++ nbL d.length ++ d ++ List.replicate (flN d.length - d.length) 0 by unfold lyR; rw [HN.out, hq])
    have HN1 : Hid ((lay R q (nbL n)).length = n) := Lib.hid (by rw [lay_length, HN.out])
    generalize lay R q (nbL n) = R1 at *
    have HN2 := Lib.hid (show (R1 ++ nbL d.length).length = n + 32 by rw [List.length_append, nbL_len, HN1.out])
    have HN3 := Lib.hid (show (R1 ++ nbL d.length ++ d).length = n + 32 + d.length by rw [List.length_append, HN2.out])
    have HFL := Lib.hid (show d.length ≤ flN d.length ∧ flN d.length ≤ d.length + 31 by unfold flN; omega)
    have HFI := Lib.hid (fun W => filled_any d.length W (by omega))
    generalize hn2 : n + 32 = n2 at *
    go_wp2_with fail
    refine wp_named fun a0 ha0 => ?_
    obtain ⟨fr, hfr⟩ : ∃ fr : (Nat → Value) → Act, ∀ V, fr V = (((((a0.put (some 13) (V 0)).put (some 14) (V 1)).put (some 15) (V 2)).put (some 16) (V 3)).put (some 17) (V 4)) := ⟨fun V => (((((a0.put (some 13) (V 0)).put (some 14) (V 1)).put (some 15) (V 2)).put (some 16) (V 3)).put (some 17) (V 4)), fun _ => rfl⟩
    rw [ha0] at hfr
    simp only [Act.put, List.setIfInBounds_toArray, List.set_cons_zero, List.set_cons_succ] at hfr
    have HFR := Lib.hid hfr
    clear hfr
    refine wp_region_inv (by kernel_rfl) (by kernel_rfl) (fun L A W => ∃ V : Nat → Value, A = fr V ∧ Vals (fun j => ([some (.slice (some ⟨gg, 0, none⟩) n cap), some (.slice A0 d.length c), some (.int .i64 (d.length : Nat)), none, none, none] : List (Option Value)).getD j none) L V ∧ (L 4 = false → LyB w0 g (.slice (some ⟨gg, 0, none⟩) n cap) R1 W) ∧ (L 4 = true → L 5 = false → LyA w0 g (V 4) (R1 ++ nbL d.length) W) ∧ (L 5 = true → LyE w0 g (R1 ++ nbL d.length) W) ∧ (L 4 = false → L 3 = true → Bs W (V 3) (nbL d.length)) ∧ (L 5 = false → L 4 = true → SlK n2 (V 4))) ?_ ⟨?_, ?_, ?_, ?_, ?_, ?_, trivial⟩ ?_
    · refine ⟨fun j => a0.tmps.getD (([13, 14, 15, 16, 17, 0] : List Nat).getD j 0) undef, ?_, Vals.no _ _ _ (far_none _ _ rfl), fun _ => HG1.out.ext (Ext.refl _).drew, fun h0 h1 => absurd h0 (by decide), fun h0 => absurd h0 (by decide), fun h0 h1 => absurd h1 (by decide), fun h0 h1 => absurd h1 (by decide)⟩
      rw [HFR.out, ha0]
      rfl
    all_goals clear ha0
    · rintro L A W K hL hC hW ⟨V, rfl, HV, s0, s1, s2, f3, f4⟩ hK
      have hB := s0 (hC.no hL 4 _ rfl rfl)
      have H := Lib.hid (show ∀ W', Ext W W' → K (fr (upd V 0 (.slice (some ⟨gg, 0, none⟩) n cap))) W' from fun W' he => hK _ _ ⟨upd V 0 (.slice (some ⟨gg, 0, none⟩) n cap), rfl, HV.up 0 _ (fun x hx => Option.some.inj hx), fun h0 => LyB.ext (s0 (by unfold More at h0; rwa [if_neg (by decide)] at h0)) he, fun h0 h1 => LyA.ext (s1 (more_ne h0 rfl) (by unfold More at h1; rwa [if_neg (by decide)] at h1)) he, fun h0 => LyE.ext (s2 (more_ne h0 rfl)) he, fun h0 h1 => Bs.ext (f3 (by unfold More at h0; rwa [if_neg (by decide)] at h0) (more_ne h1 rfl)) he, fun h0 h1 => (fun h _ => h) (f4 (by unfold More at h0; rwa [if_neg (by decide)] at h0) (more_ne h1 rfl)) he⟩)
      clear hK hC hW hL HV s0 s1 s2 f3 f4
      rw [HFR.out]
      have hcl := Cs.cell hB.1 0 _ rfl
      clear hB
      go_wp2_with fail
      show K _ _
      have := H.out _ (Ext.refl _)
      rw [HFR.out] at this
      exact this
    · rintro L A W K hL hC hW ⟨V, rfl, HV, s0, s1, s2, f3, f4⟩ hK
      have H := Lib.hid (show ∀ W', Ext W W' → K (fr (upd V 1 (.slice A0 d.length c))) W' from fun W' he => hK _ _ ⟨upd V 1 (.slice A0 d.length c), rfl, HV.up 1 _ (fun x hx => Option.some.inj hx), fun h0 => LyB.ext (s0 (by unfold More at h0; rwa [if_neg (by decide)] at h0)) he, fun h0 h1 => LyA.ext (s1 (more_ne h0 rfl) (by unfold More at h1; rwa [if_neg (by decide)] at h1)) he, fun h0 => LyE.ext (s2 (more_ne h0 rfl)) he, fun h0 h1 => Bs.ext (f3 (by unfold More at h0; rwa [if_neg (by decide)] at h0) (more_ne h1 rfl)) he, fun h0 h1 => (fun h _ => h) (f4 (by unfold More at h0; rwa [if_neg (by decide)] at h0) (more_ne h1 rfl)) he⟩)
      clear hK hC hW hL HV s0 s1 s2 f3 f4
      rw [HFR.out]
      go_wp2_with fail
      show K _ _
      have := H.out _ (Ext.refl _)
      rw [HFR.out] at this
      exact this
    · rintro L A W K hL hC hW ⟨V, rfl, HV, s0, s1, s2, f3, f4⟩ hK
      have e1 : V 1 = .slice A0 d.length c := HV 1 _ rfl (hW 1 rfl)
      have H := Lib.hid (show ∀ W', Ext W W' → K (fr (upd V 2 (.int .i64 (d.length : Nat)))) W' from fun W' he => hK _ _ ⟨upd V 2 (.int .i64 (d.length : Nat)), rfl, HV.up 2 _ (fun x hx => Option.some.inj hx), fun h0 => LyB.ext (s0 (by unfold More at h0; rwa [if_neg (by decide)] at h0)) he, fun h0 h1 => LyA.ext (s1 (more_ne h0 rfl) (by unfold More at h1; rwa [if_neg (by decide)] at h1)) he, fun h0 => LyE.ext (s2 (more_ne h0 rfl)) he, fun h0 h1 => Bs.ext (f3 (by unfold More at h0; rwa [if_neg (by decide)] at h0) (more_ne h1 rfl)) he, fun h0 h1 => (fun h _ => h) (f4 (by unfold More at h0; rwa [if_neg (by decide)] at h0) (more_ne h1 rfl)) he⟩)
      have HU := Lib.hid (show (upd V 2 (.int .i64 (d.length : Nat))) 1 = .slice A0 d.length c from e1)
      clear hK hC hW hL HV s0 s1 s2 f3 f4
      rw [HFR.out]
      rw [e1]
      clear e1
      go_wp2_with fail
      show K _ _
      have := H.out _ (Ext.refl _)
      rw [HFR.out] at this
      obtain u1 := HU.out
      rw [u1] at this
      exact this
    · rintro L A W K hL hC hW ⟨V, rfl, HV, s0, s1, s2, f3, f4⟩ hK
      have e2 : V 2 = .int .i64 (d.length : Nat) := HV 2 _ rfl (hW 2 rfl)
      have hB := s0 (hC.no hL 4 _ rfl rfl)
      have H := Lib.hid (show ∀ v W', Ext W W' → (Bs W' v (nbL d.length)) → K (fr (upd V 3 v)) W' from fun v W' he hp => hK _ _ ⟨upd V 3 v, rfl, HV.up 3 _ (fun x hx => absurd hx (by intro h; cases h)), fun h0 => LyB.ext (s0 (by unfold More at h0; rwa [if_neg (by decide)] at h0)) he, fun h0 h1 => LyA.ext (s1 (more_ne h0 rfl) (by unfold More at h1; rwa [if_neg (by decide)] at h1)) he, fun h0 => LyE.ext (s2 (more_ne h0 rfl)) he, fun h0 h1 => hp, fun h0 h1 => (fun h _ => h) (f4 (by unfold More at h0; rwa [if_neg (by decide)] at h0) (more_ne h1 rfl)) he⟩)
      have HU := Lib.hid (show ∀ v, (upd V 3 v) 2 = .int .i64 (d.length : Nat) from fun v => e2)
      clear hK hC hW hL HV s0 s1 s2 f3 f4
      rw [HFR.out]
      rw [e2]
      clear e2
      go_wp2_with fail
      refine (HND.out _).mono ?_
      rintro e wx ⟨v, rfl, ho, he⟩
      have := H.out _ _ he (ho.bs)
      clear H
      go_wp2_with fail
      show K _ _
      rw [HFR.out] at this
      obtain u2 := HU.out _
      rw [u2] at this
      exact this
    · rintro L A W K hL hC hW ⟨V, rfl, HV, s0, s1, s2, f3, f4⟩ hK
      have e0 : V 0 = .slice (some ⟨gg, 0, none⟩) n cap := HV 0 _ rfl (hW 0 rfl)
      have hB := s0 hL
      have q3 := f3 hL (hW 3 rfl)
      have H := Lib.hid (show ∀ v W', (LyA w0 g v (R1 ++ nbL d.length) W') → (SlK n2 v) → K (fr (upd V 4 v)) W' from fun v W' hA hp => hK _ _ ⟨upd V 4 v, rfl, HV.up 4 _ (fun x hx => absurd hx (by intro h; cases h)), fun h0 => absurd h0 (by unfold More; rw [if_pos rfl]; simp), fun h0 h1 => hA, fun h0 => absurd (more_ne h0 rfl) (by rw [(hC.no hL 5 _ rfl rfl)]; simp), fun h0 h1 => absurd h0 (by unfold More; rw [if_pos rfl]; simp), fun h0 h1 => hp⟩)
      have HU := Lib.hid (show ∀ v, (upd V 4 v) 0 = .slice (some ⟨gg, 0, none⟩) n cap from fun v => e0)
      clear hK hC hW hL HV s0 s1 s2 f3 f4
      rw [HFR.out]
      rw [e0]
      clear e0
      have HB := Lib.hid hB
      have Q3 := Lib.hid q3
      clear hB q3
      go_wp2_with (at_builtin; go_loud (refine wpList_append_bytes rfl (.tmp 13) (.tmp 16) _ rfl w0.heap.size 5 Try.underlying28 u8info _ R1 rfl HB.out.2.1 _ (nbL d.length) rfl Q3.out (by rw [HN1.out, nbL_len]; omega) HB.out.2.2.1.size ?_); intro v' W' ho hg hb; have HP := Lib.hid (SlK.of ho (by rw [HN2.out]; omega) n2 HN2.out); have HA := Lib.hid (HB.out.more ho hg hb (Own.notNil ho (by rw [HN2.out]; omega))); clear ho hg hb)
      show K _ _
      have := H.out _ _ HA.out HP.out
      rw [HFR.out] at this
      obtain u0 := HU.out _
      rw [u0] at this
      exact this
    · rintro L A W K hL hC hW ⟨V, rfl, HV, s0, s1, s2, f3, f4⟩ hK
      have hB := s1 (hW 4 rfl) hL
      have q4 := f4 hL (hW 4 rfl)
      obtain ⟨G4, c4, e4⟩ := q4
      have H := Lib.hid (show ∀ W', (LyE w0 g (R1 ++ nbL d.length) W') → K (fr (V)) W' from fun W' hA => hK _ _ ⟨V, rfl, HV.st 5 rfl, fun h0 => absurd (show L 4 = false by unfold More at h0; rwa [if_neg (by decide)] at h0) (by rw [(hW 4 rfl)]; simp), fun h0 h1 => absurd h1 (by unfold More; rw [if_pos rfl]; simp), fun h0 => hA, fun h0 h1 => absurd (show L 4 = false by unfold More at h0; rwa [if_neg (by decide)] at h0) (by rw [(hW 4 rfl)]; simp), fun h0 h1 => absurd h0 (by unfold More; rw [if_pos rfl]; simp)⟩)
      have HU := Lib.hid (show (V) 4 = .slice (some ⟨G4, 0, none⟩) (n2) c4 from e4)
      clear hK hC hW hL HV s0 s1 s2 f3 f4
      rw [HFR.out]
      rw [e4]
      clear e4
      have HB := Lib.hid hB
      clear hB
      have HB2 := Lib.hid (show LyA w0 g (.slice (some ⟨G4, 0, none⟩) (n2) c4) (R1 ++ nbL d.length) W from by have := HB.out; rwa [HU.out] at this)
      obtain ⟨rv0, hcs⟩ := HB2.out.1
      have hc := Cs.cell hcs 0 _ rfl
      have hf := Cs.frozen hcs 0
      clear hcs HB
      have HA := Lib.hid (show LyE w0 g (R1 ++ nbL d.length) _ from ⟨_, HB2.out.put⟩)
      go_wp2_with fail
      show K _ _
      have := H.out _ HA.out
      rw [HFR.out] at this
      obtain u4 := HU.out
      rw [u4] at this
      exact this
    · rintro L A W hL ⟨V, rfl, HV, s0, s1, s2, f3, f4⟩
      have e0 : V 0 = .slice (some ⟨gg, 0, none⟩) n cap := HV 0 _ rfl (hL 0 (by simp))
      have e1 : V 1 = .slice A0 d.length c := HV 1 _ rfl (hL 1 (by simp))
      have e2 : V 2 = .int .i64 (d.length : Nat) := HV 2 _ rfl (hL 2 (by simp))
      have hA := s2 (hL 5 (by simp))
      rw [HFR.out]
      rw [e0, e1, e2]
      clear hL HV HFR e0 e1 e2 s0 s1 s2 f3 f4
      have HG2 := Lib.hid hA
      clear hA HG1
      obtain ⟨rv2, h2⟩ := HG2.out
      have HB2 := Lib.hid h2
      obtain ⟨gg2, cap2, e2⟩ := SlK.of h2.2.1 (by rw [HN2.out]; omega) n2 HN2.out
      subst e2
      have hc2 := Cs.cell h2.1 0 _ rfl
      clear h2 HG2
      go_wp2_with (at_builtin; go_loud (refine wpList_append_bytes rfl (.tmp 18) (.tmp 19) _ rfl w0.heap.size 5 Try.underlying28 u8info _ (R1 ++ nbL d.length) rfl HB2.out.2.1 _ d rfl (HU.out.ext HB2.out.2.2.1) (by rw [HN2.out]; omega) HB2.out.2.2.1.size ?_); intro v3 w3 ho hg hb; have HA3 := Lib.hid (HB2.out.more ho hg hb (Own.notNil ho (by rw [HN3.out]; omega))); obtain ⟨gg3, cap3, e3⟩ := SlK.of ho (by rw [HN3.out]; omega) _ HN3.out; subst e3; obtain ⟨rv3, hcs⟩ := HA3.out.1; have hc3 := Cs.cell hcs 0 _ rfl; have hf3 := Cs.frozen hcs 0; clear hcs ho hg hb)
      have HB3 := Lib.hid HA3.out.put
      clear HA3 hc3 hf3 hc2 HB2 HN2 HN1
      generalize R1 ++ nbL d.length ++ d = R3 at *
      generalize hn3 : n2 + d.length = n3 at *
      generalize flN d.length = fl at *
      have hfl := HFL.out
      generalize hk : fl - d.length = k at *
      have HN4 := Lib.hid (show (R3 ++ List.replicate k (0 : UInt8)).length = n3 + k by rw [List.length_append, HN3.out, List.length_replicate])
      have a20 : IntKind.i64.wrap ((fl : Int) - (d.length : Int)) = (k : Int) := by rw [IntWalk.i64_in _ (by omega)]; omega
      have a21 : (fl : Int) - (d.length : Int) = (k : Int) := by omega
      have a22 : IntKind.i64.wrap (k : Int) = (k : Int) := IntWalk.i64_in _ (by omega)
      go_wp2_with fail
      refine wp_named fun a0 ha0 => ?_
      obtain ⟨fr, hfr⟩ : ∃ fr : (Nat → Value) → Act, ∀ V, fr V = ((((((((a0.put (some 21) (V 0)).put (some 22) (V 1)).put (some 23) (V 2)).put (some 24) (V 3)).put (some 25) (V 4)).put (some 26) (V 5)).put (some 27) (V 6)).put (some 28) (V 7)) := ⟨fun V => ((((((((a0.put (some 21) (V 0)).put (some 22) (V 1)).put (some 23) (V 2)).put (some 24) (V 3)).put (some 25) (V 4)).put (some 26) (V 5)).put (some 27) (V 6)).put (some 28) (V 7)), fun _ => rfl⟩
      rw [ha0] at hfr
      simp only [Act.put, List.setIfInBounds_toArray, List.set_cons_zero, List.set_cons_succ] at hfr
      have HFR := Lib.hid hfr
      clear hfr
      refine wp_region_inv (by kernel_rfl) (by kernel_rfl) (fun L A W => ∃ V : Nat → Value, A = fr V ∧ Vals (fun j => ([some (.slice (some ⟨gg3, 0, none⟩) n3 cap3), some (.slice A0 d.length c), some (.int .i64 (d.length : Nat)), some (.int .i64 (fl : Nat)), some (.slice A0 d.length c), some (.int .i64 (d.length : Nat)), some (.int .i64 (k : Nat)), none, none] : List (Option Value)).getD j none) L V ∧ (L 7 = false → LyB w0 g (.slice (some ⟨gg3, 0, none⟩) n3 cap3) R3 W) ∧ (L 7 = true → L 8 = false → LyA w0 g (V 7) (R3 ++ List.replicate k (0 : UInt8)) W) ∧ (L 8 = true → LyE w0 g (R3 ++ List.replicate k (0 : UInt8)) W) ∧ (L 8 = false → L 7 = true → SlK (n3 + k) (V 7))) ?_ ⟨?_, ?_, ?_, ?_, ?_, ?_, ?_, ?_, ?_, trivial⟩ ?_
      · refine ⟨fun j => a0.tmps.getD (([21, 22, 23, 24, 25, 26, 27, 28, 0] : List Nat).getD j 0) undef, ?_, Vals.no _ _ _ (far_none _ _ rfl), fun _ => HB3.out.ext (Ext.refl _).drew, fun h0 h1 => absurd h0 (by decide), fun h0 => absurd h0 (by decide), fun h0 h1 => absurd h1 (by decide)⟩
        rw [HFR.out, ha0]
        rfl
      all_goals clear ha0
      · rintro L A W K hL hC hW ⟨V, rfl, HV, s0, s1, s2, f7⟩ hK
        have hB := s0 (hC.no hL 7 _ rfl rfl)
        have H := Lib.hid (show ∀ W', Ext W W' → K (fr (upd V 0 (.slice (some ⟨gg3, 0, none⟩) n3 cap3))) W' from fun W' he => hK _ _ ⟨upd V 0 (.slice (some ⟨gg3, 0, none⟩) n3 cap3), rfl, HV.up 0 _ (fun x hx => Option.some.inj hx), fun h0 => LyB.ext (s0 (by unfold More at h0; rwa [if_neg (by decide)] at h0)) he, fun h0 h1 => LyA.ext (s1 (more_ne h0 rfl) (by unfold More at h1; rwa [if_neg (by decide)] at h1)) he, fun h0 => LyE.ext (s2 (more_ne h0 rfl)) he, fun h0 h1 => (fun h _ => h) (f7 (by unfold More at h0; rwa [if_neg (by decide)] at h0) (more_ne h1 rfl)) he⟩)
        clear hK hC hW hL HV s0 s1 s2 f7
        rw [HFR.out]
        have hcl := Cs.cell hB.1 0 _ rfl
        clear hB
        go_wp2_with fail
        show K _ _
        have := H.out _ (Ext.refl _)
        rw [HFR.out] at this
        exact this
      · rintro L A W K hL hC hW ⟨V, rfl, HV, s0, s1, s2, f7⟩ hK
        have H := Lib.hid (show ∀ W', Ext W W' → K (fr (upd V 1 (.slice A0 d.length c))) W' from fun W' he => hK _ _ ⟨upd V 1 (.slice A0 d.length c), rfl, HV.up 1 _ (fun x hx => Option.some.inj hx), fun h0 => LyB.ext (s0 (by unfold More at h0; rwa [if_neg (by decide)] at h0)) he, fun h0 h1 => LyA.ext (s1 (more_ne h0 rfl) (by unfold More at h1; rwa [if_neg (by decide)] at h1)) he, fun h0 => LyE.ext (s2 (more_ne h0 rfl)) he, fun h0 h1 => (fun h _ => h) (f7 (by unfold More at h0; rwa [if_neg (by decide)] at h0) (more_ne h1 rfl)) he⟩)
        clear hK hC hW hL HV s0 s1 s2 f7
        rw [HFR.out]
        go_wp2_with fail
        show K _ _
        have := H.out _ (Ext.refl _)
        rw [HFR.out] at this
        exact this
      · rintro L A W K hL hC hW ⟨V, rfl, HV, s0, s1, s2, f7⟩ hK
        have e1 : V 1 = .slice A0 d.length c := HV 1 _ rfl (hW 1 rfl)
        have H := Lib.hid (show ∀ W', Ext W W' → K (fr (upd V 2 (.int .i64 (d.length : Nat)))) W' from fun W' he => hK _ _ ⟨upd V 2 (.int .i64 (d.length : Nat)), rfl, HV.up 2 _ (fun x hx => Option.some.inj hx), fun h0 => LyB.ext (s0 (by unfold More at h0; rwa [if_neg (by decide)] at h0)) he, fun h0 h1 => LyA.ext (s1 (more_ne h0 rfl) (by unfold More at h1; rwa [if_neg (by decide)] at h1)) he, fun h0 => LyE.ext (s2 (more_ne h0 rfl)) he, fun h0 h1 => (fun h _ => h) (f7 (by unfold More at h0; rwa [if_neg (by decide)] at h0) (more_ne h1 rfl)) he⟩)
        have HU := Lib.hid (show (upd V 2 (.int .i64 (d.length : Nat))) 1 = .slice A0 d.length c from e1)
        clear hK hC hW hL HV s0 s1 s2 f7
        rw [HFR.out]
        rw [e1]
        clear e1
        go_wp2_with fail
        show K _ _
        have := H.out _ (Ext.refl _)
        rw [HFR.out] at this
        obtain u1 := HU.out
        rw [u1] at this
        exact this
      · rintro L A W K hL hC hW ⟨V, rfl, HV, s0, s1, s2, f7⟩ hK
        have e2 : V 2 = .int .i64 (d.length : Nat) := HV 2 _ rfl (hW 2 rfl)
        have hB := s0 (hC.no (hC.no hL 6 _ rfl rfl) 7 _ rfl rfl)
        have H := Lib.hid (show ∀ W', Ext W W' → K (fr (upd V 3 (.int .i64 (fl : Nat)))) W' from fun W' he => hK _ _ ⟨upd V 3 (.int .i64 (fl : Nat)), rfl, HV.up 3 _ (fun x hx => Option.some.inj hx), fun h0 => LyB.ext (s0 (by unfold More at h0; rwa [if_neg (by decide)] at h0)) he, fun h0 h1 => LyA.ext (s1 (more_ne h0 rfl) (by unfold More at h1; rwa [if_neg (by decide)] at h1)) he, fun h0 => LyE.ext (s2 (more_ne h0 rfl)) he, fun h0 h1 => (fun h _ => h) (f7 (by unfold More at h0; rwa [if_neg (by decide)] at h0) (more_ne h1 rfl)) he⟩)
        have HU := Lib.hid (show (upd V 3 (.int .i64 (fl : Nat))) 2 = .int .i64 (d.length : Nat) from e2)
        clear hK hC hW hL HV s0 s1 s2 f7
        rw [HFR.out]
        rw [e2]
        clear e2
        go_wp2_with fail
        refine (HFI.out _).mono ?_
        rintro e wx ⟨rfl, rfl⟩
        have := H.out _ (Ext.refl _)
        clear H
        go_wp2_with fail
        show K _ _
        rw [HFR.out] at this
        obtain u2 := HU.out
        rw [u2] at this
        exact this
      · rintro L A W K hL hC hW ⟨V, rfl, HV, s0, s1, s2, f7⟩ hK
        have H := Lib.hid (show ∀ W', Ext W W' → K (fr (upd V 4 (.slice A0 d.length c))) W' from fun W' he => hK _ _ ⟨upd V 4 (.slice A0 d.length c), rfl, HV.up 4 _ (fun x hx => Option.some.inj hx), fun h0 => LyB.ext (s0 (by unfold More at h0; rwa [if_neg (by decide)] at h0)) he, fun h0 h1 => LyA.ext (s1 (more_ne h0 rfl) (by unfold More at h1; rwa [if_neg (by decide)] at h1)) he, fun h0 => LyE.ext (s2 (more_ne h0 rfl)) he, fun h0 h1 => (fun h _ => h) (f7 (by unfold More at h0; rwa [if_neg (by decide)] at h0) (more_ne h1 rfl)) he⟩)
        clear hK hC hW hL HV s0 s1 s2 f7
        rw [HFR.out]
        go_wp2_with fail
        show K _ _
        have := H.out _ (Ext.refl _)
        rw [HFR.out] at this
        exact this
      · rintro L A W K hL hC hW ⟨V, rfl, HV, s0, s1, s2, f7⟩ hK
        have e4 : V 4 = .slice A0 d.length c := HV 4 _ rfl (hW 4 rfl)
        have H := Lib.hid (show ∀ W', Ext W W' → K (fr (upd V 5 (.int .i64 (d.length : Nat)))) W' from fun W' he => hK _ _ ⟨upd V 5 (.int .i64 (d.length : Nat)), rfl, HV.up 5 _ (fun x hx => Option.some.inj hx), fun h0 => LyB.ext (s0 (by unfold More at h0; rwa [if_neg (by decide)] at h0)) he, fun h0 h1 => LyA.ext (s1 (more_ne h0 rfl) (by unfold More at h1; rwa [if_neg (by decide)] at h1)) he, fun h0 => LyE.ext (s2 (more_ne h0 rfl)) he, fun h0 h1 => (fun h _ => h) (f7 (by unfold More at h0; rwa [if_neg (by decide)] at h0) (more_ne h1 rfl)) he⟩)
        have HU := Lib.hid (show (upd V 5 (.int .i64 (d.length : Nat))) 4 = .slice A0 d.length c from e4)
        clear hK hC hW hL HV s0 s1 s2 f7
        rw [HFR.out]
        rw [e4]
        clear e4
        go_wp2_with fail
        show K _ _
        have := H.out _ (Ext.refl _)
        rw [HFR.out] at this
        obtain u4 := HU.out
        rw [u4] at this
        exact this
      · rintro L A W K hL hC hW ⟨V, rfl, HV, s0, s1, s2, f7⟩ hK
        have e3 : V 3 = .int .i64 (fl : Nat) := HV 3 _ rfl (hW 3 rfl)
        have e5 : V 5 = .int .i64 (d.length : Nat) := HV 5 _ rfl (hW 5 rfl)
        have H := Lib.hid (show ∀ W', Ext W W' → K (fr (upd V 6 (.int .i64 (k : Nat)))) W' from fun W' he => hK _ _ ⟨upd V 6 (.int .i64 (k : Nat)), rfl, HV.up 6 _ (fun x hx => Option.some.inj hx), fun h0 => LyB.ext (s0 (by unfold More at h0; rwa [if_neg (by decide)] at h0)) he, fun h0 h1 => LyA.ext (s1 (more_ne h0 rfl) (by unfold More at h1; rwa [if_neg (by decide)] at h1)) he, fun h0 => LyE.ext (s2 (more_ne h0 rfl)) he, fun h0 h1 => (fun h _ => h) (f7 (by unfold More at h0; rwa [if_neg (by decide)] at h0) (more_ne h1 rfl)) he⟩)
        have HU := Lib.hid (show (upd V 6 (.int .i64 (k : Nat))) 3 = .int .i64 (fl : Nat) ∧ (upd V 6 (.int .i64 (k : Nat))) 5 = .int .i64 (d.length : Nat) from ⟨e3, e5⟩)
        clear hK hC hW hL HV s0 s1 s2 f7
        rw [HFR.out]
        rw [e3, e5]
        clear e3 e5
        go_wp2_with fail
        show K _ _
        have := H.out _ (Ext.refl _)
        rw [HFR.out] at this
        obtain ⟨u3, u5⟩ := HU.out
        rw [u3, u5] at this
        exact this
      · rintro L A W K hL hC hW ⟨V, rfl, HV, s0, s1, s2, f7⟩ hK
        have e0 : V 0 = .slice (some ⟨gg3, 0, none⟩) n3 cap3 := HV 0 _ rfl (hW 0 rfl)
        have e6 : V 6 = .int .i64 (k : Nat) := HV 6 _ rfl (hW 6 rfl)
        have hB := s0 hL
        have H := Lib.hid (show ∀ v W', (LyA w0 g v (R3 ++ List.replicate k (0 : UInt8)) W') → (SlK (n3 + k) v) → K (fr (upd V 7 v)) W' from fun v W' hA hp => hK _ _ ⟨upd V 7 v, rfl, HV.up 7 _ (fun x hx => absurd hx (by intro h; cases h)), fun h0 => absurd h0 (by unfold More; rw [if_pos rfl]; simp), fun h0 h1 => hA, fun h0 => absurd (more_ne h0 rfl) (by rw [(hC.no hL 8 _ rfl rfl)]; simp), fun h0 h1 => hp⟩)
        have HU := Lib.hid (show ∀ v, (upd V 7 v) 0 = .slice (some ⟨gg3, 0, none⟩) n3 cap3 ∧ (upd V 7 v) 6 = .int .i64 (k : Nat) from fun v => ⟨e0, e6⟩)
        clear hK hC hW hL HV s0 s1 s2 f7
        rw [HFR.out]
        rw [e0, e6]
        clear e0 e6
        have HB := Lib.hid hB
        clear hB
        obtain ⟨v', W', hr, ho, hg, hnn, hb⟩ := run_append_zeros (P := Try.prog) (w := W) 28 3 28 w0.heap.size 5 .i64 .i64 Try.underlying28 Try.underlying3 u8info _ R3 HB.out.2.1 k (by rw [HN3.out]; omega) HB.out.2.2.1.size HB.out.2.2.2.2.1
        have HP := Lib.hid (SlK.of ho (by rw [HN4.out]; omega) _ HN4.out)
        have HA := Lib.hid (HB.out.more ho hg hb hnn)
        clear ho hg hb hnn
        go_wp2_with (at_builtin; refine Lib.wpList_append_run _ rfl _ _ _ _ rfl _ _ rfl rfl _ _ hr ?_)
        show K _ _
        have := H.out _ _ HA.out HP.out
        rw [HFR.out] at this
        obtain ⟨u0, u6⟩ := HU.out _
        rw [u0, u6] at this
        exact this
      · rintro L A W K hL hC hW ⟨V, rfl, HV, s0, s1, s2, f7⟩ hK
        have hB := s1 (hW 7 rfl) hL
        have q7 := f7 hL (hW 7 rfl)
        obtain ⟨G7, c7, e7⟩ := q7
        have H := Lib.hid (show ∀ W', (LyE w0 g (R3 ++ List.replicate k (0 : UInt8)) W') → K (fr (V)) W' from fun W' hA => hK _ _ ⟨V, rfl, HV.st 8 rfl, fun h0 => absurd (show L 7 = false by unfold More at h0; rwa [if_neg (by decide)] at h0) (by rw [(hW 7 rfl)]; simp), fun h0 h1 => absurd h1 (by unfold More; rw [if_pos rfl]; simp), fun h0 => hA, fun h0 h1 => absurd h0 (by unfold More; rw [if_pos rfl]; simp)⟩)
        have HU := Lib.hid (show (V) 7 = .slice (some ⟨G7, 0, none⟩) (n3 + k) c7 from e7)
        clear hK hC hW hL HV s0 s1 s2 f7
        rw [HFR.out]
        rw [e7]
        clear e7
        have HB := Lib.hid hB
        clear hB
        have HB2 := Lib.hid (show LyA w0 g (.slice (some ⟨G7, 0, none⟩) (n3 + k) c7) (R3 ++ List.replicate k (0 : UInt8)) W from by have := HB.out; rwa [HU.out] at this)
        obtain ⟨rv0, hcs⟩ := HB2.out.1
        have hc := Cs.cell hcs 0 _ rfl
        have hf := Cs.frozen hcs 0
        clear hcs HB
        have HA := Lib.hid (show LyE w0 g (R3 ++ List.replicate k (0 : UInt8)) _ from ⟨_, HB2.out.put⟩)
        go_wp2_with fail
        show K _ _
        have := H.out _ HA.out
        rw [HFR.out] at this
        obtain u7 := HU.out
        rw [u7] at this
        exact this
      · rintro L A W hL ⟨V, rfl, HV, s0, s1, s2, f7⟩
        have e0 : V 0 = .slice (some ⟨gg3, 0, none⟩) n3 cap3 := HV 0 _ rfl (hL 0 (by simp))
        have e1 : V 1 = .slice A0 d.length c := HV 1 _ rfl (hL 1 (by simp))
        have e2 : V 2 = .int .i64 (d.length : Nat) := HV 2 _ rfl (hL 2 (by simp))
        have e3 : V 3 = .int .i64 (fl : Nat) := HV 3 _ rfl (hL 3 (by simp))
        have e4 : V 4 = .slice A0 d.length c := HV 4 _ rfl (hL 4 (by simp))
        have e5 : V 5 = .int .i64 (d.length : Nat) := HV 5 _ rfl (hL 5 (by simp))
        have e6 : V 6 = .int .i64 (k : Nat) := HV 6 _ rfl (hL 6 (by simp))
        have hA := s2 (hL 8 (by simp))
        rw [HFR.out]
        rw [e0, e1, e2, e3, e4, e5, e6]
        clear hL HV HFR e0 e1 e2 e3 e4 e5 e6 s0 s1 s2 f7
        have HG4 := Lib.hid hA
        clear hA
        go_wp2_with fail
        go_end0
        exact ⟨rfl, by rw [HLR.out]; exact HG4.out⟩
end Go.Proofs.Ytdlllihfibjabaa
