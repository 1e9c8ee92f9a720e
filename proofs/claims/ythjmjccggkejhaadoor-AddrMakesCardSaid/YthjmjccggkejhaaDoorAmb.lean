/- Slots of addresses, and what the document says of them. -/
import Derived.Test.YthjmjccggkejhaaDoorAma
namespace Go.Proofs.YthjmjccggkejhaaDoor
open Go.RowKit Go.Shelf

set_option maxRecDepth 100000 in
theorem Bs.shape {W : World} {v : Value} {l : List UInt8} (h : Bs W v l) : ∃ A c, v = .slice A l.length c ∧ Bs W (.slice A l.length c) l := by
  obtain ⟨A, c, e, h1, h2, h3⟩ := h
  exact ⟨A, c, e, A, c, rfl, h1, h2, h3⟩
set_option maxRecDepth 100000 in
theorem bss_row {W : World} (vs : List Value) (ls : List (List UInt8)) (t : TypeId) (n : Nat) (hn : n = ls.length) (hl : vs.length = ls.length) (hm : ls.length ≤ 1000) (h : ∀ (i : Nat) (v : Value) (l : List UInt8), vs[i]? = some v → ls[i]? = some l → Bs W v l) :
    Bss (W.alloc (.cells vs.toArray t)) (.slice (some ⟨W.heap.size, 0, none⟩) n n) ls := by
  subst hn
  refine ⟨_, _, rfl, Nat.le_refl _, by unfold maxLen; omega, fun _ => ⟨_, 0, rfl, fun i z hz => ?_⟩⟩
  have hi : i < vs.length := by have := (List.getElem?_eq_some_iff.1 hz).1; omega
  refine ⟨[vs[i]], rfl, ⟨vs[i], rfl, (h i vs[i] z (List.getElem?_eq_getElem hi) hz).ext ((Ext.refl W).alloc _)⟩, fun j u hu => ?_⟩
  have hj : j = 0 := by have := (List.getElem?_eq_some_iff.1 hu).1; simp at this; omega
  subst hj
  simp only [List.getElem?_cons_zero, Option.some.injEq] at hu
  subst hu
  rw [cell_of_row _ W.heap.size _ vs.toArray t (0, 0) (heap_alloc_new _ _)]
  simp [hi]
set_option maxRecDepth 100000 in
theorem bss_two {W : World} {v1 v2 : Value} {l1 l2 : List UInt8} (h1 : Bs W v1 l1) (h2 : Bs W v2 l2) (t : TypeId) : Bss (W.alloc (.cells #[v1, v2] t)) (.slice (some ⟨W.heap.size, 0, none⟩) 2 2) [l1, l2] :=
  bss_row [v1, v2] [l1, l2] t 2 rfl rfl (by simp) fun i v l hv hl => by
    match i with
    | 0 => simp at hv hl; subst hv; subst hl; exact h1
    | 1 => simp at hv hl; subst hv; subst hl; exact h2
    | i + 2 => simp at hv
/-- The slot of an address, of a number. -/
def slotN (a n : Nat) : Nat := dgW (bytL a (List.range 32) ++ bytL n (List.range 32))
set_option maxRecDepth 100000 in
theorem slotN_lt (a n : Nat) : slotN a n < M256 := dgW_lt _
set_option maxRecDepth 100000 in
theorem joinedS (a n : Nat) (v : Value) (W : World) (h : Bss W v [bytL a (List.range 32), bytL n (List.range 32)]) : Calls Tryd.prog 59 #[v] W (RetB W (bytL a (List.range 32) ++ bytL n (List.range 32))) := by
  have := joined_any v _ W h (by simp [bytL_len])
  simpa using this
/-- What lies there ahead of a slot. -/
def SlB (w : World) (B g3 g4 n : Nat) (W : World) : Prop := Wd W g3 64 n ∧ Cs W g4 64 (wc 0) ∧ Tb w ∧ Ext w W ∧ B ≤ W.heap.size ∧ g3 < B ∧ g4 < B ∧ w.heap.size ≤ g4
set_option maxRecDepth 100000 in
theorem SlB.ext {w : World} {B g3 g4 n : Nat} {W W' : World} (h : SlB w B g3 g4 n W) (he : Ext W W') : SlB w B g3 g4 n W' := ⟨h.1.ext he, h.2.1.ext he, h.2.2.1, h.2.2.2.1.trans he, Nat.le_trans h.2.2.2.2.1 he.size, h.2.2.2.2.2⟩
def WdE (w : World) (g4 d : Nat) (W : World) : Prop := Wd W g4 64 d ∧ Ext w W
set_option maxRecDepth 100000 in
theorem WdE.ext {w : World} {g4 d : Nat} {W W' : World} (h : WdE w g4 d W) (he : Ext W W') : WdE w g4 d W' := ⟨h.1.ext he, h.2.trans he⟩
set_option maxRecDepth 100000 in
theorem SlB.done {w : World} {B g3 g4 n d : Nat} {W W' : World} (h : SlB w B g3 g4 n W) (hw : Wd W' g4 64 d) (hg : W.grownBy W' (some g4)) : WdE w g4 d W' := ⟨hw, h.2.2.2.1.grown hg h.2.2.2.2.2.2.2⟩
set_option maxRecDepth 100000 in
theorem SlB.grown {w : World} {B g3 g4 n : Nat} {W W' : World} {row : Option Nat} (h : SlB w B g3 g4 n W) (hg : W.grownBy W' row) (hr : ∀ j, row = some j → B ≤ j) : SlB w B g3 g4 n W' := by
  have hne : ∀ g, g < B → some g ≠ row := fun g hg e => by have := hr g e.symm; omega
  have hwB : w.heap.size ≤ B := by have := h.2.2.2.2.2.2; omega
  refine ⟨h.1.kept hg (hne _ h.2.2.2.2.2.1), h.2.1.kept hg (hne _ h.2.2.2.2.2.2.1), h.2.2.1, Below.grown h.2.2.2.1 hg h.2.2.2.1.size (fun j hj => by have := hr j hj; omega), Nat.le_trans h.2.2.2.2.1 hg.size, h.2.2.2.2.2⟩
set_option maxRecDepth 100000 in
theorem SlB.tb {w : World} {B g3 g4 n : Nat} {W : World} (h : SlB w B g3 g4 n W) : Tb W := h.2.2.1.ext h.2.2.2.1

set_option maxRecDepth 100000 in
set_option maxHeartbeats 1000000 in
theorem adrSlot_any (a n : Nat) (w : World) (ha : a < 18446744073709551616) (hn : n < M256) (ht : Tb w) : Calls Tryd.prog 41 #[.int .u64 (a : Int), wv n] w fun e w' => e = .returned (wv (slotN a n)) ∧ Ext w w' := by
  have HB0 : Hid (SlB w (w.heap.size + 2) w.heap.size (w.heap.size + 1) n ((w.alloc (.cells (wc n) 64)).alloc (.cells (wc 0) 64))) :=
    Lib.hid ⟨(Cs.new _ _ _ _ rfl).alloc _, Cs.new _ _ _ _ (by simp), ht, ((Ext.refl w).alloc _).alloc _, by simp, by omega, by omega, by omega⟩
  rw [wc_zero] at HB0
  have HWD := Lib.hid (fun W => adrWord_any a W ha)
  have HBX := Lib.hid (fun W => bytes_any a W)
  have HBY := Lib.hid (fun W => bytes_any n W)
  have HJN := Lib.hid (fun v W (h : Bss W v [bytL a (List.range 32), bytL n (List.range 32)]) => joinedS a n v W h)
  have HDG := Lib.hid (fun v W (h : Bs W v (bytL a (List.range 32) ++ bytL n (List.range 32))) => adrDigest_any v _ W h (by simp [bytL_len]))
  have HLN := Lib.hid (show (bytL a (List.range 32)).length + (bytL n (List.range 32)).length ≤ 64 by rw [bytL_len, bytL_len]; simp)
  obtain ⟨d, hd⟩ : ∃ d, dgW (bytL a (List.range 32) ++ bytL n (List.range 32)) = d := ⟨_, rfl⟩
  have HD := Lib.hid (show slotN a n = d from hd)
  rw [hd] at HDG
  clear hd
  obtain ⟨xj, hxj⟩ : ∃ xj, bytL a (List.range 32) ++ bytL n (List.range 32) = xj := ⟨_, rfl⟩
  rw [hxj] at HDG HJN
  have HXJ := Lib.hid hxj
  clear hxj
  generalize bytL a (List.range 32) = x1 at *
  generalize bytL n (List.range 32) = x2 at *
  have HGE := Lib.hid (show w.heap.size ≤ w.heap.size + 1 by omega)
  unfold wv
  go_enter Tryd.func41, Tryd.ntmps41
  go_upto_region 1 with fail
  generalize w.heap.size + 2 = B at *
  generalize hg4 : w.heap.size + 1 = g4 at *
  generalize hg3 : w.heap.size = g3 at *
  have HG4 := Lib.hid hg4
  have HG3 := Lib.hid hg3
  clear hg4 hg3
  generalize (w.alloc (.cells (wc n) 64)).alloc (.cells #[.int .u64 0, .int .u64 0, .int .u64 0, .int .u64 0] 64) = w1 at *
  refine wp_named fun a0 ha0 => ?_
  obtain ⟨fr, hfr⟩ : ∃ fr : (Nat → Value) → Act, ∀ V, fr V = ((((((((a0.put (some 5) (V 0)).put (some 6) (V 1)).put (some 7) (V 2)).put (some 8) (V 3)).put (some 9) (V 4)).put (some 10) (V 5)).put (some 11) (V 6)).put (some 12) (V 7)) := ⟨fun V => ((((((((a0.put (some 5) (V 0)).put (some 6) (V 1)).put (some 7) (V 2)).put (some 8) (V 3)).put (some 9) (V 4)).put (some 10) (V 5)).put (some 11) (V 6)).put (some 12) (V 7)), fun _ => rfl⟩
  rw [ha0] at hfr
  simp only [Act.put, List.setIfInBounds_toArray, List.set_cons_zero, List.set_cons_succ] at hfr
  have HFR := Lib.hid hfr
  clear hfr
  refine wp_region_inv (by kernel_rfl) (by kernel_rfl) (fun L A W => ∃ V : Nat → Value, A = fr V ∧ Vals (fun j => ([some (.int .u64 (a : Nat)), some (wv a), none, some (wv n), none, none, none, some (wv d), none] : List (Option Value)).getD j none) L V ∧ (L 8 = false → SlB w B g3 g4 n W) ∧ (L 8 = true → WdE w g4 d W) ∧ (L 8 = false → L 2 = true → Bs W (V 2) x1) ∧ (L 8 = false → L 4 = true → Bs W (V 4) x2) ∧ (L 8 = false → L 5 = true → Bss W (V 5) [x1, x2]) ∧ (L 8 = false → L 6 = true → Bs W (V 6) xj)) ?_ ⟨?_, ?_, ?_, ?_, ?_, ?_, ?_, ?_, ?_, trivial⟩ ?_
  · refine ⟨fun j => a0.tmps.getD (([5, 6, 7, 8, 9, 10, 11, 12, 0] : List Nat).getD j 0) undef, ?_, Vals.no _ _ _ (far_none _ _ rfl), fun _ => HB0.out.ext (Ext.refl _).drew, fun h0 => absurd h0 (by decide), fun h0 h1 => absurd h1 (by decide), fun h0 h1 => absurd h1 (by decide), fun h0 h1 => absurd h1 (by decide), fun h0 h1 => absurd h1 (by decide)⟩
    rw [HFR.out, ha0]
    rfl
  all_goals clear ha0
  · rintro L A W K hL hC hW ⟨V, rfl, HV, s0, s1, f2, f4, f5, f6⟩ hK
    have H := Lib.hid (show ∀ W', Ext W W' → K (fr (upd V 0 (.int .u64 (a : Nat)))) W' from fun W' he => hK _ _ ⟨upd V 0 (.int .u64 (a : Nat)), rfl, HV.up 0 _ (fun x hx => Option.some.inj hx), fun h0 => SlB.ext (s0 (by unfold More at h0; rwa [if_neg (by decide)] at h0)) he, fun h0 => WdE.ext (s1 (more_ne h0 rfl)) he, fun h0 h1 => Bs.ext (f2 (by unfold More at h0; rwa [if_neg (by decide)] at h0) (more_ne h1 rfl)) he, fun h0 h1 => Bs.ext (f4 (by unfold More at h0; rwa [if_neg (by decide)] at h0) (more_ne h1 rfl)) he, fun h0 h1 => Bss.ext4 (f5 (by unfold More at h0; rwa [if_neg (by decide)] at h0) (more_ne h1 rfl)) he, fun h0 h1 => Bs.ext (f6 (by unfold More at h0; rwa [if_neg (by decide)] at h0) (more_ne h1 rfl)) he⟩)
    clear hK hC hW hL HV s0 s1 f2 f4 f5 f6
    rw [HFR.out]
    go_wp2_with fail
    show K _ _
    have := H.out _ (Ext.refl _)
    rw [HFR.out] at this
    exact this
  · rintro L A W K hL hC hW ⟨V, rfl, HV, s0, s1, f2, f4, f5, f6⟩ hK
    have e0 : V 0 = .int .u64 (a : Nat) := HV 0 _ rfl (hW 0 rfl)
    have hB := s0 (hC.no (hC.no (hC.no (hC.no (hC.no hL 2 _ rfl rfl) 5 _ rfl rfl) 6 _ rfl rfl) 7 _ rfl rfl) 8 _ rfl rfl)
    have H := Lib.hid (show ∀ W', Ext W W' → K (fr (upd V 1 (wv a))) W' from fun W' he => hK _ _ ⟨upd V 1 (wv a), rfl, HV.up 1 _ (fun x hx => Option.some.inj hx), fun h0 => SlB.ext (s0 (by unfold More at h0; rwa [if_neg (by decide)] at h0)) he, fun h0 => WdE.ext (s1 (more_ne h0 rfl)) he, fun h0 h1 => Bs.ext (f2 (by unfold More at h0; rwa [if_neg (by decide)] at h0) (more_ne h1 rfl)) he, fun h0 h1 => Bs.ext (f4 (by unfold More at h0; rwa [if_neg (by decide)] at h0) (more_ne h1 rfl)) he, fun h0 h1 => Bss.ext4 (f5 (by unfold More at h0; rwa [if_neg (by decide)] at h0) (more_ne h1 rfl)) he, fun h0 h1 => Bs.ext (f6 (by unfold More at h0; rwa [if_neg (by decide)] at h0) (more_ne h1 rfl)) he⟩)
    have HU := Lib.hid (show (upd V 1 (wv a)) 0 = .int .u64 (a : Nat) from e0)
    clear hK hC hW hL HV s0 s1 f2 f4 f5 f6
    rw [HFR.out]
    rw [e0]
    clear e0
    go_wp2_with fail
    refine (HWD.out _).mono ?_
    rintro e wx ⟨rfl, he⟩
    have := H.out _ he
    clear H
    go_wp2_with fail
    show K _ _
    rw [HFR.out] at this
    obtain u0 := HU.out
    rw [u0] at this
    exact this
  · rintro L A W K hL hC hW ⟨V, rfl, HV, s0, s1, f2, f4, f5, f6⟩ hK
    have e1 : V 1 = wv a := HV 1 _ rfl (hW 1 rfl)
    have hB := s0 (hC.no (hC.no (hC.no (hC.no hL 5 _ rfl rfl) 6 _ rfl rfl) 7 _ rfl rfl) 8 _ rfl rfl)
    have H := Lib.hid (show ∀ v W', Ext W W' → (Bs W' v x1) → K (fr (upd V 2 v)) W' from fun v W' he hp => hK _ _ ⟨upd V 2 v, rfl, HV.up 2 _ (fun x hx => absurd hx (by intro h; cases h)), fun h0 => SlB.ext (s0 (by unfold More at h0; rwa [if_neg (by decide)] at h0)) he, fun h0 => WdE.ext (s1 (more_ne h0 rfl)) he, fun h0 h1 => hp, fun h0 h1 => Bs.ext (f4 (by unfold More at h0; rwa [if_neg (by decide)] at h0) (more_ne h1 rfl)) he, fun h0 h1 => Bss.ext4 (f5 (by unfold More at h0; rwa [if_neg (by decide)] at h0) (more_ne h1 rfl)) he, fun h0 h1 => Bs.ext (f6 (by unfold More at h0; rwa [if_neg (by decide)] at h0) (more_ne h1 rfl)) he⟩)
    have HU := Lib.hid (show ∀ v, (upd V 2 v) 1 = wv a from fun v => e1)
    clear hK hC hW hL HV s0 s1 f2 f4 f5 f6
    rw [HFR.out]
    rw [e1]
    clear e1
    go_wp2_with fail
    refine (HBX.out _).mono ?_
    rintro e wx ⟨v, rfl, ho, he⟩
    have := H.out _ _ he (ho.bs)
    clear H
    go_wp2_with fail
    show K _ _
    rw [HFR.out] at this
    obtain u1 := HU.out _
    rw [u1] at this
    exact this
  · rintro L A W K hL hC hW ⟨V, rfl, HV, s0, s1, f2, f4, f5, f6⟩ hK
    have hB := s0 (hC.no (hC.no (hC.no (hC.no (hC.no hL 4 _ rfl rfl) 5 _ rfl rfl) 6 _ rfl rfl) 7 _ rfl rfl) 8 _ rfl rfl)
    have H := Lib.hid (show ∀ W', Ext W W' → K (fr (upd V 3 (wv n))) W' from fun W' he => hK _ _ ⟨upd V 3 (wv n), rfl, HV.up 3 _ (fun x hx => Option.some.inj hx), fun h0 => SlB.ext (s0 (by unfold More at h0; rwa [if_neg (by decide)] at h0)) he, fun h0 => WdE.ext (s1 (more_ne h0 rfl)) he, fun h0 h1 => Bs.ext (f2 (by unfold More at h0; rwa [if_neg (by decide)] at h0) (more_ne h1 rfl)) he, fun h0 h1 => Bs.ext (f4 (by unfold More at h0; rwa [if_neg (by decide)] at h0) (more_ne h1 rfl)) he, fun h0 h1 => Bss.ext4 (f5 (by unfold More at h0; rwa [if_neg (by decide)] at h0) (more_ne h1 rfl)) he, fun h0 h1 => Bs.ext (f6 (by unfold More at h0; rwa [if_neg (by decide)] at h0) (more_ne h1 rfl)) he⟩)
    clear hK hC hW hL HV s0 s1 f2 f4 f5 f6
    rw [HFR.out]
    have HW := Lib.hid hB.1
    clear hB
    refine wpList_load_wordG rfl 64 33 (.tmp 3) rfl Tryd.underlying64 winfo (g3) (n) rfl HW.out ?_
    show K _ _
    have := H.out _ (Ext.refl _)
    rw [HFR.out] at this
    exact this
  · rintro L A W K hL hC hW ⟨V, rfl, HV, s0, s1, f2, f4, f5, f6⟩ hK
    have e3 : V 3 = wv n := HV 3 _ rfl (hW 3 rfl)
    have hB := s0 (hC.no (hC.no (hC.no (hC.no hL 5 _ rfl rfl) 6 _ rfl rfl) 7 _ rfl rfl) 8 _ rfl rfl)
    have H := Lib.hid (show ∀ v W', Ext W W' → (Bs W' v x2) → K (fr (upd V 4 v)) W' from fun v W' he hp => hK _ _ ⟨upd V 4 v, rfl, HV.up 4 _ (fun x hx => absurd hx (by intro h; cases h)), fun h0 => SlB.ext (s0 (by unfold More at h0; rwa [if_neg (by decide)] at h0)) he, fun h0 => WdE.ext (s1 (more_ne h0 rfl)) he, fun h0 h1 => Bs.ext (f2 (by unfold More at h0; rwa [if_neg (by decide)] at h0) (more_ne h1 rfl)) he, fun h0 h1 => hp, fun h0 h1 => Bss.ext4 (f5 (by unfold More at h0; rwa [if_neg (by decide)] at h0) (more_ne h1 rfl)) he, fun h0 h1 => Bs.ext (f6 (by unfold More at h0; rwa [if_neg (by decide)] at h0) (more_ne h1 rfl)) he⟩)
    have HU := Lib.hid (show ∀ v, (upd V 4 v) 3 = wv n from fun v => e3)
    clear hK hC hW hL HV s0 s1 f2 f4 f5 f6
    rw [HFR.out]
    rw [e3]
    clear e3
    go_wp2_with fail
    refine (HBY.out _).mono ?_
    rintro e wx ⟨v, rfl, ho, he⟩
    have := H.out _ _ he (ho.bs)
    clear H
    go_wp2_with fail
    show K _ _
    rw [HFR.out] at this
    obtain u3 := HU.out _
    rw [u3] at this
    exact this
  · rintro L A W K hL hC hW ⟨V, rfl, HV, s0, s1, f2, f4, f5, f6⟩ hK
    have q2 := f2 (hC.no (hC.no (hC.no hL 6 _ rfl rfl) 7 _ rfl rfl) 8 _ rfl rfl) (hW 2 rfl)
    obtain ⟨A2, c2, e2, z2⟩ := Bs.shape q2
    have q4 := f4 (hC.no (hC.no (hC.no hL 6 _ rfl rfl) 7 _ rfl rfl) 8 _ rfl rfl) (hW 4 rfl)
    obtain ⟨A4, c4, e4, z4⟩ := Bs.shape q4
    have H := Lib.hid (show ∀ v W', Ext W W' → (Bss W' v [x1, x2]) → K (fr (upd V 5 v)) W' from fun v W' he hp => hK _ _ ⟨upd V 5 v, rfl, HV.up 5 _ (fun x hx => absurd hx (by intro h; cases h)), fun h0 => SlB.ext (s0 (by unfold More at h0; rwa [if_neg (by decide)] at h0)) he, fun h0 => WdE.ext (s1 (more_ne h0 rfl)) he, fun h0 h1 => Bs.ext (f2 (by unfold More at h0; rwa [if_neg (by decide)] at h0) (more_ne h1 rfl)) he, fun h0 h1 => Bs.ext (f4 (by unfold More at h0; rwa [if_neg (by decide)] at h0) (more_ne h1 rfl)) he, fun h0 h1 => hp, fun h0 h1 => Bs.ext (f6 (by unfold More at h0; rwa [if_neg (by decide)] at h0) (more_ne h1 rfl)) he⟩)
    have HU := Lib.hid (show ∀ v, (upd V 5 v) 2 = .slice A2 x1.length c2 ∧ (upd V 5 v) 4 = .slice A4 x2.length c4 from fun v => ⟨e2, e4⟩)
    clear hK hC hW hL HV s0 s1 f2 f4 f5 f6
    rw [HFR.out]
    rw [e2, e4]
    clear e2 e4
    go_wp2_with fail
    show K _ _
    have := H.out (.slice (some ⟨W.heap.size, 0, none⟩) 2 2) _ ((Ext.refl W).alloc (.cells #[.slice A2 x1.length c2, .slice A4 x2.length c4] 24)) (bss_two z2 z4 _)
    rw [HFR.out] at this
    obtain ⟨u2, u4⟩ := HU.out _
    rw [u2, u4] at this
    exact this
  · rintro L A W K hL hC hW ⟨V, rfl, HV, s0, s1, f2, f4, f5, f6⟩ hK
    have hB := s0 (hC.no (hC.no hL 7 _ rfl rfl) 8 _ rfl rfl)
    have q5 := f5 (hC.no (hC.no hL 7 _ rfl rfl) 8 _ rfl rfl) (hW 5 rfl)
    have H := Lib.hid (show ∀ v W', Ext W W' → (Bs W' v xj) → K (fr (upd V 6 v)) W' from fun v W' he hp => hK _ _ ⟨upd V 6 v, rfl, HV.up 6 _ (fun x hx => absurd hx (by intro h; cases h)), fun h0 => SlB.ext (s0 (by unfold More at h0; rwa [if_neg (by decide)] at h0)) he, fun h0 => WdE.ext (s1 (more_ne h0 rfl)) he, fun h0 h1 => Bs.ext (f2 (by unfold More at h0; rwa [if_neg (by decide)] at h0) (more_ne h1 rfl)) he, fun h0 h1 => Bs.ext (f4 (by unfold More at h0; rwa [if_neg (by decide)] at h0) (more_ne h1 rfl)) he, fun h0 h1 => Bss.ext4 (f5 (by unfold More at h0; rwa [if_neg (by decide)] at h0) (more_ne h1 rfl)) he, fun h0 h1 => hp⟩)
    clear hK hC hW hL HV s0 s1 f2 f4 f5 f6
    rw [HFR.out]
    go_wp2_with fail
    refine (HJN.out _ _ q5).mono ?_
    rintro e wx ⟨v, rfl, ho, he⟩
    have := H.out _ _ he (ho.bs)
    clear H
    go_wp2_with fail
    show K _ _
    rw [HFR.out] at this
    exact this
  · rintro L A W K hL hC hW ⟨V, rfl, HV, s0, s1, f2, f4, f5, f6⟩ hK
    have hB := s0 (hC.no hL 8 _ rfl rfl)
    have q6 := f6 (hC.no hL 8 _ rfl rfl) (hW 6 rfl)
    have H := Lib.hid (show ∀ W', Ext W W' → K (fr (upd V 7 (wv d))) W' from fun W' he => hK _ _ ⟨upd V 7 (wv d), rfl, HV.up 7 _ (fun x hx => Option.some.inj hx), fun h0 => SlB.ext (s0 (by unfold More at h0; rwa [if_neg (by decide)] at h0)) he, fun h0 => WdE.ext (s1 (more_ne h0 rfl)) he, fun h0 h1 => Bs.ext (f2 (by unfold More at h0; rwa [if_neg (by decide)] at h0) (more_ne h1 rfl)) he, fun h0 h1 => Bs.ext (f4 (by unfold More at h0; rwa [if_neg (by decide)] at h0) (more_ne h1 rfl)) he, fun h0 h1 => Bss.ext4 (f5 (by unfold More at h0; rwa [if_neg (by decide)] at h0) (more_ne h1 rfl)) he, fun h0 h1 => Bs.ext (f6 (by unfold More at h0; rwa [if_neg (by decide)] at h0) (more_ne h1 rfl)) he⟩)
    clear hK hC hW hL HV s0 s1 f2 f4 f5 f6
    rw [HFR.out]
    go_wp2_with fail
    refine (HDG.out _ _ q6 hB.tb).mono ?_
    rintro e wx ⟨rfl, he⟩
    have := H.out _ he
    clear H
    go_wp2_with fail
    show K _ _
    rw [HFR.out] at this
    exact this
  · rintro L A W K hL hC hW ⟨V, rfl, HV, s0, s1, f2, f4, f5, f6⟩ hK
    have e7 : V 7 = wv d := HV 7 _ rfl (hW 7 rfl)
    have hB := s0 hL
    have H := Lib.hid (show ∀ W', (WdE w g4 d W') → K (fr (V)) W' from fun W' hA => hK _ _ ⟨V, rfl, HV.st 8 rfl, fun h0 => absurd h0 (by unfold More; rw [if_pos rfl]; simp), fun h0 => hA, fun h0 h1 => absurd h0 (by unfold More; rw [if_pos rfl]; simp), fun h0 h1 => absurd h0 (by unfold More; rw [if_pos rfl]; simp), fun h0 h1 => absurd h0 (by unfold More; rw [if_pos rfl]; simp), fun h0 h1 => absurd h0 (by unfold More; rw [if_pos rfl]; simp)⟩)
    have HU := Lib.hid (show (V) 7 = wv d from e7)
    clear hK hC hW hL HV s0 s1 f2 f4 f5 f6
    rw [HFR.out]
    rw [e7]
    clear e7
    have HB := Lib.hid hB
    clear hB
    refine wpList_store_word rfl rfl 64 (.tmp 4) (.tmp 12) rfl winfo g4 (wc 0) d rfl rfl HB.out.2.1 rfl ?_
    intro W' hw hgr
    have HA := Lib.hid (HB.out.done hw hgr)
    show K _ _
    have := H.out _ HA.out
    rw [HFR.out] at this
    obtain u7 := HU.out
    rw [u7] at this
    exact this
  · rintro L A W hL ⟨V, rfl, HV, s0, s1, f2, f4, f5, f6⟩
    have e0 : V 0 = .int .u64 (a : Nat) := HV 0 _ rfl (hL 0 (by simp))
    have e1 : V 1 = wv a := HV 1 _ rfl (hL 1 (by simp))
    have e3 : V 3 = wv n := HV 3 _ rfl (hL 3 (by simp))
    have e7 : V 7 = wv d := HV 7 _ rfl (hL 7 (by simp))
    have hA := s1 (hL 8 (by simp))
    rw [HFR.out]
    rw [e0, e1, e3, e7]
    clear hL HV HFR e0 e1 e3 e7 s0 s1 f2 f4 f5 f6
    clear HWD HBX HBY HJN HDG
    have HA := Lib.hid hA
    clear hA
    go_wp2_with fail
    exact bodyPost_ret (results_word Tryd.results41 _ _ g4 _ rfl HA.out.1 Tryd.underlying64 winfo) rfl ⟨by rw [HD.out]; rfl, HA.out.2⟩

set_option maxRecDepth 100000 in
set_option maxHeartbeats 1000000 in
theorem refAdrSlot_any (a n : Nat) (w : World) (ha : a < 18446744073709551616) (hn : n < M256) (ht : Tb w) : Calls Tryd.prog 42 #[.int .u64 (a : Int), wv n] w fun e w' => e = .returned (wv (slotN a n)) ∧ Ext w w' := by
  have HB0 : Hid (SlB w (w.heap.size + 2) w.heap.size (w.heap.size + 1) n ((w.alloc (.cells (wc n) 64)).alloc (.cells (wc 0) 64))) :=
    Lib.hid ⟨(Cs.new _ _ _ _ rfl).alloc _, Cs.new _ _ _ _ (by simp), ht, ((Ext.refl w).alloc _).alloc _, by simp, by omega, by omega, by omega⟩
  rw [wc_zero] at HB0
  have HWD := Lib.hid (fun W => refAdrWord_any a W ha)
  have HBX := Lib.hid (fun W => refBytes_any a W)
  have HBY := Lib.hid (fun W => refBytes_any n W)
  have HJN := Lib.hid (fun v W (h : Bss W v [bytL a (List.range 32), bytL n (List.range 32)]) => joinedS a n v W h)
  have HDG := Lib.hid (fun v W (h : Bs W v (bytL a (List.range 32) ++ bytL n (List.range 32))) => refAdrDigest_any v _ W h (by simp [bytL_len]))
  have HLN := Lib.hid (show (bytL a (List.range 32)).length + (bytL n (List.range 32)).length ≤ 64 by rw [bytL_len, bytL_len]; simp)
  obtain ⟨d, hd⟩ : ∃ d, dgW (bytL a (List.range 32) ++ bytL n (List.range 32)) = d := ⟨_, rfl⟩
  have HD := Lib.hid (show slotN a n = d from hd)
  rw [hd] at HDG
  clear hd
  obtain ⟨xj, hxj⟩ : ∃ xj, bytL a (List.range 32) ++ bytL n (List.range 32) = xj := ⟨_, rfl⟩
  rw [hxj] at HDG HJN
  have HXJ := Lib.hid hxj
  clear hxj
  generalize bytL a (List.range 32) = x1 at *
  generalize bytL n (List.range 32) = x2 at *
  have HGE := Lib.hid (show w.heap.size ≤ w.heap.size + 1 by omega)
  unfold wv
  go_enter Tryd.func42, Tryd.ntmps42
  go_upto_region 1 with fail
  generalize w.heap.size + 2 = B at *
  generalize hg4 : w.heap.size + 1 = g4 at *
  generalize hg3 : w.heap.size = g3 at *
  have HG4 := Lib.hid hg4
  have HG3 := Lib.hid hg3
  clear hg4 hg3
  generalize (w.alloc (.cells (wc n) 64)).alloc (.cells #[.int .u64 0, .int .u64 0, .int .u64 0, .int .u64 0] 64) = w1 at *
  refine wp_named fun a0 ha0 => ?_
  obtain ⟨fr, hfr⟩ : ∃ fr : (Nat → Value) → Act, ∀ V, fr V = (((((((a0.put (some 5) (V 0)).put (some 6) (V 1)).put (some 7) (V 2)).put (some 8) (V 3)).put (some 9) (V 4)).put (some 10) (V 5)).put (some 11) (V 6)) := ⟨fun V => (((((((a0.put (some 5) (V 0)).put (some 6) (V 1)).put (some 7) (V 2)).put (some 8) (V 3)).put (some 9) (V 4)).put (some 10) (V 5)).put (some 11) (V 6)), fun _ => rfl⟩
  rw [ha0] at hfr
  simp only [Act.put, List.setIfInBounds_toArray, List.set_cons_zero, List.set_cons_succ] at hfr
  have HFR := Lib.hid hfr
  clear hfr
  refine wp_region_inv (by kernel_rfl) (by kernel_rfl) (fun L A W => ∃ V : Nat → Value, A = fr V ∧ Vals (fun j => ([some (.int .u64 (a : Nat)), some (wv a), none, some (wv n), none, none, some (wv d), none] : List (Option Value)).getD j none) L V ∧ (L 5 = false → SlB w B g3 g4 n W) ∧ (L 5 = true → L 7 = false → SlB w B g3 g4 n W) ∧ (L 7 = true → WdE w g4 d W) ∧ (L 5 = false → L 2 = true → Own W B 5 (V 2) x1) ∧ (L 5 = false → L 4 = true → Bs W (V 4) x2) ∧ (L 7 = false → L 5 = true → Bs W (V 5) xj)) ?_ ⟨?_, ?_, ?_, ?_, ?_, ?_, ?_, ?_, trivial⟩ ?_
  · refine ⟨fun j => a0.tmps.getD (([5, 6, 7, 8, 9, 10, 11, 0] : List Nat).getD j 0) undef, ?_, Vals.no _ _ _ (far_none _ _ rfl), fun _ => HB0.out.ext (Ext.refl _).drew, fun h0 h1 => absurd h0 (by decide), fun h0 => absurd h0 (by decide), fun h0 h1 => absurd h1 (by decide), fun h0 h1 => absurd h1 (by decide), fun h0 h1 => absurd h1 (by decide)⟩
    rw [HFR.out, ha0]
    rfl
  all_goals clear ha0
  · rintro L A W K hL hC hW ⟨V, rfl, HV, s0, s1, s2, f2, f4, f5⟩ hK
    have H := Lib.hid (show ∀ W', Ext W W' → K (fr (upd V 0 (.int .u64 (a : Nat)))) W' from fun W' he => hK _ _ ⟨upd V 0 (.int .u64 (a : Nat)), rfl, HV.up 0 _ (fun x hx => Option.some.inj hx), fun h0 => SlB.ext (s0 (by unfold More at h0; rwa [if_neg (by decide)] at h0)) he, fun h0 h1 => SlB.ext (s1 (more_ne h0 rfl) (by unfold More at h1; rwa [if_neg (by decide)] at h1)) he, fun h0 => WdE.ext (s2 (more_ne h0 rfl)) he, fun h0 h1 => Own.ext (f2 (by unfold More at h0; rwa [if_neg (by decide)] at h0) (more_ne h1 rfl)) he, fun h0 h1 => Bs.ext (f4 (by unfold More at h0; rwa [if_neg (by decide)] at h0) (more_ne h1 rfl)) he, fun h0 h1 => Bs.ext (f5 (by unfold More at h0; rwa [if_neg (by decide)] at h0) (more_ne h1 rfl)) he⟩)
    clear hK hC hW hL HV s0 s1 s2 f2 f4 f5
    rw [HFR.out]
    go_wp2_with fail
    show K _ _
    have := H.out _ (Ext.refl _)
    rw [HFR.out] at this
    exact this
  · rintro L A W K hL hC hW ⟨V, rfl, HV, s0, s1, s2, f2, f4, f5⟩ hK
    have e0 : V 0 = .int .u64 (a : Nat) := HV 0 _ rfl (hW 0 rfl)
    have hB := s0 (hC.no (hC.no hL 2 _ rfl rfl) 5 _ rfl rfl)
    have H := Lib.hid (show ∀ W', Ext W W' → K (fr (upd V 1 (wv a))) W' from fun W' he => hK _ _ ⟨upd V 1 (wv a), rfl, HV.up 1 _ (fun x hx => Option.some.inj hx), fun h0 => SlB.ext (s0 (by unfold More at h0; rwa [if_neg (by decide)] at h0)) he, fun h0 h1 => SlB.ext (s1 (more_ne h0 rfl) (by unfold More at h1; rwa [if_neg (by decide)] at h1)) he, fun h0 => WdE.ext (s2 (more_ne h0 rfl)) he, fun h0 h1 => Own.ext (f2 (by unfold More at h0; rwa [if_neg (by decide)] at h0) (more_ne h1 rfl)) he, fun h0 h1 => Bs.ext (f4 (by unfold More at h0; rwa [if_neg (by decide)] at h0) (more_ne h1 rfl)) he, fun h0 h1 => Bs.ext (f5 (by unfold More at h0; rwa [if_neg (by decide)] at h0) (more_ne h1 rfl)) he⟩)
    have HU := Lib.hid (show (upd V 1 (wv a)) 0 = .int .u64 (a : Nat) from e0)
    clear hK hC hW hL HV s0 s1 s2 f2 f4 f5
    rw [HFR.out]
    rw [e0]
    clear e0
    go_wp2_with fail
    refine (HWD.out _).mono ?_
    rintro e wx ⟨rfl, he⟩
    have := H.out _ he
    clear H
    go_wp2_with fail
    show K _ _
    rw [HFR.out] at this
    obtain u0 := HU.out
    rw [u0] at this
    exact this
  · rintro L A W K hL hC hW ⟨V, rfl, HV, s0, s1, s2, f2, f4, f5⟩ hK
    have e1 : V 1 = wv a := HV 1 _ rfl (hW 1 rfl)
    have hB := s0 (hC.no hL 5 _ rfl rfl)
    have H := Lib.hid (show ∀ v W', Ext W W' → (Own W' B 5 v x1) → K (fr (upd V 2 v)) W' from fun v W' he hp => hK _ _ ⟨upd V 2 v, rfl, HV.up 2 _ (fun x hx => absurd hx (by intro h; cases h)), fun h0 => SlB.ext (s0 (by unfold More at h0; rwa [if_neg (by decide)] at h0)) he, fun h0 h1 => SlB.ext (s1 (more_ne h0 rfl) (by unfold More at h1; rwa [if_neg (by decide)] at h1)) he, fun h0 => WdE.ext (s2 (more_ne h0 rfl)) he, fun h0 h1 => hp, fun h0 h1 => Bs.ext (f4 (by unfold More at h0; rwa [if_neg (by decide)] at h0) (more_ne h1 rfl)) he, fun h0 h1 => Bs.ext (f5 (by unfold More at h0; rwa [if_neg (by decide)] at h0) (more_ne h1 rfl)) he⟩)
    have HU := Lib.hid (show ∀ v, (upd V 2 v) 1 = wv a from fun v => e1)
    clear hK hC hW hL HV s0 s1 s2 f2 f4 f5
    rw [HFR.out]
    rw [e1]
    clear e1
    go_wp2_with fail
    refine (HBX.out _).mono ?_
    rintro e wx ⟨v, rfl, ho, he⟩
    have := H.out _ _ he (Own.mono ho hB.2.2.2.2.1)
    clear H
    go_wp2_with fail
    show K _ _
    rw [HFR.out] at this
    obtain u1 := HU.out _
    rw [u1] at this
    exact this
  · rintro L A W K hL hC hW ⟨V, rfl, HV, s0, s1, s2, f2, f4, f5⟩ hK
    have hB := s0 (hC.no (hC.no hL 4 _ rfl rfl) 5 _ rfl rfl)
    have H := Lib.hid (show ∀ W', Ext W W' → K (fr (upd V 3 (wv n))) W' from fun W' he => hK _ _ ⟨upd V 3 (wv n), rfl, HV.up 3 _ (fun x hx => Option.some.inj hx), fun h0 => SlB.ext (s0 (by unfold More at h0; rwa [if_neg (by decide)] at h0)) he, fun h0 h1 => SlB.ext (s1 (more_ne h0 rfl) (by unfold More at h1; rwa [if_neg (by decide)] at h1)) he, fun h0 => WdE.ext (s2 (more_ne h0 rfl)) he, fun h0 h1 => Own.ext (f2 (by unfold More at h0; rwa [if_neg (by decide)] at h0) (more_ne h1 rfl)) he, fun h0 h1 => Bs.ext (f4 (by unfold More at h0; rwa [if_neg (by decide)] at h0) (more_ne h1 rfl)) he, fun h0 h1 => Bs.ext (f5 (by unfold More at h0; rwa [if_neg (by decide)] at h0) (more_ne h1 rfl)) he⟩)
    clear hK hC hW hL HV s0 s1 s2 f2 f4 f5
    rw [HFR.out]
    have HW := Lib.hid hB.1
    clear hB
    refine wpList_load_wordG rfl 64 33 (.tmp 3) rfl Tryd.underlying64 winfo (g3) (n) rfl HW.out ?_
    show K _ _
    have := H.out _ (Ext.refl _)
    rw [HFR.out] at this
    exact this
  · rintro L A W K hL hC hW ⟨V, rfl, HV, s0, s1, s2, f2, f4, f5⟩ hK
    have e3 : V 3 = wv n := HV 3 _ rfl (hW 3 rfl)
    have hB := s0 (hC.no hL 5 _ rfl rfl)
    have H := Lib.hid (show ∀ v W', Ext W W' → (Bs W' v x2) → K (fr (upd V 4 v)) W' from fun v W' he hp => hK _ _ ⟨upd V 4 v, rfl, HV.up 4 _ (fun x hx => absurd hx (by intro h; cases h)), fun h0 => SlB.ext (s0 (by unfold More at h0; rwa [if_neg (by decide)] at h0)) he, fun h0 h1 => SlB.ext (s1 (more_ne h0 rfl) (by unfold More at h1; rwa [if_neg (by decide)] at h1)) he, fun h0 => WdE.ext (s2 (more_ne h0 rfl)) he, fun h0 h1 => Own.ext (f2 (by unfold More at h0; rwa [if_neg (by decide)] at h0) (more_ne h1 rfl)) he, fun h0 h1 => hp, fun h0 h1 => Bs.ext (f5 (by unfold More at h0; rwa [if_neg (by decide)] at h0) (more_ne h1 rfl)) he⟩)
    have HU := Lib.hid (show ∀ v, (upd V 4 v) 3 = wv n from fun v => e3)
    clear hK hC hW hL HV s0 s1 s2 f2 f4 f5
    rw [HFR.out]
    rw [e3]
    clear e3
    go_wp2_with fail
    refine (HBY.out _).mono ?_
    rintro e wx ⟨v, rfl, ho, he⟩
    have := H.out _ _ he (ho.bs)
    clear H
    go_wp2_with fail
    show K _ _
    rw [HFR.out] at this
    obtain u3 := HU.out _
    rw [u3] at this
    exact this
  · rintro L A W K hL hC hW ⟨V, rfl, HV, s0, s1, s2, f2, f4, f5⟩ hK
    have hB := s0 hL
    have q2 := f2 hL (hW 2 rfl)
    have q4 := f4 hL (hW 4 rfl)
    have H := Lib.hid (show ∀ v W', (SlB w B g3 g4 n W') → (Bs W' v xj) → K (fr (upd V 5 v)) W' from fun v W' hA hp => hK _ _ ⟨upd V 5 v, rfl, HV.up 5 _ (fun x hx => absurd hx (by intro h; cases h)), fun h0 => absurd h0 (by unfold More; rw [if_pos rfl]; simp), fun h0 h1 => hA, fun h0 => absurd (more_ne h0 rfl) (by rw [(hC.no (hC.no hL 6 _ rfl rfl) 7 _ rfl rfl)]; simp), fun h0 h1 => absurd h0 (by unfold More; rw [if_pos rfl]; simp), fun h0 h1 => absurd h0 (by unfold More; rw [if_pos rfl]; simp), fun h0 h1 => hp⟩)
    clear hK hC hW hL HV s0 s1 s2 f2 f4 f5
    rw [HFR.out]
    have HB := Lib.hid hB
    have Q2 := Lib.hid q2
    have Q4 := Lib.hid q4
    clear hB q2 q4
    go_wp2_with (at_builtin; go_loud (refine wpList_append_bytes rfl (.tmp 7) (.tmp 9) _ rfl B 5 Tryd.underlying24 u8info _ x1 rfl Q2.out _ x2 rfl Q4.out (by have := HLN.out; omega) HB.out.2.2.2.2.1 ?_); intro v' W' ho hg _; rw [HXJ.out] at ho; have HP := Lib.hid ho.bs; have HA := Lib.hid (HB.out.grown hg (fun j hj => (Q2.out.lt j hj).1)); clear ho hg)
    show K _ _
    have := H.out _ _ HA.out HP.out
    rw [HFR.out] at this
    exact this
  · rintro L A W K hL hC hW ⟨V, rfl, HV, s0, s1, s2, f2, f4, f5⟩ hK
    have hB := s1 (hW 5 rfl) (hC.no hL 7 _ rfl rfl)
    have q5 := f5 (hC.no hL 7 _ rfl rfl) (hW 5 rfl)
    have H := Lib.hid (show ∀ W', Ext W W' → K (fr (upd V 6 (wv d))) W' from fun W' he => hK _ _ ⟨upd V 6 (wv d), rfl, HV.up 6 _ (fun x hx => Option.some.inj hx), fun h0 => SlB.ext (s0 (by unfold More at h0; rwa [if_neg (by decide)] at h0)) he, fun h0 h1 => SlB.ext (s1 (more_ne h0 rfl) (by unfold More at h1; rwa [if_neg (by decide)] at h1)) he, fun h0 => WdE.ext (s2 (more_ne h0 rfl)) he, fun h0 h1 => Own.ext (f2 (by unfold More at h0; rwa [if_neg (by decide)] at h0) (more_ne h1 rfl)) he, fun h0 h1 => Bs.ext (f4 (by unfold More at h0; rwa [if_neg (by decide)] at h0) (more_ne h1 rfl)) he, fun h0 h1 => Bs.ext (f5 (by unfold More at h0; rwa [if_neg (by decide)] at h0) (more_ne h1 rfl)) he⟩)
    clear hK hC hW hL HV s0 s1 s2 f2 f4 f5
    rw [HFR.out]
    go_wp2_with fail
    refine (HDG.out _ _ q5).mono ?_
    rintro e wx ⟨rfl, he⟩
    have := H.out _ he
    clear H
    go_wp2_with fail
    show K _ _
    rw [HFR.out] at this
    exact this
  · rintro L A W K hL hC hW ⟨V, rfl, HV, s0, s1, s2, f2, f4, f5⟩ hK
    have e6 : V 6 = wv d := HV 6 _ rfl (hW 6 rfl)
    have hB := s1 (hC 6 _ rfl (hW 6 rfl) 5 rfl) hL
    have H := Lib.hid (show ∀ W', (WdE w g4 d W') → K (fr (V)) W' from fun W' hA => hK _ _ ⟨V, rfl, HV.st 7 rfl, fun h0 => absurd (show L 5 = false by unfold More at h0; rwa [if_neg (by decide)] at h0) (by rw [(hC 6 _ rfl (hW 6 rfl) 5 rfl)]; simp), fun h0 h1 => absurd h1 (by unfold More; rw [if_pos rfl]; simp), fun h0 => hA, fun h0 h1 => absurd (show L 5 = false by unfold More at h0; rwa [if_neg (by decide)] at h0) (by rw [(hC 6 _ rfl (hW 6 rfl) 5 rfl)]; simp), fun h0 h1 => absurd (show L 5 = false by unfold More at h0; rwa [if_neg (by decide)] at h0) (by rw [(hC 6 _ rfl (hW 6 rfl) 5 rfl)]; simp), fun h0 h1 => absurd h0 (by unfold More; rw [if_pos rfl]; simp)⟩)
    have HU := Lib.hid (show (V) 6 = wv d from e6)
    clear hK hC hW hL HV s0 s1 s2 f2 f4 f5
    rw [HFR.out]
    rw [e6]
    clear e6
    have HB := Lib.hid hB
    clear hB
    refine wpList_store_word rfl rfl 64 (.tmp 4) (.tmp 11) rfl winfo g4 (wc 0) d rfl rfl HB.out.2.1 rfl ?_
    intro W' hw hgr
    have HA := Lib.hid (HB.out.done hw hgr)
    show K _ _
    have := H.out _ HA.out
    rw [HFR.out] at this
    obtain u6 := HU.out
    rw [u6] at this
    exact this
  · rintro L A W hL ⟨V, rfl, HV, s0, s1, s2, f2, f4, f5⟩
    have e0 : V 0 = .int .u64 (a : Nat) := HV 0 _ rfl (hL 0 (by simp))
    have e1 : V 1 = wv a := HV 1 _ rfl (hL 1 (by simp))
    have e3 : V 3 = wv n := HV 3 _ rfl (hL 3 (by simp))
    have e6 : V 6 = wv d := HV 6 _ rfl (hL 6 (by simp))
    have hA := s2 (hL 7 (by simp))
    rw [HFR.out]
    rw [e0, e1, e3, e6]
    clear hL HV HFR e0 e1 e3 e6 s0 s1 s2 f2 f4 f5
    clear HWD HBX HBY HJN HDG
    have HA := Lib.hid hA
    clear hA
    go_wp2_with fail
    exact bodyPost_ret (results_word Tryd.results42 _ _ g4 _ rfl HA.out.1 Tryd.underlying64 winfo) rfl ⟨by rw [HD.out]; rfl, HA.out.2⟩
end Go.Proofs.YthjmjccggkejhaaDoor
