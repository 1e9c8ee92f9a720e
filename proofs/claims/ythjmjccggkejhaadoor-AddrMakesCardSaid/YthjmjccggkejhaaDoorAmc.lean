/- What is created, and what the document says of it. -/
import Derived.Test.YthjmjccggkejhaaDoorAmb
namespace Go.Proofs.YthjmjccggkejhaaDoor
open Go.RowKit Go.Shelf

set_option maxRecDepth 100000 in
theorem bss_four {W : World} {v1 v2 v3 v4 : Value} {l1 l2 l3 l4 : List UInt8} (h1 : Bs W v1 l1) (h2 : Bs W v2 l2) (h3 : Bs W v3 l3) (h4 : Bs W v4 l4) (t : TypeId) : Bss (W.alloc (.cells #[v1, v2, v3, v4] t)) (.slice (some ⟨W.heap.size, 0, none⟩) 4 4) [l1, l2, l3, l4] :=
  bss_row [v1, v2, v3, v4] [l1, l2, l3, l4] t 4 rfl rfl (by simp) fun i v l hv hl => by
    match i with
    | 0 => simp at hv hl; subst hv; subst hl; exact h1
    | 1 => simp at hv hl; subst hv; subst hl; exact h2
    | 2 => simp at hv hl; subst hv; subst hl; exact h3
    | 3 => simp at hv hl; subst hv; subst hl; exact h4
    | i + 4 => simp at hv
set_option maxRecDepth 100000 in
theorem id_slice0 (g : Nat) (W : World) : (Instr.sliceAt 27 (.pointer (some ⟨g, 0, none⟩)) none none none).run Tryd.prog W = .ok (.slice (some ⟨g, 0, none⟩) 32 32) W := rfl
/-- The bytes of which an address is made. -/
def crJ (a n : Nat) (b : List UInt8) : List UInt8 := [255] ++ (hi8 a ++ (bytL n (List.range 32) ++ idL (sumF b)))
/-- The address of what is created. -/
def crN (a n : Nat) (b : List UInt8) : Nat := num (last8 ((idL (sumF (crJ a n b))).take 8))
set_option maxRecDepth 100000 in
theorem hi8_len (a : Nat) : (hi8 a).length = 8 := hiK_length a 8
set_option maxRecDepth 100000 in
theorem crJ_len (a n : Nat) (b : List UInt8) : (crJ a n b).length = 73 := by simp [crJ, hi8_len, bytL_len, idL_len]
set_option maxRecDepth 100000 in
theorem rd_cr (f : Nat → Nat) : adrRd (idL f) = .tuple #[.int .u64 (num (last8 ((idL f).take 8)) : Nat), .int .i64 0] := by unfold adrRd; rw [if_neg (by rw [idL_len]; decide)]
/-- What lies there ahead of what is created. -/
def CrB (w : World) (g4 g7 n : Nat) (p : Nat → Nat) (W : World) : Prop := Wd W g4 64 n ∧ Ib W g7 p ∧ Tb w ∧ Ext w W
set_option maxRecDepth 100000 in
theorem CrB.ext {w : World} {g4 g7 n : Nat} {p : Nat → Nat} {W W' : World} (h : CrB w g4 g7 n p W) (he : Ext W W') : CrB w g4 g7 n p W' := ⟨h.1.ext he, Cs.ext h.2.1 he, h.2.2.1, h.2.2.2.trans he⟩
set_option maxRecDepth 100000 in
theorem CrB.tb {w : World} {g4 g7 n : Nat} {p : Nat → Nat} {W : World} (h : CrB w g4 g7 n p W) : Tb W := h.2.2.1.ext h.2.2.2
def CrA (w : World) (q : Nat → Nat) (W : World) (v : Value) : Prop := ∃ g, v = .pointer (some ⟨g, 0, none⟩) ∧ Ib W g q ∧ Ext w W
set_option maxRecDepth 100000 in
theorem CrA.ext {w : World} {q : Nat → Nat} {W W' : World} {v : Value} (h : CrA w q W v) (he : Ext W W') : CrA w q W' v := by
  obtain ⟨g, e, h1, h2⟩ := h
  exact ⟨g, e, Cs.ext h1 he, h2.trans he⟩
def NwI (w W : World) (v : Value) : Prop := ∃ g, v = .pointer (some ⟨g, 0, none⟩) ∧ w.heap.size ≤ g ∧ Cs W g 27 (ic fun _ => 0)
set_option maxRecDepth 100000 in
theorem NwI.ext {w W W' : World} {v : Value} (h : NwI w W v) (he : Ext W W') : NwI w W' v := by
  obtain ⟨g, e, h1, h2⟩ := h
  exact ⟨g, e, h1, h2.ext he⟩
set_option maxRecDepth 100000 in
theorem NwI.new {w W : World} (h : w.heap.size ≤ W.heap.size) : NwI w (W.alloc (.cells #[Value.int .u8 0, Value.int .u8 0, Value.int .u8 0, Value.int .u8 0, Value.int .u8 0, Value.int .u8 0, Value.int .u8 0, Value.int .u8 0, Value.int .u8 0, Value.int .u8 0, Value.int .u8 0, Value.int .u8 0, Value.int .u8 0, Value.int .u8 0, Value.int .u8 0, Value.int .u8 0, Value.int .u8 0, Value.int .u8 0, Value.int .u8 0, Value.int .u8 0, Value.int .u8 0, Value.int .u8 0, Value.int .u8 0, Value.int .u8 0, Value.int .u8 0, Value.int .u8 0, Value.int .u8 0, Value.int .u8 0, Value.int .u8 0, Value.int .u8 0, Value.int .u8 0, Value.int .u8 0] 27)) (.pointer (some ⟨W.heap.size, 0, none⟩)) := ⟨_, rfl, h, Cs.new _ _ _ _ rfl⟩

set_option maxRecDepth 100000 in
set_option maxHeartbeats 1000000 in
theorem adrCreated_any (a n : Nat) (v : Value) (b : List UInt8) (w : World) (ha : a < 18446744073709551616) (hn : n < M256) (hb : Bs w v b) (hl : b.length ≤ 1000000000) (ht : Tb w) : Calls Tryd.prog 39 #[.int .u64 (a : Int), wv n, v] w fun e w' => e = .returned (.int .u64 (crN a n b : Nat)) ∧ Ext w w' := by
  have HB := Lib.hid hb
  have HT := Lib.hid ht
  have HK : Hid (Wd (w.alloc (.cells (wc n) 64)) w.heap.size 64 n) := Lib.hid (Cs.new _ _ _ _ rfl)
  have HE : Hid (Ext w (w.alloc (.cells (wc n) 64))) := (Ext.refl w).alloc _
  have HX0 := Lib.hid (fun W => Bs.one1 W 5 (.int .u8 255) 255 rfl)
  have HBX := Lib.hid (fun W => adrBytes_any a W ha)
  have HBY := Lib.hid (fun W => bytes_any n W)
  have HBB := Lib.hid (fun i (_ : i < 32) => sum_byte b i)
  have HBC := Lib.hid (fun i (_ : i < 32) => sum_byte (crJ a n b) i)
  have HJN := Lib.hid (fun v W (h : Bss W v [[255], hi8 a, bytL n (List.range 32), idL (sumF b)]) => (show Calls Tryd.prog 59 #[v] W (RetB W (crJ a n b)) from by
    have := joined_any v _ W h (by simp [hi8_len, bytL_len, idL_len])
    simpa [crJ] using this))
  have HSM := Lib.hid (fun v W (h : Bs W v (crJ a n b)) (t : Tb W) => sum_any v _ W h (by rw [crJ_len]; decide) t)
  have HRD := Lib.hid (rd_cr (sumF (crJ a n b)))
  have HCN := Lib.hid (show crN a n b = num (last8 ((idL (sumF (crJ a n b))).take 8)) from rfl)
  clear hb ht ha hn
  unfold wv
  go_enter Tryd.func39, Tryd.ntmps39
  go_wp2_with fail
  refine (sum_any v b _ (HB.out.ext HE.out) hl (HT.out.ext HE.out)).mono ?_
  rintro e w1 ⟨rfl, he⟩
  have HK := Lib.hid (HK.out.ext he)
  have HE := Lib.hid (HE.out.trans he)
  clear he
  generalize sumF b = p at *
  have HID := Lib.hid (fun W (h : Ib W w1.heap.size p) => idb_bs h HBB.out)
  go_upto_region 2 with ((with_reducible refine wpList_store_id ?_ ?_ (.tmp 7) (.tmp 12) ?_ w1.heap.size (ic fun _ => 0) p ?_ ?_ ?_ ?_ ?_); (exact rfl); (exact rfl); (exact rfl); (exact rfl); (exact rfl); (exact Cs.new _ _ _ _ rfl); (exact ic_size _); intro w2 k2 g2; have HB0 : Hid (CrB w w.heap.size w1.heap.size n p w2) := Lib.hid ⟨(HK.out.ext ((Ext.refl w1).alloc _)).kept g2 (some_ne (by have := HK.out.lt; omega)), k2, HT.out, (HE.out.alloc _).grown g2 HE.out.size⟩; clear k2 g2)
  clear HK HE HB HBB
  generalize hg4 : w.heap.size = g4 at *
  clear hg4
  generalize w1.heap.size = g7 at *
  generalize sumF (crJ a n b) = q at *
  generalize crJ a n b = xj at *
  generalize ([255] : List UInt8) = x0 at *
  generalize hi8 a = x1 at *
  generalize bytL n (List.range 32) = x2 at *
  generalize idL p = x3 at *
  refine wp_named fun a0 ha0 => ?_
  obtain ⟨fr, hfr⟩ : ∃ fr : (Nat → Value) → Act, ∀ V, fr V = ((((((((((a0.put (some 13) (V 0)).put (some 14) (V 1)).put (some 15) (V 2)).put (some 16) (V 3)).put (some 17) (V 4)).put (some 18) (V 5)).put (some 19) (V 6)).put (some 20) (V 7)).put (some 21) (V 8)).put (some 8) (V 9)) := ⟨fun V => ((((((((((a0.put (some 13) (V 0)).put (some 14) (V 1)).put (some 15) (V 2)).put (some 16) (V 3)).put (some 17) (V 4)).put (some 18) (V 5)).put (some 19) (V 6)).put (some 20) (V 7)).put (some 21) (V 8)).put (some 8) (V 9)), fun _ => rfl⟩
  rw [ha0] at hfr
  simp only [Act.put, List.setIfInBounds_toArray, List.set_cons_zero, List.set_cons_succ] at hfr
  have HFR := Lib.hid hfr
  clear hfr
  refine wp_region_inv (by kernel_rfl) (by kernel_rfl) (fun L A W => ∃ V : Nat → Value, A = fr V ∧ Vals (fun j => ([none, some (.int .u64 (a : Nat)), none, some (wv n), none, some (.slice (some ⟨g7, 0, none⟩) 32 32), none, none, some (idv q), none, none] : List (Option Value)).getD j none) L V ∧ (L 10 = false → CrB w g4 g7 n p W) ∧ (L 10 = true → CrA w q W (V 9)) ∧ (L 10 = false → L 0 = true → Bs W (V 0) x0) ∧ (L 10 = false → L 2 = true → Bs W (V 2) x1) ∧ (L 10 = false → L 4 = true → Bs W (V 4) x2) ∧ (L 10 = false → L 6 = true → Bss W (V 6) [x0, x1, x2, x3]) ∧ (L 10 = false → L 7 = true → Bs W (V 7) xj) ∧ (L 10 = false → L 9 = true → NwI w W (V 9))) ?_ ⟨?_, ?_, ?_, ?_, ?_, ?_, ?_, ?_, ?_, ?_, ?_, trivial⟩ ?_
  · refine ⟨fun j => a0.tmps.getD (([13, 14, 15, 16, 17, 18, 19, 20, 21, 8, 0] : List Nat).getD j 0) undef, ?_, Vals.no _ _ _ (far_none _ _ rfl), fun _ => HB0.out.ext (Ext.refl _).drew, fun h0 => absurd h0 (by decide), fun h0 h1 => absurd h1 (by decide), fun h0 h1 => absurd h1 (by decide), fun h0 h1 => absurd h1 (by decide), fun h0 h1 => absurd h1 (by decide), fun h0 h1 => absurd h1 (by decide), fun h0 h1 => absurd h1 (by decide)⟩
    rw [HFR.out, ha0]
    rfl
  all_goals clear ha0
  · rintro L A W K hL hC hW ⟨V, rfl, HV, s0, s1, f0, f2, f4, f6, f7, f9⟩ hK
    have H := Lib.hid (show ∀ v W', Ext W W' → (Bs W' v x0) → K (fr (upd V 0 v)) W' from fun v W' he hp => hK _ _ ⟨upd V 0 v, rfl, HV.up 0 _ (fun x hx => absurd hx (by intro h; cases h)), fun h0 => CrB.ext (s0 (by unfold More at h0; rwa [if_neg (by decide)] at h0)) he, fun h0 => CrA.ext (s1 (more_ne h0 rfl)) he, fun h0 h1 => hp, fun h0 h1 => Bs.ext (f2 (by unfold More at h0; rwa [if_neg (by decide)] at h0) (more_ne h1 rfl)) he, fun h0 h1 => Bs.ext (f4 (by unfold More at h0; rwa [if_neg (by decide)] at h0) (more_ne h1 rfl)) he, fun h0 h1 => Bss.ext4 (f6 (by unfold More at h0; rwa [if_neg (by decide)] at h0) (more_ne h1 rfl)) he, fun h0 h1 => Bs.ext (f7 (by unfold More at h0; rwa [if_neg (by decide)] at h0) (more_ne h1 rfl)) he, fun h0 h1 => NwI.ext (f9 (by unfold More at h0; rwa [if_neg (by decide)] at h0) (more_ne h1 rfl)) he⟩)
    clear hK hC hW hL HV s0 s1 f0 f2 f4 f6 f7 f9
    rw [HFR.out]
    go_wp2_with fail
    show K _ _
    have := H.out (.slice (some ⟨W.heap.size, 0, none⟩) 1 1) _ ((Ext.refl W).alloc (.cells #[.int .u8 255] 5)) (HX0.out _)
    rw [HFR.out] at this
    exact this
  · rintro L A W K hL hC hW ⟨V, rfl, HV, s0, s1, f0, f2, f4, f6, f7, f9⟩ hK
    have H := Lib.hid (show ∀ W', Ext W W' → K (fr (upd V 1 (.int .u64 (a : Nat)))) W' from fun W' he => hK _ _ ⟨upd V 1 (.int .u64 (a : Nat)), rfl, HV.up 1 _ (fun x hx => Option.some.inj hx), fun h0 => CrB.ext (s0 (by unfold More at h0; rwa [if_neg (by decide)] at h0)) he, fun h0 => CrA.ext (s1 (more_ne h0 rfl)) he, fun h0 h1 => Bs.ext (f0 (by unfold More at h0; rwa [if_neg (by decide)] at h0) (more_ne h1 rfl)) he, fun h0 h1 => Bs.ext (f2 (by unfold More at h0; rwa [if_neg (by decide)] at h0) (more_ne h1 rfl)) he, fun h0 h1 => Bs.ext (f4 (by unfold More at h0; rwa [if_neg (by decide)] at h0) (more_ne h1 rfl)) he, fun h0 h1 => Bss.ext4 (f6 (by unfold More at h0; rwa [if_neg (by decide)] at h0) (more_ne h1 rfl)) he, fun h0 h1 => Bs.ext (f7 (by unfold More at h0; rwa [if_neg (by decide)] at h0) (more_ne h1 rfl)) he, fun h0 h1 => NwI.ext (f9 (by unfold More at h0; rwa [if_neg (by decide)] at h0) (more_ne h1 rfl)) he⟩)
    clear hK hC hW hL HV s0 s1 f0 f2 f4 f6 f7 f9
    rw [HFR.out]
    go_wp2_with fail
    show K _ _
    have := H.out _ (Ext.refl _)
    rw [HFR.out] at this
    exact this
  · rintro L A W K hL hC hW ⟨V, rfl, HV, s0, s1, f0, f2, f4, f6, f7, f9⟩ hK
    have e1 : V 1 = .int .u64 (a : Nat) := HV 1 _ rfl (hW 1 rfl)
    have hB := s0 (hC.no (hC.no (hC.no (hC.no hL 6 _ rfl rfl) 7 _ rfl rfl) 8 _ rfl rfl) 10 _ rfl rfl)
    have H := Lib.hid (show ∀ v W', Ext W W' → (Bs W' v x1) → K (fr (upd V 2 v)) W' from fun v W' he hp => hK _ _ ⟨upd V 2 v, rfl, HV.up 2 _ (fun x hx => absurd hx (by intro h; cases h)), fun h0 => CrB.ext (s0 (by unfold More at h0; rwa [if_neg (by decide)] at h0)) he, fun h0 => CrA.ext (s1 (more_ne h0 rfl)) he, fun h0 h1 => Bs.ext (f0 (by unfold More at h0; rwa [if_neg (by decide)] at h0) (more_ne h1 rfl)) he, fun h0 h1 => hp, fun h0 h1 => Bs.ext (f4 (by unfold More at h0; rwa [if_neg (by decide)] at h0) (more_ne h1 rfl)) he, fun h0 h1 => Bss.ext4 (f6 (by unfold More at h0; rwa [if_neg (by decide)] at h0) (more_ne h1 rfl)) he, fun h0 h1 => Bs.ext (f7 (by unfold More at h0; rwa [if_neg (by decide)] at h0) (more_ne h1 rfl)) he, fun h0 h1 => NwI.ext (f9 (by unfold More at h0; rwa [if_neg (by decide)] at h0) (more_ne h1 rfl)) he⟩)
    have HU := Lib.hid (show ∀ v, (upd V 2 v) 1 = .int .u64 (a : Nat) from fun v => e1)
    clear hK hC hW hL HV s0 s1 f0 f2 f4 f6 f7 f9
    rw [HFR.out]
    rw [e1]
    clear e1
    go_wp2_with fail
    refine (HBX.out _).mono ?_
    rintro e wx ⟨v, rfl, ho, he⟩
    have := H.out _ _ he (ho.bs)
    clear H
    go_wp2_with fail
    show K _ _
    rw [HFR.out] at this
    obtain u1 := HU.out _
    rw [u1] at this
    exact this
  · rintro L A W K hL hC hW ⟨V, rfl, HV, s0, s1, f0, f2, f4, f6, f7, f9⟩ hK
    have hB := s0 (hC.no (hC.no (hC.no (hC.no (hC.no hL 4 _ rfl rfl) 6 _ rfl rfl) 7 _ rfl rfl) 8 _ rfl rfl) 10 _ rfl rfl)
    have H := Lib.hid (show ∀ W', Ext W W' → K (fr (upd V 3 (wv n))) W' from fun W' he => hK _ _ ⟨upd V 3 (wv n), rfl, HV.up 3 _ (fun x hx => Option.some.inj hx), fun h0 => CrB.ext (s0 (by unfold More at h0; rwa [if_neg (by decide)] at h0)) he, fun h0 => CrA.ext (s1 (more_ne h0 rfl)) he, fun h0 h1 => Bs.ext (f0 (by unfold More at h0; rwa [if_neg (by decide)] at h0) (more_ne h1 rfl)) he, fun h0 h1 => Bs.ext (f2 (by unfold More at h0; rwa [if_neg (by decide)] at h0) (more_ne h1 rfl)) he, fun h0 h1 => Bs.ext (f4 (by unfold More at h0; rwa [if_neg (by decide)] at h0) (more_ne h1 rfl)) he, fun h0 h1 => Bss.ext4 (f6 (by unfold More at h0; rwa [if_neg (by decide)] at h0) (more_ne h1 rfl)) he, fun h0 h1 => Bs.ext (f7 (by unfold More at h0; rwa [if_neg (by decide)] at h0) (more_ne h1 rfl)) he, fun h0 h1 => NwI.ext (f9 (by unfold More at h0; rwa [if_neg (by decide)] at h0) (more_ne h1 rfl)) he⟩)
    clear hK hC hW hL HV s0 s1 f0 f2 f4 f6 f7 f9
    rw [HFR.out]
    have HW := Lib.hid hB.1
    clear hB
    refine wpList_load_wordG rfl 64 33 (.tmp 4) rfl Tryd.underlying64 winfo (g4) (n) rfl HW.out ?_
    show K _ _
    have := H.out _ (Ext.refl _)
    rw [HFR.out] at this
    exact this
  · rintro L A W K hL hC hW ⟨V, rfl, HV, s0, s1, f0, f2, f4, f6, f7, f9⟩ hK
    have e3 : V 3 = wv n := HV 3 _ rfl (hW 3 rfl)
    have hB := s0 (hC.no (hC.no (hC.no (hC.no hL 6 _ rfl rfl) 7 _ rfl rfl) 8 _ rfl rfl) 10 _ rfl rfl)
    have H := Lib.hid (show ∀ v W', Ext W W' → (Bs W' v x2) → K (fr (upd V 4 v)) W' from fun v W' he hp => hK _ _ ⟨upd V 4 v, rfl, HV.up 4 _ (fun x hx => absurd hx (by intro h; cases h)), fun h0 => CrB.ext (s0 (by unfold More at h0; rwa [if_neg (by decide)] at h0)) he, fun h0 => CrA.ext (s1 (more_ne h0 rfl)) he, fun h0 h1 => Bs.ext (f0 (by unfold More at h0; rwa [if_neg (by decide)] at h0) (more_ne h1 rfl)) he, fun h0 h1 => Bs.ext (f2 (by unfold More at h0; rwa [if_neg (by decide)] at h0) (more_ne h1 rfl)) he, fun h0 h1 => hp, fun h0 h1 => Bss.ext4 (f6 (by unfold More at h0; rwa [if_neg (by decide)] at h0) (more_ne h1 rfl)) he, fun h0 h1 => Bs.ext (f7 (by unfold More at h0; rwa [if_neg (by decide)] at h0) (more_ne h1 rfl)) he, fun h0 h1 => NwI.ext (f9 (by unfold More at h0; rwa [if_neg (by decide)] at h0) (more_ne h1 rfl)) he⟩)
    have HU := Lib.hid (show ∀ v, (upd V 4 v) 3 = wv n from fun v => e3)
    clear hK hC hW hL HV s0 s1 f0 f2 f4 f6 f7 f9
    rw [HFR.out]
    rw [e3]
    clear e3
    go_wp2_with fail
    refine (HBY.out _).mono ?_
    rintro e wx ⟨v, rfl, ho, he⟩
    have := H.out _ _ he (ho.bs)
    clear H
    go_wp2_with fail
    show K _ _
    rw [HFR.out] at this
    obtain u3 := HU.out _
    rw [u3] at this
    exact this
  · rintro L A W K hL hC hW ⟨V, rfl, HV, s0, s1, f0, f2, f4, f6, f7, f9⟩ hK
    have hB := s0 (hC.no (hC.no (hC.no (hC.no hL 6 _ rfl rfl) 7 _ rfl rfl) 8 _ rfl rfl) 10 _ rfl rfl)
    have H := Lib.hid (show ∀ W', Ext W W' → K (fr (upd V 5 (.slice (some ⟨g7, 0, none⟩) 32 32))) W' from fun W' he => hK _ _ ⟨upd V 5 (.slice (some ⟨g7, 0, none⟩) 32 32), rfl, HV.up 5 _ (fun x hx => Option.some.inj hx), fun h0 => CrB.ext (s0 (by unfold More at h0; rwa [if_neg (by decide)] at h0)) he, fun h0 => CrA.ext (s1 (more_ne h0 rfl)) he, fun h0 h1 => Bs.ext (f0 (by unfold More at h0; rwa [if_neg (by decide)] at h0) (more_ne h1 rfl)) he, fun h0 h1 => Bs.ext (f2 (by unfold More at h0; rwa [if_neg (by decide)] at h0) (more_ne h1 rfl)) he, fun h0 h1 => Bs.ext (f4 (by unfold More at h0; rwa [if_neg (by decide)] at h0) (more_ne h1 rfl)) he, fun h0 h1 => Bss.ext4 (f6 (by unfold More at h0; rwa [if_neg (by decide)] at h0) (more_ne h1 rfl)) he, fun h0 h1 => Bs.ext (f7 (by unfold More at h0; rwa [if_neg (by decide)] at h0) (more_ne h1 rfl)) he, fun h0 h1 => NwI.ext (f9 (by unfold More at h0; rwa [if_neg (by decide)] at h0) (more_ne h1 rfl)) he⟩)
    clear hK hC hW hL HV s0 s1 f0 f2 f4 f6 f7 f9
    rw [HFR.out]
    clear hB
    have hsl := id_slice0 g7 W
    go_wp2_with fail
    show K _ _
    have := H.out _ (Ext.refl _)
    rw [HFR.out] at this
    exact this
  · rintro L A W K hL hC hW ⟨V, rfl, HV, s0, s1, f0, f2, f4, f6, f7, f9⟩ hK
    have e5 : V 5 = .slice (some ⟨g7, 0, none⟩) 32 32 := HV 5 _ rfl (hW 5 rfl)
    have hB := s0 (hC.no (hC.no (hC.no hL 7 _ rfl rfl) 8 _ rfl rfl) 10 _ rfl rfl)
    have q0 := f0 (hC.no (hC.no (hC.no hL 7 _ rfl rfl) 8 _ rfl rfl) 10 _ rfl rfl) (hW 0 rfl)
    obtain ⟨A0, c0, e0, z0⟩ := Bs.shape q0
    have q2 := f2 (hC.no (hC.no (hC.no hL 7 _ rfl rfl) 8 _ rfl rfl) 10 _ rfl rfl) (hW 2 rfl)
    obtain ⟨A2, c2, e2, z2⟩ := Bs.shape q2
    have q4 := f4 (hC.no (hC.no (hC.no hL 7 _ rfl rfl) 8 _ rfl rfl) 10 _ rfl rfl) (hW 4 rfl)
    obtain ⟨A4, c4, e4, z4⟩ := Bs.shape q4
    have H := Lib.hid (show ∀ v W', Ext W W' → (Bss W' v [x0, x1, x2, x3]) → K (fr (upd V 6 v)) W' from fun v W' he hp => hK _ _ ⟨upd V 6 v, rfl, HV.up 6 _ (fun x hx => absurd hx (by intro h; cases h)), fun h0 => CrB.ext (s0 (by unfold More at h0; rwa [if_neg (by decide)] at h0)) he, fun h0 => CrA.ext (s1 (more_ne h0 rfl)) he, fun h0 h1 => Bs.ext (f0 (by unfold More at h0; rwa [if_neg (by decide)] at h0) (more_ne h1 rfl)) he, fun h0 h1 => Bs.ext (f2 (by unfold More at h0; rwa [if_neg (by decide)] at h0) (more_ne h1 rfl)) he, fun h0 h1 => Bs.ext (f4 (by unfold More at h0; rwa [if_neg (by decide)] at h0) (more_ne h1 rfl)) he, fun h0 h1 => hp, fun h0 h1 => Bs.ext (f7 (by unfold More at h0; rwa [if_neg (by decide)] at h0) (more_ne h1 rfl)) he, fun h0 h1 => NwI.ext (f9 (by unfold More at h0; rwa [if_neg (by decide)] at h0) (more_ne h1 rfl)) he⟩)
    have HU := Lib.hid (show ∀ v, (upd V 6 v) 0 = .slice A0 x0.length c0 ∧ (upd V 6 v) 2 = .slice A2 x1.length c2 ∧ (upd V 6 v) 4 = .slice A4 x2.length c4 ∧ (upd V 6 v) 5 = .slice (some ⟨g7, 0, none⟩) 32 32 from fun v => ⟨e0, e2, e4, e5⟩)
    clear hK hC hW hL HV s0 s1 f0 f2 f4 f6 f7 f9
    rw [HFR.out]
    rw [e0, e2, e4, e5]
    clear e0 e2 e4 e5
    go_wp2_with fail
    show K _ _
    have := H.out (.slice (some ⟨W.heap.size, 0, none⟩) 4 4) _ ((Ext.refl W).alloc (.cells #[.slice A0 x0.length c0, .slice A2 x1.length c2, .slice A4 x2.length c4, .slice (some ⟨g7, 0, none⟩) 32 32] 24)) (bss_four z0 z2 z4 (HID.out _ hB.2.1) _)
    rw [HFR.out] at this
    obtain ⟨u0, u2, u4, u5⟩ := HU.out _
    rw [u0, u2, u4, u5] at this
    exact this
  · rintro L A W K hL hC hW ⟨V, rfl, HV, s0, s1, f0, f2, f4, f6, f7, f9⟩ hK
    have hB := s0 (hC.no (hC.no hL 8 _ rfl rfl) 10 _ rfl rfl)
    have q6 := f6 (hC.no (hC.no hL 8 _ rfl rfl) 10 _ rfl rfl) (hW 6 rfl)
    have H := Lib.hid (show ∀ v W', Ext W W' → (Bs W' v xj) → K (fr (upd V 7 v)) W' from fun v W' he hp => hK _ _ ⟨upd V 7 v, rfl, HV.up 7 _ (fun x hx => absurd hx (by intro h; cases h)), fun h0 => CrB.ext (s0 (by unfold More at h0; rwa [if_neg (by decide)] at h0)) he, fun h0 => CrA.ext (s1 (more_ne h0 rfl)) he, fun h0 h1 => Bs.ext (f0 (by unfold More at h0; rwa [if_neg (by decide)] at h0) (more_ne h1 rfl)) he, fun h0 h1 => Bs.ext (f2 (by unfold More at h0; rwa [if_neg (by decide)] at h0) (more_ne h1 rfl)) he, fun h0 h1 => Bs.ext (f4 (by unfold More at h0; rwa [if_neg (by decide)] at h0) (more_ne h1 rfl)) he, fun h0 h1 => Bss.ext4 (f6 (by unfold More at h0; rwa [if_neg (by decide)] at h0) (more_ne h1 rfl)) he, fun h0 h1 => hp, fun h0 h1 => NwI.ext (f9 (by unfold More at h0; rwa [if_neg (by decide)] at h0) (more_ne h1 rfl)) he⟩)
    clear hK hC hW hL HV s0 s1 f0 f2 f4 f6 f7 f9
    rw [HFR.out]
    go_wp2_with fail
    refine (HJN.out _ _ q6).mono ?_
    rintro e wx ⟨v, rfl, ho, he⟩
    have := H.out _ _ he (ho.bs)
    clear H
    go_wp2_with fail
    show K _ _
    rw [HFR.out] at this
    exact this
  · rintro L A W K hL hC hW ⟨V, rfl, HV, s0, s1, f0, f2, f4, f6, f7, f9⟩ hK
    have hB := s0 (hC.no hL 10 _ rfl rfl)
    have q7 := f7 (hC.no hL 10 _ rfl rfl) (hW 7 rfl)
    have H := Lib.hid (show ∀ W', Ext W W' → K (fr (upd V 8 (idv q))) W' from fun W' he => hK _ _ ⟨upd V 8 (idv q), rfl, HV.up 8 _ (fun x hx => Option.some.inj hx), fun h0 => CrB.ext (s0 (by unfold More at h0; rwa [if_neg (by decide)] at h0)) he, fun h0 => CrA.ext (s1 (more_ne h0 rfl)) he, fun h0 h1 => Bs.ext (f0 (by unfold More at h0; rwa [if_neg (by decide)] at h0) (more_ne h1 rfl)) he, fun h0 h1 => Bs.ext (f2 (by unfold More at h0; rwa [if_neg (by decide)] at h0) (more_ne h1 rfl)) he, fun h0 h1 => Bs.ext (f4 (by unfold More at h0; rwa [if_neg (by decide)] at h0) (more_ne h1 rfl)) he, fun h0 h1 => Bss.ext4 (f6 (by unfold More at h0; rwa [if_neg (by decide)] at h0) (more_ne h1 rfl)) he, fun h0 h1 => Bs.ext (f7 (by unfold More at h0; rwa [if_neg (by decide)] at h0) (more_ne h1 rfl)) he, fun h0 h1 => NwI.ext (f9 (by unfold More at h0; rwa [if_neg (by decide)] at h0) (more_ne h1 rfl)) he⟩)
    clear hK hC hW hL HV s0 s1 f0 f2 f4 f6 f7 f9
    rw [HFR.out]
    go_wp2_with fail
    refine (HSM.out _ _ q7 hB.tb).mono ?_
    rintro e wx ⟨rfl, he⟩
    have := H.out _ he
    clear H
    go_wp2_with fail
    show K _ _
    rw [HFR.out] at this
    exact this
  · rintro L A W K hL hC hW ⟨V, rfl, HV, s0, s1, f0, f2, f4, f6, f7, f9⟩ hK
    have hB := s0 (hC.no hL 10 _ rfl rfl)
    have H := Lib.hid (show ∀ v W', Ext W W' → (NwI w W' v) → K (fr (upd V 9 v)) W' from fun v W' he hp => hK _ _ ⟨upd V 9 v, rfl, HV.up 9 _ (fun x hx => absurd hx (by intro h; cases h)), fun h0 => CrB.ext (s0 (by unfold More at h0; rwa [if_neg (by decide)] at h0)) he, fun h0 => absurd (more_ne h0 rfl) (by rw [(hC.no hL 10 _ rfl rfl)]; simp), fun h0 h1 => Bs.ext (f0 (by unfold More at h0; rwa [if_neg (by decide)] at h0) (more_ne h1 rfl)) he, fun h0 h1 => Bs.ext (f2 (by unfold More at h0; rwa [if_neg (by decide)] at h0) (more_ne h1 rfl)) he, fun h0 h1 => Bs.ext (f4 (by unfold More at h0; rwa [if_neg (by decide)] at h0) (more_ne h1 rfl)) he, fun h0 h1 => Bss.ext4 (f6 (by unfold More at h0; rwa [if_neg (by decide)] at h0) (more_ne h1 rfl)) he, fun h0 h1 => Bs.ext (f7 (by unfold More at h0; rwa [if_neg (by decide)] at h0) (more_ne h1 rfl)) he, fun h0 h1 => hp⟩)
    clear hK hC hW hL HV s0 s1 f0 f2 f4 f6 f7 f9
    rw [HFR.out]
    go_wp2_with fail
    show K _ _
    have := H.out (.pointer (some ⟨W.heap.size, 0, none⟩)) _ ((Ext.refl W).alloc (.cells #[Value.int .u8 0, Value.int .u8 0, Value.int .u8 0, Value.int .u8 0, Value.int .u8 0, Value.int .u8 0, Value.int .u8 0, Value.int .u8 0, Value.int .u8 0, Value.int .u8 0, Value.int .u8 0, Value.int .u8 0, Value.int .u8 0, Value.int .u8 0, Value.int .u8 0, Value.int .u8 0, Value.int .u8 0, Value.int .u8 0, Value.int .u8 0, Value.int .u8 0, Value.int .u8 0, Value.int .u8 0, Value.int .u8 0, Value.int .u8 0, Value.int .u8 0, Value.int .u8 0, Value.int .u8 0, Value.int .u8 0, Value.int .u8 0, Value.int .u8 0, Value.int .u8 0, Value.int .u8 0] 27)) (NwI.new hB.2.2.2.size)
    rw [HFR.out] at this
    exact this
  · rintro L A W K hL hC hW ⟨V, rfl, HV, s0, s1, f0, f2, f4, f6, f7, f9⟩ hK
    have e8 : V 8 = idv q := HV 8 _ rfl (hW 8 rfl)
    have hB := s0 hL
    have q9 := f9 hL (hW 9 rfl)
    obtain ⟨g9, e9, b9, z9⟩ := q9
    have H := Lib.hid (show ∀ W', (CrA w q W' (V 9)) → K (fr (V)) W' from fun W' hA => hK _ _ ⟨V, rfl, HV.st 10 rfl, fun h0 => absurd h0 (by unfold More; rw [if_pos rfl]; simp), fun h0 => hA, fun h0 h1 => absurd h0 (by unfold More; rw [if_pos rfl]; simp), fun h0 h1 => absurd h0 (by unfold More; rw [if_pos rfl]; simp), fun h0 h1 => absurd h0 (by unfold More; rw [if_pos rfl]; simp), fun h0 h1 => absurd h0 (by unfold More; rw [if_pos rfl]; simp), fun h0 h1 => absurd h0 (by unfold More; rw [if_pos rfl]; simp), fun h0 h1 => absurd h0 (by unfold More; rw [if_pos rfl]; simp)⟩)
    have HU := Lib.hid (show (V) 9 = .pointer (some ⟨g9, 0, none⟩) ∧ (V) 8 = idv q from ⟨e9, e8⟩)
    clear hK hC hW hL HV s0 s1 f0 f2 f4 f6 f7 f9
    rw [HFR.out]
    rw [e9, e8]
    clear e9 e8
    have HB := Lib.hid hB
    clear hB
    refine wpList_store_id rfl rfl (.tmp 8) (.tmp 21) rfl g9 (ic fun _ => 0) q rfl rfl z9 (ic_size _) ?_
    intro W' hw hgr
    have HA := Lib.hid (show CrA w q W' (V 9) from by rw [HU.out.1]; exact ⟨g9, rfl, hw, HB.out.2.2.2.grown hgr b9⟩)
    show K _ _
    have := H.out _ HA.out
    rw [HFR.out] at this
    obtain ⟨u9, u8⟩ := HU.out
    rw [u9, u8] at this
    exact this
  · rintro L A W hL ⟨V, rfl, HV, s0, s1, f0, f2, f4, f6, f7, f9⟩
    have e1 : V 1 = .int .u64 (a : Nat) := HV 1 _ rfl (hL 1 (by simp))
    have e3 : V 3 = wv n := HV 3 _ rfl (hL 3 (by simp))
    have e5 : V 5 = .slice (some ⟨g7, 0, none⟩) 32 32 := HV 5 _ rfl (hL 5 (by simp))
    have e8 : V 8 = idv q := HV 8 _ rfl (hL 8 (by simp))
    have hA := s1 (hL 10 (by simp))
    rw [HFR.out]
    rw [e1, e3, e5, e8]
    clear hL HV HFR e1 e3 e5 e8 s0 s1 f0 f2 f4 f6 f7 f9
    clear HJN HSM HX0 HBX HBY HID HB0
    obtain ⟨g8, e8, hib, he8⟩ := hA
    rw [e8]
    have HI := Lib.hid hib
    have HE8 := Lib.hid he8
    clear hib he8 e8
    have hsl := id_slice0 g8 W
    go_wp2_with fail
    refine (adrRead_any _ (idL q) _ (idb_bs HI.out HBC.out)).mono ?_
    rintro e w9 ⟨rfl, rfl⟩
    rw [HRD.out]
    rw [← HCN.out]
    go_wp2_with fail
    go_ret
    exact ⟨rfl, HE8.out⟩

set_option maxRecDepth 100000 in
set_option maxHeartbeats 1000000 in
theorem refAdrCreated_any (a n : Nat) (v : Value) (b : List UInt8) (w : World) (hb : Bs w v b) (hl : b.length ≤ 1000000000) : Calls Tryd.prog 40 #[.int .u64 (a : Int), wv n, v] w fun e w' => e = .returned (.int .u64 (crN a n b : Nat)) ∧ Ext w w' := by
  have HB := Lib.hid hb
  have HK : Hid (Wd (w.alloc (.cells (wc n) 64)) w.heap.size 64 n) := Lib.hid (Cs.new _ _ _ _ rfl)
  have HE : Hid (Ext w (w.alloc (.cells (wc n) 64))) := (Ext.refl w).alloc _
  have HBB := Lib.hid (fun i (_ : i < 32) => sum_byte b i)
  have HBC := Lib.hid (fun i (_ : i < 32) => sum_byte (crJ a n b) i)
  have HJ := Lib.hid (show (([255] ++ hi8 a) ++ bytL n (List.range 32)) ++ idL (sumF b) = crJ a n b by simp [crJ])
  have HJL := Lib.hid (crJ_len a n b)
  have HCN := Lib.hid (show num (last8 ((idL (sumF (crJ a n b))).take 8)) = crN a n b from rfl)
  have HL1 := Lib.hid (hi8_len a)
  have HL2 := Lib.hid (show (bytL n (List.range 32)).length = 32 by rw [bytL_len]; simp)
  have HL3 := Lib.hid (idL_len (sumF b))
  clear hb
  unfold wv
  go_enter Tryd.func40, Tryd.ntmps40
  go_wp2_with fail
  refine (refSum3_any v b _ (HB.out.ext HE.out) hl).mono ?_
  rintro e w1 ⟨rfl, he⟩
  have HK := Lib.hid (HK.out.ext he)
  have HE := Lib.hid (HE.out.trans he)
  clear he
  generalize sumF b = p at *
  go_wp2_with ((with_reducible refine wpList_store_id ?_ ?_ (.tmp 7) (.tmp 11) ?_ w1.heap.size (ic fun _ => 0) p ?_ ?_ ?_ ?_ ?_); (exact rfl); (exact rfl); (exact rfl); (exact rfl); (exact rfl); (exact Cs.new _ _ _ _ rfl); (exact ic_size _); intro w2 k2 g2; have HK2 := Lib.hid ((HK.out.ext ((Ext.refl w1).alloc _)).kept g2 (some_ne (by have := HK.out.lt; omega))); have HI2 := Lib.hid k2; have HE2 := Lib.hid ((HE.out.alloc _).grown g2 HE.out.size); clear k2 g2)
  have HO3 : Hid (Own (w2.alloc (.cells #[.int .u8 255] 5)) w2.heap.size 5 (.slice (some ⟨w2.heap.size, 0, none⟩) 1 1) [255]) := Lib.hid (Row.own (l := [255]) (heap_alloc_new _ _) (Nat.le_refl _) (by simp [maxLen]))
  have HR3 := Lib.hid ((Ext.refl w2).alloc (.cells #[.int .u8 255] 5))
  refine (refAdrBytes_any a _).mono ?_
  rintro e w4 ⟨v4, rfl, ho, he⟩
  have HO4 := Lib.hid (HO3.out.ext he)
  have HB4 := Lib.hid ho.bs
  have HR4 := Lib.hid (HR3.out.trans he)
  clear ho he HO3 HR3
  go_wp2_with (first
    | (at_builtin; (refine wpList_append_bytes rfl (.tmp 12) (.tmp 14) _ rfl w2.heap.size 5 Tryd.underlying24 u8info _ [255] rfl HO4.out v4 (hi8 a) rfl HB4.out (by rw [HL1.out]; simp) HR4.out.size ?_); intro v5 w5 ho hg _; have HO5 := Lib.hid ho; have HR5 := Lib.hid (HR4.out.append HO4.out hg); clear ho hg)
    | ((with_reducible refine wpList_load_word rfl 64 33 (.tmp 4) rfl Tryd.underlying64 winfo w.heap.size n ?_ ?_ ?_); (exact rfl); (exact HK2.out.ext HR5.out)))
  refine (refBytes_any n _).mono ?_
  rintro e w6 ⟨v6, rfl, ho, he⟩
  have HO6 := Lib.hid (HO5.out.ext he)
  have HB6 := Lib.hid ho.bs
  have HR6 := Lib.hid (HR5.out.trans he)
  clear ho he HO5 HR5 HO4 HR4
  have hsl := id_slice0 w1.heap.size
  go_wp2_with (first
    | (at_builtin; (refine wpList_append_bytes rfl (.tmp 16) (.tmp 18) _ rfl w2.heap.size 5 Tryd.underlying24 u8info v5 ([255] ++ hi8 a) rfl HO6.out v6 (bytL n (List.range 32)) rfl HB6.out (by rw [List.length_append, HL1.out, HL2.out]; simp) HR6.out.size ?_); intro v7 w7 ho hg _; have HO7 := Lib.hid ho; have HR7 := Lib.hid (HR6.out.append HO6.out hg); clear ho hg)
    | (at_builtin; (refine wpList_append_bytes rfl (.tmp 20) (.tmp 21) _ rfl w2.heap.size 5 Tryd.underlying24 u8info v7 (([255] ++ hi8 a) ++ bytL n (List.range 32)) rfl HO7.out _ (idL p) rfl (idb_bs (Cs.ext HI2.out HR7.out) HBB.out) (by rw [List.length_append, List.length_append, HL1.out, HL2.out, HL3.out]; simp) HR7.out.size ?_); intro v8 w8 ho hg _; rw [HJ.out] at ho; have HO8 := Lib.hid ho.bs; have HR8 := Lib.hid (HR7.out.append HO7.out hg); clear ho hg))
  have HE8 := Lib.hid (HE2.out.trans HR8.out)
  clear hsl HO7 HR7 HO6 HR6 HB6 HB4 HK2 HI2 HE2
  refine (refSum3_any v8 (crJ a n b) _ HO8.out (by rw [HJL.out]; decide)).mono ?_
  rintro e w9 ⟨rfl, he⟩
  have HE9 := Lib.hid (HE8.out.trans he)
  clear he HE8
  have HRL := Lib.hid (show 8 ≤ (idL (sumF (crJ a n b))).length by rw [idL_len]; decide)
  generalize sumF (crJ a n b) = q at *
  have hsl := id_slice0 w9.heap.size
  go_wp2_with ((with_reducible refine wpList_store_id ?_ ?_ (.tmp 9) (.tmp 24) ?_ w9.heap.size (ic fun _ => 0) q ?_ ?_ ?_ ?_ ?_); (exact rfl); (exact rfl); (exact rfl); (exact rfl); (exact rfl); (exact Cs.new _ _ _ _ rfl); (exact ic_size _); intro w10 k2 g2; have HI10 := Lib.hid k2; have HE10 := Lib.hid ((HE9.out.alloc _).grown g2 HE9.out.size); clear k2 g2)
  refine (refAdrRead_any _ (idL q) _ (idb_bs HI10.out HBC.out) HRL.out).mono ?_
  rintro e w11 ⟨rfl, he⟩
  rw [HCN.out]
  have HE11 := Lib.hid (HE10.out.trans he)
  clear he hsl
  go_wp2_with fail
  go_ret
  exact ⟨rfl, HE11.out⟩
end Go.Proofs.YthjmjccggkejhaaDoor
