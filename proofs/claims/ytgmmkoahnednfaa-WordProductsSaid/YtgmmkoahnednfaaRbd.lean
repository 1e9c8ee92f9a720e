/- The document's own answers of layer 2: Shl, Shr. -/
import Derived.Test.YtgmmkoahnednfaaRbc
import Derived.Test.YtgmmkoahnednfaaInw
import Derived.Laws.OwnMore
namespace Go.Proofs.Ytgmmkoahnednfaa
open Go.RowKit

set_option maxRecDepth 100000 in
theorem bitsL_own (a : Nat) (w : World) (ha : a < M256) : Calls Try.prog 56 #[wv a, .int .i64 256] w (RetI w (bitsL a 256)) := bits_any a 256 w ha (by omega)

set_option maxRecDepth 100000 in
/-- make([]int, n). -/
theorem run_make_ints (n : Nat) (w : World) (hn : n ≤ 1000) : (Instr.makeSlice 84 (.int .i64 (n : Int)) (.int .i64 (n : Int))).run Try.prog w = .ok (.slice (some ⟨w.heap.size, 0, none⟩) n n) (w.alloc (.cells (Array.replicate n (iv 0)) 3)) := by
  obtain ⟨i0, hi, hz0, hz1, hz2⟩ := info_parts iinfo
  have hr := run_make (P := Try.prog) w 84 3 i0 (.int .i64 0) Try.underlying84 hi hz0 .i64 .i64 n n (by omega) (by omega) (by rw [hz2]; omega) (by omega)
  rw [hr]
  simp only [Int.toNat_natCast]
  congr 3
  rw [hz1]
  apply Array.toList_inj.1
  have hm := toList_madeCells_one (.int .i64 0) (n * 1)
  have e : Value.cells (.int .i64 0) = #[.int .i64 0] := rfl
  rw [e, hm]
  simp [iv]

/-- What the way to Shl keeps. -/
def ShI (w : World) (a n R : Nat) (V : Nat → Value) (L : Nat → Bool) (W : World) : Prop :=
  Wd W w.heap.size 27 a ∧ Ext w W ∧ w.heap.size + 2 ≤ W.heap.size ∧ (∃ cs, Cs W (w.heap.size + 1) 27 cs ∧ cs.size = 4 ∧ (L 6 = true → cs = wc R)) ∧
    (L 0 = true → V 0 = .int .i64 (n : Int)) ∧ (L 1 = true → L 4 = false → OwnI W (w.heap.size + 2) 3 (V 1) (List.replicate n 0)) ∧ (L 2 = true → V 2 = wv a) ∧
    (L 3 = true → L 4 = false → Rs W 1 (V 3) 256 ((bitsL a 256).map iv)) ∧ (L 4 = true → L 5 = false → OwnI W (w.heap.size + 2) 3 (V 4) (List.replicate n 0 ++ bitsL a 256)) ∧ (L 5 = true → V 5 = wv R)
set_option maxRecDepth 100000 in
theorem more_no {L : Nat → Bool} {i j : Nat} (h : More L i j = false) (hne : (j == i) = false) : L j = false := by
  unfold More at h
  rwa [if_neg (by simpa using hne)] at h
set_option maxRecDepth 100000 in
theorem ShI.ext {w : World} {a n R : Nat} {V : Nat → Value} {L : Nat → Bool} {W W' : World} (h : ShI w a n R V L W) (he : Ext W W') : ShI w a n R V L W' := by
  obtain ⟨h1, h2, h3, ⟨cs, h4, h5, h6⟩, h7, h8, h9, h10, h11, h12⟩ := h
  exact ⟨h1.ext he, h2.trans he, Nat.le_trans h3 he.size, ⟨cs, h4.ext he, h5, h6⟩, h7, fun x y => own_ext (h8 x y) he, h9, fun x y => (h10 x y).ext he, fun x y => own_ext (h11 x y) he, h12⟩
set_option maxRecDepth 100000 in
/-- A value is put in its place, and is what it must be. -/
theorem ShI.up {w : World} {a n R : Nat} {V : Nat → Value} {L : Nat → Bool} {W : World} (h : ShI w a n R V L W) (i : Nat) (x : Value) (hi6 : i ≠ 6) (hL : i = 4 → L 5 = false → OwnI W (w.heap.size + 2) 3 x (List.replicate n 0 ++ bitsL a 256))
    (h0 : i = 0 → x = .int .i64 (n : Int)) (h1 : i = 1 → L 4 = false → OwnI W (w.heap.size + 2) 3 x (List.replicate n 0)) (h2 : i = 2 → x = wv a) (h3 : i = 3 → L 4 = false → Rs W 1 x 256 ((bitsL a 256).map iv)) (h5 : i = 5 → x = wv R) :
    ShI w a n R (upd V i x) (More L i) W := by
  obtain ⟨k1, k2, k3, ⟨cs, k4, k5, k6⟩, k7, k8, k9, k10, k11, k12⟩ := h
  have U : ∀ j, upd V i x j = if j = i then x else V j := fun j => rfl
  have M : ∀ j, More L i j = if j = i then true else L j := fun j => rfl
  refine ⟨k1, k2, k3, ⟨cs, k4, k5, fun e => k6 (by rw [M, if_neg (Ne.symm hi6)] at e; exact e)⟩, ?_, ?_, ?_, ?_, ?_, ?_⟩
  all_goals
    rw [U]
    simp only [M]
  · by_cases e : 0 = i
    · rw [if_pos e, if_pos e]; exact fun _ => h0 e.symm
    · rw [if_neg e, if_neg e]; exact k7
  · by_cases e : 1 = i
    · rw [if_pos e]; subst e; exact fun _ y => h1 rfl (by simpa using y)
    · rw [if_neg e, if_neg e]
      intro y z
      refine k8 y ?_
      by_cases e4 : 4 = i
      · rw [if_pos e4] at z; cases z
      · rwa [if_neg e4] at z
  · by_cases e : 2 = i
    · rw [if_pos e, if_pos e]; exact fun _ => h2 e.symm
    · rw [if_neg e, if_neg e]; exact k9
  · by_cases e : 3 = i
    · rw [if_pos e]; subst e; exact fun _ y => h3 rfl (by simpa using y)
    · rw [if_neg e, if_neg e]
      intro y z
      refine k10 y ?_
      by_cases e4 : 4 = i
      · rw [if_pos e4] at z; cases z
      · rwa [if_neg e4] at z
  · by_cases e : 4 = i
    · rw [if_pos e]; subst e; exact fun _ y => hL rfl (by simpa using y)
    · rw [if_neg e, if_neg e]
      intro y z
      refine k11 y ?_
      by_cases e5 : 5 = i
      · rw [if_pos e5] at z; cases z
      · rwa [if_neg e5] at z
  · by_cases e : 5 = i
    · rw [if_pos e, if_pos e]; exact fun _ => h5 e.symm
    · rw [if_neg e, if_neg e]; exact k12

set_option maxRecDepth 100000 in
set_option maxHeartbeats 2000000 in
theorem refShl_any (a n : Nat) (w : World) (ha : a < M256) (hn : n ≤ 256) :
    Calls Try.prog 69 #[wv a, .int .i64 n] w fun e w' => e = .returned (wv (ofN (List.replicate n 0 ++ bitsL a 256))) ∧ Ext w w' := by
  have HA := Lib.hid ha
  clear ha
  unfold wv
  go_enter Try.func69, Try.ntmps69
  go_wp2_with fail
  have H0 : ShI w a n (ofN (List.replicate n 0 ++ bitsL a 256)) (fun _ => undef) (fun j => decide (7 ≤ j)) ((w.alloc (.cells (wc a) 27)).alloc (.cells #[.int .u64 0, .int .u64 0, .int .u64 0, .int .u64 0] 27)) :=
    ⟨(Cs.new _ _ _ _ rfl).alloc _, ((Ext.refl w).alloc _).alloc _, by simp, ⟨_, Cs.new _ _ _ _ (by simp), rfl, fun h => absurd h (by decide)⟩, fun h => absurd h (by decide), fun h => absurd h (by decide), fun h => absurd h (by decide), fun h => absurd h (by decide), fun h => absurd h (by decide), fun h => absurd h (by decide)⟩
  have HI := Lib.hid H0
  clear H0
  generalize hR : ofN (List.replicate n 0 ++ bitsL a 256) = R at *
  have HR := Lib.hid hR
  clear hR
  refine wp_named fun a0 ha0 => ?_
  obtain ⟨fr, hfr⟩ : ∃ fr : (Nat → Value) → Act, ∀ V, fr V = (((((a0.put (some 5) (V 0)).put (some 6) (V 1)).put (some 7) (V 2)).put (some 8) (V 3)).put (some 9) (V 4)).put (some 10) (V 5) := ⟨_, fun _ => rfl⟩
  rw [ha0] at hfr
  simp only [Act.put, List.setIfInBounds_toArray, List.set_cons_zero, List.set_cons_succ] at hfr
  have HFR := Lib.hid hfr
  clear hfr
  refine wp_region_inv (by kernel_rfl) (by kernel_rfl) (fun L A W => ∃ V, A = fr V ∧ ShI w a n R V L W) ?_ ⟨?_, ?_, ?_, ?_, ?_, ?_, ?_, trivial⟩ ?_
  · refine ⟨fun _ => undef, ?_, HI.out.ext (Ext.refl _).drew⟩
    rw [HFR.out, ha0]
  all_goals clear ha0
  · rintro L A W K hL hC hW ⟨V, rfl, hI⟩ hK
    have H := Lib.hid (hK _ W ⟨_, rfl, hI.up 0 (.int .i64 (n : Int)) (by decide) (fun e => by cases e) (fun _ => rfl) (fun e => by cases e) (fun e => by cases e) (fun e => by cases e) (fun e => by cases e)⟩)
    clear hK hC hW hL hI
    rw [HFR.out]
    go_wp2_with fail
    show K _ _
    have := H.out
    rw [HFR.out] at this
    exact this
  · rintro L A W K hL hC hW ⟨V, rfl, hI⟩ hK
    have e0 : V 0 = .int .i64 (n : Int) := hI.2.2.2.2.1 (hW 0 rfl)
    have hmk := fun u => run_make_ints n u (by omega)
    have H := Lib.hid (hK _ _ ⟨_, rfl, (hI.ext ((Ext.refl W).alloc (.cells (Array.replicate n (iv 0)) 3))).up 1 (.slice (some ⟨W.heap.size, 0, none⟩) n n) (by decide) (fun e => by cases e) (fun e => by cases e)
      (fun _ _ => by
        have := World.ownsRow_lit (base := w.heap.size + 2) (size := 1) (e := 3) W (Array.replicate n (iv 0)) n hI.2.2.1 (by unfold maxLen; omega) (by simp)
        unfold OwnI
        simpa using this) (fun e => by cases e) (fun e => by cases e) (fun e => by cases e)⟩)
    clear hK hC hW hL hI
    rw [HFR.out]
    rw [e0]
    go_wp2_with fail
    show K _ _
    have := H.out
    rw [HFR.out] at this
    have e0' : upd V 1 (.slice (some ⟨W.heap.size, 0, none⟩) n n) 0 = .int .i64 (n : Int) := e0
    rw [e0'] at this
    exact this
  · rintro L A W K hL hC hW ⟨V, rfl, hI⟩ hK
    have k1 := hI.1
    have H := Lib.hid (hK _ W ⟨_, rfl, hI.up 2 (wv a) (by decide) (fun e => by cases e) (fun e => by cases e) (fun e => by cases e) (fun _ => rfl) (fun e => by cases e) (fun e => by cases e)⟩)
    clear hK hC hW hL hI
    rw [HFR.out]
    refine wpList_load_wordG rfl 27 25 (.tmp 2) rfl Try.underlying27 winfo w.heap.size a rfl k1 ?_
    show K _ _
    have := H.out
    rw [HFR.out] at this
    exact this
  · rintro L A W K hL hC hW ⟨V, rfl, hI⟩ hK
    have e2 : V 2 = wv a := hI.2.2.2.2.2.2.1 (hW 2 rfl)
    have H := Lib.hid (fun (v : Value) (W' : World) (he : Ext W W') (ho : OwnI W' W.heap.size 3 v (bitsL a 256)) => hK _ W' ⟨_, rfl, (hI.ext he).up 3 v (by decide) (fun e => by cases e) (fun e => by cases e) (fun e => by cases e) (fun e => by cases e) (fun _ _ => by have := ho.rs; rwa [bitsL_len] at this) (fun e => by cases e)⟩)
    clear hK hC hW hL hI
    rw [HFR.out]
    rw [e2]
    go_wp2_with fail
    refine (bitsL_own a _ HA.out).mono ?_
    rintro e wx ⟨vx, rfl, ho, he⟩
    have := H.out vx wx he ho
    clear H ho he
    go_wp2_with fail
    show K _ _
    rw [HFR.out] at this
    have e2' : upd V 3 vx 2 = wv a := e2
    rw [e2'] at this
    exact this
  · rintro L A W K hL hC hW ⟨V, rfl, hI⟩ hK
    have ho := hI.2.2.2.2.2.1 (hW 1 rfl) hL
    have hr := hI.2.2.2.2.2.2.2.1 (hW 3 rfl) hL
    have h5 : L 5 = false := hC.no hL 5 _ rfl rfl
    have h6 : L 6 = false := hC.no h5 6 _ rfl rfl
    rw [HFR.out]
    refine wpList_append_row rfl (.tmp 6) (.tmp 8) 84 rfl (w.heap.size + 2) 3 Try.underlying84 (.int .i64 0) 1 8 iinfo rfl (by decide) (V 1) _ _ rfl ho (V 3) 256 _ rfl hr (iv_one _) (by simp; omega) (by decide) hI.2.2.1 ?_
    intro v' W' ho' hg _
    show K _ _
    have hN : ShI w a n R (upd V 4 v') (More L 4) W' :=
      ⟨own_block ho hg (by omega) hI.1, Below.grown hI.2.1 hg hI.2.1.size (fun j hj => by have := (World.ownsRow.lt ho j hj).1; omega), Nat.le_trans hI.2.2.1 hg.size, hI.2.2.2.1.elim fun cs h => ⟨cs, own_block ho hg (by omega) h.1, h.2.1, fun e => h.2.2 (more_ne e rfl)⟩,
        fun e => hI.2.2.2.2.1 (more_ne e rfl), fun _ e => (by cases (show true = false from e)), fun e => hI.2.2.2.2.2.2.1 (more_ne e rfl), fun _ e => (by cases (show true = false from e)),
        fun _ _ => (show OwnI W' _ _ v' _ by unfold OwnI; rw [List.length_append, bitsL_len, List.map_append]; exact ho'), fun e => hI.2.2.2.2.2.2.2.2.2 (more_ne e rfl)⟩
    have := hK _ W' ⟨_, rfl, hN⟩
    rw [HFR.out] at this
    exact this
  · rintro L A W K hL hC hW ⟨V, rfl, hI⟩ hK
    have ho := hI.2.2.2.2.2.2.2.2.1 (hW 4 rfl) hL
    have H := Lib.hid (fun (W' : World) (he : Ext W W') => hK _ W' ⟨_, rfl, (hI.ext he).up 5 (wv R) (by decide) (fun e => by cases e) (fun e => by cases e) (fun e => by cases e) (fun e => by cases e) (fun e => by cases e) (fun _ => rfl)⟩)
    have HO := Lib.hid ho
    clear hK hC hW hL hI ho
    rw [HFR.out]
    go_wp2_with fail
    refine (of_bits (V 4) _ _ (OwnI.rs HO.out) (by simp [bitsL_len]; omega)).mono ?_
    rintro e wx ⟨rfl, he⟩
    rw [HR.out]
    have := H.out wx he
    clear H he HO
    go_wp2_with fail
    show K _ _
    rw [HFR.out] at this
    exact this
  · rintro L A W K hL hC hW ⟨V, rfl, hI⟩ hK
    have e5 : V 5 = wv R := hI.2.2.2.2.2.2.2.2.2 (hW 5 rfl)
    have h4 : L 4 = true := hW 4 rfl
    have h5 : L 5 = true := hW 5 rfl
    obtain ⟨cs, k1, k2, _⟩ := hI.2.2.2.1
    rw [HFR.out]
    refine wpList_store_word rfl rfl 27 (.tmp 4) (.tmp 10) rfl winfo (w.heap.size + 1) cs R rfl e5 k1 k2 ?_
    intro W' hw hg
    show K _ _
    have hN : ShI w a n R V (More L 6) W' :=
      ⟨hI.1.kept hg (some_ne (by omega)), hI.2.1.grown hg (by omega), Nat.le_trans hI.2.2.1 hg.size, ⟨wc R, hw, rfl, fun _ => rfl⟩,
        fun e => hI.2.2.2.2.1 (more_ne e rfl), fun _ e => (by rw [more_no e rfl] at h4; cases h4), fun e => hI.2.2.2.2.2.2.1 (more_ne e rfl), fun _ e => (by rw [more_no e rfl] at h4; cases h4),
        fun _ e => (by rw [more_no e rfl] at h5; cases h5), fun e => hI.2.2.2.2.2.2.2.2.2 (more_ne e rfl)⟩
    have := hK _ W' ⟨_, rfl, hN⟩
    rw [HFR.out] at this
    exact this
  · rintro L A W hL ⟨V, rfl, hI⟩
    obtain ⟨cs, k1, _, k3⟩ := hI.2.2.2.1
    rw [k3 (hL 6 (by simp))] at k1
    have HW := Lib.hid k1
    have HE := Lib.hid hI.2.1
    clear k1 k3 hL hI
    rw [HFR.out]
    go_wp2_with fail
    exact bodyPost_ret (results_word Try.results69 _ _ (w.heap.size + 1) _ rfl HW.out Try.underlying27 winfo) rfl ⟨by rw [HR.out]; rfl, HE.out⟩

set_option maxRecDepth 100000 in
theorem and_ref (a b : Nat) (hb : b < M256) : ofN (mapL (fun j => bitN a j * bitN b j) 256) = andN a b := by
  refine word_bits (ofN_lt _) (andN_lt a b hb) fun j hj => ?_
  rw [ofN_mapL _ j hj, bitN_tb, bitN_tb]
  unfold andN
  rw [Nat.testBit_and]
  cases a.testBit j <;> cases b.testBit j <;> rfl
set_option maxRecDepth 100000 in
theorem or_ref (a b : Nat) (ha : a < M256) (hb : b < M256) : ofN (mapL (fun j => max (bitN a j) (bitN b j)) 256) = orN a b := by
  refine word_bits (ofN_lt _) (orN_lt a b ha hb) fun j hj => ?_
  rw [ofN_mapL _ j hj, bitN_tb, bitN_tb]
  unfold orN
  rw [Nat.testBit_or]
  cases a.testBit j <;> cases b.testBit j <;> rfl
set_option maxRecDepth 100000 in
theorem xor_ref (a b : Nat) (ha : a < M256) (hb : b < M256) : ofN (mapL (fun j => xorB (bitN a j) (bitN b j)) 256) = xorN a b := by
  refine word_bits (ofN_lt _) (xorN_lt a b ha hb) fun j hj => ?_
  rw [ofN_mapL _ j hj, bitN_tb, bitN_tb]
  unfold xorN
  rw [Nat.testBit_xor]
  cases a.testBit j <;> cases b.testBit j <;> rfl
set_option maxRecDepth 100000 in
theorem not_ref (a : Nat) (ha : a < M256) : ofN (mapL (fun j => 1 - bitN a j) 256) = notN a := by
  refine word_bits (ofN_lt _) (notN_lt a) fun j hj => ?_
  rw [ofN_mapL _ j hj, bitN_tb]
  unfold notN
  rw [show M256 - 1 - a = 2 ^ 256 - (a + 1) by rw [← M256_pow]; omega, Nat.testBit_two_pow_sub_succ (by rw [← M256_pow]; exact ha)]
  cases a.testBit j <;> simp [hj]
set_option maxRecDepth 100000 in
theorem shl_ref (a n : Nat) : ofN (List.replicate (min n 256) 0 ++ bitsL a 256) = shlN a n := by
  refine word_bits (ofN_lt _) (shlN_lt a n) fun j hj => ?_
  rw [ofN_tb]
  have e : (List.replicate (min n 256) 0 ++ bitsL a 256).getD j 0 = if j < min n 256 then 0 else bitN a (j - min n 256) := by
    rw [List.getD_eq_getElem?_getD, List.getElem?_append]
    by_cases h : j < min n 256
    · rw [if_pos (by rw [List.length_replicate]; exact h), if_pos h, List.getElem?_replicate, if_pos h]
      rfl
    · rw [if_neg (by rw [List.length_replicate]; exact h), if_neg h, List.length_replicate]
      have := bitsL_get a 256 (j - min n 256)
      rw [if_pos (by omega)] at this
      rw [← this, List.getD_eq_getElem?_getD]
  rw [e]
  unfold shlN
  by_cases hn : n < 256
  · rw [if_pos hn, M256_pow, Nat.testBit_mod_two_pow, Nat.testBit_mul_two_pow, show min n 256 = n by omega]
    by_cases h : j < n
    · rw [if_pos h]
      simp [hj]; omega
    · rw [if_neg h, bitN_tb]
      have : n ≤ j := by omega
      cases a.testBit (j - n) <;> simp [hj, this]
  · rw [if_neg hn, if_pos (by omega), Nat.zero_testBit]
    simp
set_option maxRecDepth 100000 in
theorem shr_ref (a n : Nat) (ha : a < M256) : ofN ((bitsL a 256).drop (min n 256)) = shrN a n := by
  refine word_bits (ofN_lt _) (shrN_lt a n ha) fun j hj => ?_
  rw [ofN_tb]
  have e : ((bitsL a 256).drop (min n 256)).getD j 0 = if min n 256 + j < 256 then bitN a (min n 256 + j) else 0 := by
    rw [List.getD_eq_getElem?_getD, List.getElem?_drop, ← List.getD_eq_getElem?_getD, bitsL_get]
  rw [e]
  unfold shrN
  by_cases hn : n < 256
  · rw [if_pos hn, Nat.testBit_div_two_pow, show min n 256 = n by omega]
    by_cases h : n + j < 256
    · rw [if_pos h, bitN_tb, Nat.add_comm]
      cases a.testBit (j + n) <;> simp [hj]
    · rw [if_neg h, tb_big a (j + n) ha (by omega)]
      simp
  · rw [if_neg hn, if_neg (by omega), Nat.zero_testBit]
    simp
set_option maxRecDepth 100000 in
theorem refShl_w (a n : Nat) (w : World) (ha : a < M256) : Calls Try.prog 69 #[wv a, .int .i64 (min n 256 : Nat)] w (RetW w (shlN a n)) := (refShl_any a (min n 256) w ha (by omega)).mono fun _ _ h => ⟨by rw [h.1, shl_ref a n], shlN_lt a n, h.2⟩
end Go.Proofs.Ytgmmkoahnednfaa
