/- Words, their bytes and their digits lead back to one another; bytes.Compare. -/
import Derived.Test.YtgmmkoahnednfaaWrq
import Derived.Test.YtgmmkoahnednfaaDig
import Derived.Lib.BytesEntry
namespace Go.Proofs.Ytgmmkoahnednfaa
open Go.RowKit

/-! ### Bytes -/
set_option maxRecDepth 100000 in
theorem bytL_digs (n : Nat) : bytL n (List.range 32) = (digs 256 32 n).map UInt8.ofNat := by
  unfold bytL
  rw [← digs_map 256 32 n (dBits n 8), List.map_map]
  · rfl
  · intro k hk
    unfold dBits dAt
    rw [show (2 : Nat) ^ 8 = 256 from rfl, show (256 : Nat) ^ (32 - 1 - k) = 2 ^ (256 - 8 * (k + 1)) from by rw [show (256 : Nat) = 2 ^ 8 from rfl, ← Nat.pow_mul]; congr 1; omega]
set_option maxRecDepth 100000 in
theorem M256_bytes : M256 = 256 ^ 32 := by rw [M256_pow, show (256 : Nat) = 2 ^ 8 from rfl, ← Nat.pow_mul]
set_option maxRecDepth 100000 in
theorem M256_digits : M256 = 16 ^ 64 := by rw [M256_pow, show (16 : Nat) = 2 ^ 4 from rfl, ← Nat.pow_mul]
set_option maxRecDepth 100000 in
theorem beN_map (l : List Nat) (h : ∀ d ∈ l, d < 256) : beN (l.map UInt8.ofNat) = numD 256 l := by
  unfold beN numD
  rw [List.foldl_map]
  suffices H : ∀ (m : Nat), l.foldl (fun n d => n * 256 + (UInt8.ofNat d).toNat) m = l.foldl (fun n d => n * 256 + d) m from H 0
  induction l with
  | nil => intro m; rfl
  | cons d l ih =>
    intro m
    rw [List.foldl_cons, List.foldl_cons, UInt8.toNat_ofNat', Nat.mod_eq_of_lt (h d List.mem_cons_self)]
    exact ih (fun e he => h e (List.mem_cons_of_mem _ he)) _
set_option maxRecDepth 100000 in
theorem bytes_read (n : Nat) (h : n < M256) : readV (bytL n (List.range 32)) = .tuple #[wv n, .int .i64 0] := by
  unfold readV
  rw [if_pos (by rw [bytL_len, List.length_range]; exact Nat.le_refl _), bytL_digs, beN_map _ (digs_lt 256 32 (by decide) n), numD_digs 256 32 n (by rw [← M256_bytes]; exact h)]
set_option maxRecDepth 100000 in
theorem compare_map : ∀ (l r : List Nat), l.length = r.length → (∀ d ∈ l, d < 256) → (∀ d ∈ r, d < 256) → Lib.compareBytes (l.map UInt8.ofNat) (r.map UInt8.ofNat) = cmpD l r
  | [], [], _, _, _ => rfl
  | [], _ :: _, h, _, _ => by cases h
  | _ :: _, [], h, _, _ => by cases h
  | x :: l, y :: r, h, hl, hr => by
    have hx := hl x List.mem_cons_self
    have hy := hr y List.mem_cons_self
    have ih := compare_map l r (by simpa using h) (fun e he => hl e (List.mem_cons_of_mem _ he)) (fun e he => hr e (List.mem_cons_of_mem _ he))
    have ex : (UInt8.ofNat x).toNat = x := by rw [UInt8.toNat_ofNat', Nat.mod_eq_of_lt hx]
    have ey : (UInt8.ofNat y).toNat = y := by rw [UInt8.toNat_ofNat', Nat.mod_eq_of_lt hy]
    rw [List.map_cons, List.map_cons]
    show (if UInt8.ofNat x < UInt8.ofNat y then (-1 : Int) else if UInt8.ofNat y < UInt8.ofNat x then 1 else Lib.compareBytes (l.map UInt8.ofNat) (r.map UInt8.ofNat)) = _
    rw [ih]
    by_cases h1 : x < y
    · rw [cmpD_lt _ _ h1, if_pos (by rw [UInt8.lt_iff_toNat_lt, ex, ey]; exact h1)]
    · rw [if_neg (by rw [UInt8.lt_iff_toNat_lt, ex, ey]; exact h1)]
      by_cases h2 : y < x
      · rw [cmpD_gt _ _ h2, if_pos (by rw [UInt8.lt_iff_toNat_lt, ex, ey]; exact h2)]
      · obtain rfl : x = y := by omega
        rw [cmpD_eq, if_neg (by rw [UInt8.lt_iff_toNat_lt]; omega)]
set_option maxRecDepth 100000 in
theorem cmp_bytes (a b : Nat) (ha : a < M256) (hb : b < M256) : Lib.compareBytes (bytL a (List.range 32)) (bytL b (List.range 32)) = cmpN a b := by
  rw [bytL_digs, bytL_digs, compare_map _ _ (by rw [digs_len, digs_len]) (digs_lt _ _ (by decide) _) (digs_lt _ _ (by decide) _), cmpD_digs 256 32 (by decide) a b (by rw [← M256_bytes]; exact ha) (by rw [← M256_bytes]; exact hb)]
  rfl

/-! ### Digits -/
set_option maxRecDepth 100000 in
theorem dgt_nat (y : Nat) (h : y < 16) : (dgt y).toNat = if y < 10 then 48 + y else 87 + y := by
  unfold dgt
  split <;> (rw [UInt8.toNat_ofNat', Nat.mod_eq_of_lt (by omega)])
set_option maxRecDepth 100000 in
theorem dv_dgt (y : Nat) (h : y < 16) : dv (dgt y) = y := by
  unfold dv
  rw [dgt_nat y h]
  split <;> (repeat' split) <;> omega
set_option maxRecDepth 100000 in
theorem isDg_dgt (y : Nat) (h : y < 16) : isDg (dgt y) = true := by
  unfold isDg
  rw [dgt_nat y h, decide_eq_true_eq]
  split <;> omega
set_option maxRecDepth 100000 in
theorem dgt_dv (c : UInt8) (h : isDg c = true) : dgt (dv c) = c := by
  have hl := dv_lt c
  apply UInt8.toNat_inj.1
  rw [dgt_nat _ hl]
  unfold isDg at h
  rw [decide_eq_true_eq] at h
  unfold dv
  repeat' split
  all_goals omega
set_option maxRecDepth 100000 in
theorem hexN_map (l : List Nat) (h : ∀ d ∈ l, d < 16) : hexN (l.map dgt) = numD 16 l := by
  unfold hexN numD
  rw [List.foldl_map]
  suffices H : ∀ (m : Nat), l.foldl (fun n d => n * 16 + dv (dgt d)) m = l.foldl (fun n d => n * 16 + d) m from H 0
  induction l with
  | nil => intro m; rfl
  | cons d l ih =>
    intro m
    rw [List.foldl_cons, List.foldl_cons, dv_dgt d (h d List.mem_cons_self)]
    exact ih (fun e he => h e (List.mem_cons_of_mem _ he)) _
set_option maxRecDepth 100000 in
theorem txt_part (n : Nat) : ∀ j, j ≤ 63 → txtL n (List.range j) = (dw ((List.range j).map (dBits n 4))).map dgt := by
  intro j
  induction j with
  | zero => intro _; rfl
  | succ j ih =>
    intro hj
    rw [List.range_succ, txtL_snoc, ih (by omega), List.map_append, List.map_singleton, dw_snoc]
    unfold txtS
    have hd : ¬ dAt 4 j = 0 := by unfold dAt; omega
    generalize dBits n 4 j = y
    generalize dw ((List.range j).map (dBits n 4)) = r
    by_cases h : y ≠ 0 ∨ r ≠ []
    · rw [if_pos h, if_pos (by rcases h with h | h; exact .inl h; exact .inr (.inl (by simpa using h)))]
      simp
    · have h1 : y = 0 := Classical.not_not.1 fun e => h (.inl e)
      have h2 : r = [] := Classical.not_not.1 fun e => h (.inr e)
      rw [if_neg h, h1, h2, if_neg (by simp [hd])]
set_option maxRecDepth 100000 in
theorem nib_digs (n : Nat) : (List.range 64).map (dBits n 4) = digs 16 64 n := by
  refine digs_map 16 64 n _ fun k hk => ?_
  unfold dBits dAt
  rw [show (2 : Nat) ^ 4 = 16 from rfl, show (16 : Nat) ^ (64 - 1 - k) = 2 ^ (256 - 4 * (k + 1)) from by rw [show (16 : Nat) = 2 ^ 4 from rfl, ← Nat.pow_mul]; congr 1; omega]
set_option maxRecDepth 100000 in
theorem txt_strip (n : Nat) : txtL n (List.range 64) = (strip (digs 16 64 n)).map dgt := by
  rw [← nib_digs, List.range_succ, txtL_snoc, txt_part n 63 (Nat.le_refl _), List.map_append, List.map_singleton, strip_snoc]
  unfold txtS
  rw [if_pos (.inr (.inr rfl)), List.map_append]
  rfl
set_option maxRecDepth 100000 in
theorem mem_dw {l : List Nat} {d : Nat} (h : d ∈ dw l) : d ∈ l := by
  obtain ⟨k, hk⟩ := dw_split l
  rw [hk]
  exact List.mem_append_right _ h
set_option maxRecDepth 100000 in
theorem dw_le (l : List Nat) : (dw l).length ≤ l.length := by
  obtain ⟨k, hk⟩ := dw_split l
  conv => rhs; rw [hk]
  simp
set_option maxRecDepth 100000 in
theorem digs_ne (n : Nat) : digs 16 64 n ≠ [] := fun h => by have := digs_len 16 64 n; rw [h] at this; cases this
set_option maxRecDepth 100000 in
theorem mem_strip {l : List Nat} (hne : l ≠ []) {d : Nat} (h : d ∈ strip l) : d ∈ l := by
  rw [← List.dropLast_concat_getLast hne] at h ⊢
  rw [strip_snoc] at h
  rcases List.mem_append.1 h with h | h
  · exact List.mem_append_left _ (mem_dw h)
  · exact List.mem_append_right _ h
set_option maxRecDepth 100000 in
theorem text_read (n : Nat) (h : n < M256) : parseV (txtL n (List.range 64)) = .tuple #[wv n, .int .i64 0] := by
  have hlt := digs_lt 16 64 (by decide) n
  have hs : ∀ d ∈ strip (digs 16 64 n), d < 16 := fun d hd => hlt d (mem_strip (digs_ne n) hd)
  have hv : hexN (txtL n (List.range 64)) = n := by
    rw [txt_strip, hexN_map _ hs, numD_strip 16 _ (digs_ne n), numD_digs 16 64 n (by rw [← M256_digits]; exact h)]
  have hall : (txtL n (List.range 64)).all isDg = true := by
    rw [txt_strip, List.all_map, List.all_eq_true]
    intro d hd
    exact isDg_dgt d (hs d hd)
  have hbad : badS (txtL n (List.range 64)) = false := by
    rw [txt_strip]
    obtain ⟨l, y, e, hl⟩ : ∃ l y, digs 16 64 n = l ++ [y] ∧ l.length = 63 := ⟨_, _, (List.dropLast_concat_getLast (digs_ne n)).symm, by rw [List.length_dropLast, digs_len]⟩
    rw [e] at hs ⊢
    rw [strip_snoc] at hs ⊢
    have hle := dw_le l
    have hd0 := dw_head l
    generalize dw l = r at *
    unfold badS
    cases r with
    | nil =>
      have hy := hs y (by simp)
      by_cases h8 : dgt y = 48
      · simp [h8]
      · have : ¬ (dgt y).toNat = 48 := fun e' => h8 (UInt8.toNat_inj.1 e')
        simp [this]
    | cons d r =>
      have hd := hs d (by simp)
      have hz := hd0 d r rfl
      have h8 : ¬ (dgt d).toNat = 48 := by rw [dgt_nat d hd]; split <;> omega
      have h6 : ¬ 64 < ((d :: r ++ [y]).map dgt).length := by simp at hle ⊢; omega
      simp only [Bool.or_eq_false_iff, Bool.and_eq_false_iff, decide_eq_false_iff_not]
      refine ⟨⟨by simp, h6⟩, .inl ?_⟩
      simpa using h8
  rw [parseV_ok _ hbad hall, hv]
set_option maxRecDepth 100000 in
theorem read_text (l : List UInt8) (hb : badS l = false) (ha : l.all isDg = true) : txtL (hexN l) (List.range 64) = l ∧ hexN l < M256 := by
  have hall := List.all_eq_true.1 ha
  have e1 : (l.map dv).map dgt = l := by
    rw [List.map_map]
    conv => rhs; rw [← List.map_id l]
    exact List.map_congr_left fun c hc => dgt_dv c (hall c hc)
  have hlt : ∀ d ∈ l.map dv, d < 16 := by
    intro d hd
    obtain ⟨c, _, rfl⟩ := List.mem_map.1 hd
    exact dv_lt c
  have e2 : hexN l = numD 16 (l.map dv) := by
    conv => lhs; rw [← e1]
    exact hexN_map _ hlt
  unfold badS at hb
  simp only [Bool.or_eq_false_iff, Bool.and_eq_false_iff, decide_eq_false_iff_not] at hb
  obtain ⟨⟨hb1, hb2⟩, hb3⟩ := hb
  refine ⟨?_, ?_⟩
  · rw [txt_strip, e2]
    have hz := digs_numD 16 (List.replicate (64 - l.length) 0 ++ l.map dv) (fun d hd => by
      rcases List.mem_append.1 hd with hd | hd
      · rw [(List.mem_replicate.1 hd).2]; decide
      · exact hlt d hd)
    rw [numD_zeros, List.length_append, List.length_replicate, List.length_map, Nat.sub_add_cancel (by omega)] at hz
    rw [hz, strip_pad _ _ (fun e => hb1 (by rw [← List.length_map (f := dv), e]; rfl)), e1]
    intro d r e hr hd
    cases l with
    | nil => cases e
    | cons c l =>
      rw [List.map_cons] at e
      injection e with h1 h2
      have hc := hall c List.mem_cons_self
      have h48 : c.toNat = 48 := by
        unfold isDg at hc
        rw [decide_eq_true_eq] at hc
        unfold dv at h1
        rw [hd] at h1
        repeat' split at h1
        all_goals omega
      rcases hb3 with h | h
      · simp [h48] at h
      · have : c :: l = [48] := by simpa using h
        injection this with _ h3
        rw [h3] at h2
        exact hr h2.symm
  · have := hexN_lt l
    refine Nat.lt_of_lt_of_le this ?_
    rw [M256_digits]
    exact Nat.pow_le_pow_right (by decide) (by omega)

/-! ### bytes.Compare -/
set_option maxRecDepth 100000 in
theorem run_bytesOf_bs {P : Program} {w : World} {v : Value} {l : List UInt8} (h : Bs w v l) : (Extern.Bytes.bytesOf v).run P w = .ok ⟨l.toArray⟩ w := by
  obtain ⟨A, c, rfl, h1, h2, h3⟩ := h
  cases A with
  | none =>
    have : l = [] := by
      rcases Nat.eq_zero_or_pos l.length with h0 | h0
      · exact List.eq_nil_of_length_eq_zero h0
      · obtain ⟨b, o, e, _⟩ := h3 h0
        cases e
    subst this
    rfl
  | some a =>
    have hl := Lib.run_loadBytesX (P := P) w (l.map fun c => (c.toNat : Int)) a .empty (fun j x hj => by
      rw [List.getElem?_map] at hj
      have hjl : j < l.length := by
        rcases Nat.lt_or_ge j l.length with h' | h'
        · exact h'
        · rw [List.getElem?_eq_none h'] at hj; cases hj
      obtain ⟨b, o, e, hc⟩ := h3 (by omega)
      injection e with e
      subst e
      have hadd : (⟨b, o, none⟩ : Addr).add j = ⟨b, o + j, none⟩ := by unfold Addr.add; split <;> simp_all
      rw [hadd, hc j hjl]
      rw [List.getElem?_eq_getElem hjl] at hj
      simp at hj
      rw [← hj]
      simp [bv, List.getD, List.getElem?_eq_getElem hjl])
    rw [List.length_map] at hl
    have he : (⟨ByteArray.empty.data ++ (Lib.bytesOf (l.map fun c => (c.toNat : Int))).toArray⟩ : ByteArray) = ⟨l.toArray⟩ := by
      apply ByteArray.ext
      show (#[] : Array UInt8) ++ _ = _
      have : Lib.bytesOf (l.map fun c => (c.toNat : Int)) = l := by
        unfold Lib.bytesOf
        rw [List.map_map]
        conv => rhs; rw [← List.map_id l]
        exact List.map_congr_left fun c _ => by simp
      rw [this]
      simp
    rw [he] at hl
    exact hl
set_option maxRecDepth 100000 in
theorem run_compare_bs {P : Program} {w : World} {v u : Value} {l r : List UInt8} (h : Bs w v l) (k : Bs w u r) : (Extern.BytealgCompare.compare #[v, u]).run P w = .ok (.int .i64 (Lib.compareBytes l r)) w := by
  change Sem.run P (do pure (goInt (Extern.BytealgCompare.cmp (← Extern.Bytes.bytesOf v) (← Extern.Bytes.bytesOf u)))) w = _
  simp only [Sem.run_bind, Sem.run_pure, Result.andThen, run_bytesOf_bs h, run_bytesOf_bs k]
  rw [Lib.cmp_eq]
  rfl
end Go.Proofs.Ytgmmkoahnednfaa
