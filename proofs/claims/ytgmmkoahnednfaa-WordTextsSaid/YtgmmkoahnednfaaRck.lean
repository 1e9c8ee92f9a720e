/- The document's own answers of layer 2: Parse. -/
import Derived.Test.YtgmmkoahnednfaaRcj
import Derived.Test.YtgmmkoahnednfaaRbd
import Derived.Test.YtgmmkoahnednfaaWru
namespace Go.Proofs.Ytgmmkoahnednfaa
open Go.RowKit

/-- What the document's Parse answers. -/
def refPV (l : List UInt8) : Value := if badS l = false ∧ l.all isDg = true then .tuple #[wv (hexN l), .bool true] else .tuple #[wv 0, .bool false]
set_option maxRecDepth 100000 in
theorem refPV_bad (l : List UInt8) (h : badS l = true) : refPV l = .tuple #[wv 0, .bool false] := by
  unfold refPV
  rw [if_neg (by rw [h]; simp)]
set_option maxRecDepth 100000 in
theorem refPV_no (l : List UInt8) (h : l.all isDg = false) : refPV l = .tuple #[wv 0, .bool false] := by
  unfold refPV
  rw [if_neg (by rw [h]; simp)]
set_option maxRecDepth 100000 in
theorem refPV_ok (l : List UInt8) (h : badS l = false) (ha : l.all isDg = true) : refPV l = .tuple #[wv (hexN l), .bool true] := by
  unfold refPV
  rw [if_pos ⟨h, ha⟩]
set_option maxRecDepth 100000 in
theorem txt_bad (l : List UInt8) (h : badS l = true) (hn : hexN l < M256) : txtL (hexN l) (List.range 64) ≠ l := by
  intro e
  have h1 := text_read (hexN l) hn
  rw [e, parseV_bad l h] at h1
  injection h1 with h1
  have := congrArg (fun a => a[1]?) h1
  simp at this
set_option maxRecDepth 100000 in
theorem all_no (l : List UInt8) (k : Nat) (hk : k < l.length) (h : isDg (l.getD k 0) = false) : l.all isDg = false := by
  rw [Bool.eq_false_iff]
  intro ha
  have := List.all_eq_true.1 ha (l.getD k 0) (by simp [List.getD, List.getElem?_eq_getElem hk])
  rw [this] at h
  cases h
set_option maxRecDepth 100000 in
theorem hexN_M (l : List UInt8) (h : l.length ≤ 64) : hexN l < M256 := by
  have h1 := hexN_lt l
  have h2 : 16 ^ l.length ≤ 16 ^ 64 := Nat.pow_le_pow_right (by decide) h
  rw [M256_digits]
  omega
/-- The digit found among the first j. -/
def fnd (c : UInt8) (j : Nat) : Int := if isDg c = true ∧ dv c < j then (dv c : Int) else -1
set_option maxRecDepth 100000 in
theorem fnd_zero (c : UInt8) : fnd c 0 = -1 := by unfold fnd; rw [if_neg (by omega)]
set_option maxRecDepth 100000 in
theorem fnd_eq (c : UInt8) (j : Nat) (hj : j < 16) (h : ((dgt j).toNat : Int) = (c.toNat : Int)) : fnd c (j + 1) = j := by
  have hc : dgt j = c := UInt8.toNat_inj.1 (by omega)
  subst hc
  unfold fnd
  rw [if_pos ⟨isDg_dgt j hj, by rw [dv_dgt j hj]; omega⟩, dv_dgt j hj]
set_option maxRecDepth 100000 in
theorem fnd_ne (c : UInt8) (j : Nat) (h : ¬ ((dgt j).toNat : Int) = (c.toNat : Int)) : fnd c (j + 1) = fnd c j := by
  unfold fnd
  by_cases hd : isDg c = true
  · have : dv c ≠ j := by
      intro e
      apply h
      rw [← e, dgt_dv c hd]
    by_cases hj : dv c < j
    · rw [if_pos ⟨hd, by omega⟩, if_pos ⟨hd, hj⟩]
    · rw [if_neg (by omega), if_neg (by omega)]
  · rw [if_neg (by simp [hd]), if_neg (by simp [hd])]
set_option maxRecDepth 100000 in
theorem idx_dig (y : Nat) (hy : y < 16) (w : World) : (Instr.index 9 (.string ⟨#[48, 49, 50, 51, 52, 53, 54, 55, 56, 57, 97, 98, 99, 100, 101, 102]⟩) (.int .i64 (y : Nat))).run Try.prog w = .ok (.int .u8 ((dgt y).toNat : Int)) w := by
  have h : y = 0 ∨ y = 1 ∨ y = 2 ∨ y = 3 ∨ y = 4 ∨ y = 5 ∨ y = 6 ∨ y = 7 ∨ y = 8 ∨ y = 9 ∨ y = 10 ∨ y = 11 ∨ y = 12 ∨ y = 13 ∨ y = 14 ∨ y = 15 := by omega
  rcases h with rfl | rfl | rfl | rfl | rfl | rfl | rfl | rfl | rfl | rfl | rfl | rfl | rfl | rfl | rfl | rfl <;> rfl

set_option maxRecDepth 100000 in
theorem refShl4 (a : Nat) (w : World) (ha : a * 16 < M256) : Calls Try.prog 69 #[wv a, .int .i64 4] w fun e w' => e = .returned (wv (a * 16)) ∧ Ext w w' := by
  have h := refShl_w a 4 w (by omega)
  refine h.mono fun e w' h => ⟨?_, h.2.2⟩
  rw [h.1]
  unfold shlN
  rw [if_pos (by decide), Nat.mod_eq_of_lt ha]
set_option maxRecDepth 100000 in
theorem put_digit {W : World} {g a d : Nat} (h : Wd W g 27 (a * 16)) (hd : d < 16) (ha : a * 16 < M256) : ((lb (a * 16) 0 : Nat) : Int) + (d : Int) ≤ 18446744073709551615 ∧ Wd (W.setCell ⟨g, 0, none⟩ (.int .u64 (((lb (a * 16) 0 : Nat) : Int) + (d : Int)))) g 27 (a * 16 + d) := by
  have hl : lb (a * 16) 0 + d < 18446744073709551616 := by rw [lb0]; omega
  refine ⟨by omega, ?_⟩
  have h1 := (wc_add (a * 16) 0 d (by decide) ha hl).1
  have h2 := h.cs.set 0 (lv (lb (a * 16) 0 + d))
  rw [h1, Nat.pow_zero, Nat.mul_one] at h2
  have e : lv (lb (a * 16) 0 + d) = .int .u64 (((lb (a * 16) 0 : Nat) : Int) + (d : Int)) := by unfold lv; rw [Int.natCast_add]
  rw [e] at h2
  exact h2

set_option maxRecDepth 100000 in
set_option maxHeartbeats 4000000 in
theorem refParse_any (s : ByteArray) (w : World) (hsz : s.size ≤ 9223372036854775807) :
    Calls Try.prog 36 #[.string s] w fun e w' => e = .returned (refPV s.toList) ∧ Ext w w' := by
  have hL := size_toList s
  by_cases h0 : s.size = 0
  · have HV := Lib.hid (refPV_bad s.toList (by unfold badS; simp [hL, h0]))
    have h1 : s.toList = [] := List.eq_nil_of_length_eq_zero (by omega)
    go_enter Try.func36, Try.ntmps36
    go_wp2_with (first
      | ((with_reducible refine wpList_load_wordG ?_ 27 25 (.tmp 4) rfl Try.underlying27 winfo (w.heap.size + 1) 0 ?_ ?_ ?_); (exact rfl); (exact rfl); (exact Cs.new _ _ _ _ (by simp)))
      | (refine wpList_store_word rfl rfl 27 (.tmp 2) (.tmp 16) rfl winfo w.heap.size (wc 0) 0 rfl rfl ((Cs.new _ _ _ _ rfl).alloc _) rfl ?_; intro w4 k4 g4; have K4 := Lib.hid k4; have HE4 := Lib.hid ((((Ext.refl w).alloc _).alloc _).grown g4 (by omega)); clear k4 g4))
    exact bodyPost_ret (results_word_tmp Try.results36 _ _ w.heap.size _ rfl K4.out Try.underlying27 winfo) rfl ⟨by rw [HV.out]; rfl, HE4.out⟩
  have h0' : ((s.size : Int) == 0) = false := by simp only [beq_eq_false_iff_ne]; omega
  by_cases h64 : 64 < s.size
  · have HV := Lib.hid (refPV_bad s.toList (by unfold badS; rw [show decide (64 < s.toList.length) = true by simp; omega]; simp))
    have h2 : decide ((64 : Int) < (s.size : Int)) = true := by simp; omega
    go_enter Try.func36, Try.ntmps36
    go_wp2_with (first
      | ((with_reducible refine wpList_load_wordG ?_ 27 25 (.tmp 4) rfl Try.underlying27 winfo (w.heap.size + 1) 0 ?_ ?_ ?_); (exact rfl); (exact rfl); (exact Cs.new _ _ _ _ (by simp)))
      | (refine wpList_store_word rfl rfl 27 (.tmp 2) (.tmp 16) rfl winfo w.heap.size (wc 0) 0 rfl rfl ((Cs.new _ _ _ _ rfl).alloc _) rfl ?_; intro w4 k4 g4; have K4 := Lib.hid k4; have HE4 := Lib.hid ((((Ext.refl w).alloc _).alloc _).grown g4 (by omega)); clear k4 g4))
    exact bodyPost_ret (results_word_tmp Try.results36 _ _ w.heap.size _ rfl K4.out Try.underlying27 winfo) rfl ⟨by rw [HV.out]; rfl, HE4.out⟩
  have h2 : decide ((64 : Int) < (s.size : Int)) = false := by simp; omega
  have HLN := Lib.hid hL
  have hpos : 0 < s.size := by omega
  clear hL h0
  go_enter Try.func36, Try.ntmps36
  go_wp2_with fail
  go_loopw [5, 6, 7, 19, 20, 21, 22, 23, 24, 25, 26, 27, 28, 29, 30, 31, 32, 33, 34, 36, 37, 38, 39, 40, 41, 42, 43, 44] (fun _ _ _ i _ _ _ _ _ _ _ _ _ _ _ _ _ _ _ _ _ _ _ _ _ _ _ _ wr => ∃ k : Nat, k ≤ s.size ∧ i = .int .i64 k ∧ Hid ((s.toList.take k).all isDg = true) ∧ Hid (Cs wr w.heap.size 27 (wc 0)) ∧ Hid (Wd wr (w.heap.size + 1) 27 (hexN (s.toList.take k))) ∧ Hid (Ext w wr)) (fun _ _ _ i _ _ _ _ _ _ _ _ _ _ _ _ _ _ _ _ _ _ _ _ _ _ _ _ _ => s.size - (intOf i).toNat)
  case atStart => exact ⟨0, by omega, rfl, Lib.hid (by simp), heap_alloc2_old _ _ _, Lib.hid (show Wd _ _ _ (hexN []) from heap_alloc2_new _ _ _), ((Ext.refl w).alloc _).alloc _⟩
  case round =>
    obtain ⟨k, hk, rfl, HD, h0, h1, he⟩ := hrel
    by_cases hlt : k < s.size
    · have hget := get_toList s k hlt
      have HAS := Lib.hid (all_step s.toList k (by rw [HLN.out]; exact hlt) HD.out)
      have HNO := Lib.hid (all_no s.toList k (by rw [HLN.out]; exact hlt))
      have HX := Lib.hid (show hexN (s.toList.take (k + 1)) = hexN (s.toList.take k) * 16 + dv (s.toList.getD k 0) by rw [take_snoc8 _ _ (by rw [HLN.out]; exact hlt), hexN_snoc])
      have hM : hexN (s.toList.take k) * 16 < M256 := by
        have h1 := hexN_lt (s.toList.take k)
        rw [List.length_take, HLN.out, Nat.min_eq_left (by omega)] at h1
        have h2 : 16 ^ k * 16 ≤ 16 ^ 64 := by rw [← Nat.pow_succ]; exact Nat.pow_le_pow_right (by decide) (by omega)
        rw [M256_digits]
        omega
      have HM := Lib.hid hM
      clear HD hM
      generalize s.toList.getD k 0 = c at *
      have hc256 := c.toNat_lt
      go_wp2_with fail
      go_loopw [6, 7, 22, 23, 24, 25, 26, 27, 28, 29, 30, 31, 32] (fun d _ j _ _ _ _ _ _ _ _ _ _ wq => ∃ m : Nat, m ≤ 16 ∧ j = .int .i64 m ∧ d = .int .i64 (fnd c m) ∧ Hid (Cs wq w.heap.size 27 (wc 0)) ∧ Hid (Wd wq (w.heap.size + 1) 27 (hexN (s.toList.take k))) ∧ Hid (Ext w wq)) (fun _ _ j _ _ _ _ _ _ _ _ _ _ _ => 16 - (intOf j).toNat)
      case atStart => exact ⟨0, by omega, rfl, by rw [fnd_zero], h0, h1, he⟩
      case round =>
        clear h0 h1 he
        obtain ⟨m, hm, rfl, rfl, h0, h1, he⟩ := hrel
        by_cases hl16 : m < 16
        · have hix := idx_dig m hl16
          have a1 : (0 : Int) ≤ (m : Int) := by omega
          by_cases hq : ((dgt m).toNat : Int) = (c.toNat : Int)
          · have HF := Lib.hid (fnd_eq c m hl16 hq)
            have hq' : (((dgt m).toNat : Int) == (c.toNat : Int)) = true := by simp [hq]
            clear hq
            go_wp2_with fail
            go_region
            go_wp2_with fail
            go_roundw
            case rel => exact ⟨m + 1, by omega, by go_num, by rw [HF.out], h0, h1, Lib.hid he.out.drew⟩
            case measure => simp [intOf]; omega
          · have HF := Lib.hid (fnd_ne c m hq)
            have hq' : (((dgt m).toNat : Int) == (c.toNat : Int)) = false := by simp only [beq_eq_false_iff_ne]; exact hq
            clear hq
            go_wp2_with fail
            go_region
            go_wp2_with fail
            go_roundw
            case rel => exact ⟨m + 1, by omega, by go_num, by rw [HF.out], h0, h1, Lib.hid he.out.drew⟩
            case measure => simp [intOf]; omega
        · obtain rfl : m = 16 := by omega
          clear hl16 hm
          by_cases hdg : isDg c = true
          · have hf : fnd c 16 = (dv c : Int) := by unfold fnd; rw [if_pos ⟨hdg, dv_lt c⟩]
            have hdl := dv_lt c
            rw [hf]
            have HA2 := Lib.hid (HAS.out hdg)
            clear hf HAS HNO hdg
            generalize hexN (s.toList.take k) = a at *
            generalize dv c = d at *
            have hdn : decide ((d : Int) < 0) = false := by simp
            go_wp2_with ((with_reducible refine wpList_load_wordG ?_ 27 25 (.tmp 4) rfl Try.underlying27 winfo (w.heap.size + 1) a ?_ ?_ ?_); (exact rfl); (exact rfl); (exact h1.out))
            refine (refShl4 a _ HM.out).mono ?_
            rintro e w3 ⟨rfl, he3⟩
            have h03 := Lib.hid (Cs.ext h0.out he3)
            have h13 := Lib.hid (Wd.ext h1.out he3)
            have he3 := Lib.hid (he.out.trans he3)
            clear h0 h1 he
            go_upto_region 17 with (refine wpList_store_word rfl rfl 27 (.tmp 4) (.tmp 37) rfl winfo (w.heap.size + 1) (wc a) _ rfl rfl h13.out rfl ?_; intro w4 k4 g4; have K4 := Lib.hid k4; have H04 := Lib.hid (Cs.kept h03.out g4 (some_ne (by omega))); have HE4 := Lib.hid (he3.out.grown g4 (by omega)); clear k4 g4)
            have q := put_digit K4.out hdl HM.out
            have hs := q.1
            have HQ := Lib.hid q.2
            have c0 := K4.out.cell 0 (by omega)
            have f0 := K4.out.frozen 0
            have hl0 := lb_lt (a * 16) 0
            clear q h03 h13 he3
            go_wp2_with fail
            go_roundw
            case rel => exact ⟨k + 1, by omega, by go_num, HA2, Lib.hid (Cs.kept H04.out (grown_set _ _ _ _) (some_ne (by omega))), by rw [HX.out]; exact HQ, Lib.hid (HE4.out.grown (grown_set _ _ _ _) (by omega))⟩
            case measure => simp [intOf]; omega
          · have hf : fnd c 16 = -1 := by unfold fnd; rw [if_neg (by simp [hdg])]
            rw [hf]
            have HV := Lib.hid (refPV_no s.toList (HNO.out (by simpa using hdg)))
            clear hf HAS HNO hdg
            go_wp2_with (refine wpList_store_word rfl rfl 27 (.tmp 2) (.tmp 35) rfl winfo w.heap.size (wc 0) 0 rfl rfl h0.out rfl ?_; intro w4 k4 g4; have K4 := Lib.hid k4; have HE4 := Lib.hid (he.out.grown g4 (by omega)); clear k4 g4)
            exact bodyPost_ret (results_word_tmp Try.results36 _ _ w.heap.size _ rfl K4.out Try.underlying27 winfo) rfl ⟨by rw [HV.out]; rfl, HE4.out⟩
    · obtain rfl : k = s.size := by omega
      have e0 : s.toList.take s.size = s.toList := List.take_of_length_le (by rw [HLN.out]; exact Nat.le_refl _)
      rw [e0] at HD h1
      clear e0 hlt hk
      have hM := hexN_M s.toList (by rw [HLN.out]; omega)
      have HL0 := Lib.hid (show 0 < s.toList.length by rw [HLN.out]; omega)
      generalize hl : s.toList = l at *
      obtain rfl : s = sb l := by rw [← hl]; apply ByteArray.ext; rw [ByteArray.toList_eq]; simp [sb]
      go_wp2_with ((with_reducible refine wpList_load_wordG ?_ 27 25 (.tmp 4) rfl Try.underlying27 winfo (w.heap.size + 1) (hexN l) ?_ ?_ ?_); (exact rfl); (exact rfl); (exact h1.out))
      refine (refText_any _ _).mono ?_
      rintro e w3 ⟨rfl, he3⟩
      have h03 := Lib.hid (Cs.ext h0.out he3)
      have h13 := Lib.hid (Wd.ext h1.out he3)
      have he3 := Lib.hid (he.out.trans he3)
      clear h0 h1 he
      cases hbad : badS l with
      | true =>
        have hne := txt_bad l hbad hM
        have HV := Lib.hid (refPV_bad l hbad)
        generalize txtL (hexN l) (List.range 64) = t at *
        have hst := sb_toList t
        have hne1 : ¬ t = l := hne
        have hne2 : (t == l) = false := by simpa using hne
        have hne3 : (!(t == l)) = true := by rw [hne2]; rfl
        clear hne hbad HD
        go_wp2_with (refine wpList_store_word rfl rfl 27 (.tmp 2) (.tmp 49) rfl winfo w.heap.size (wc 0) 0 rfl rfl h03.out rfl ?_; intro w4 k4 g4; have K4 := Lib.hid k4; have HE4 := Lib.hid (he3.out.grown g4 (by omega)); clear k4 g4)
        exact bodyPost_ret (results_word_tmp Try.results36 _ _ w.heap.size _ rfl K4.out Try.underlying27 winfo) rfl ⟨by rw [hl, HV.out]; rfl, HE4.out⟩
      | false =>
        obtain ⟨ht, _⟩ := read_text l hbad HD.out
        rw [ht]
        have HV := Lib.hid (refPV_ok l hbad HD.out)
        go_wp2_with (first
          | ((with_reducible refine wpList_load_wordG ?_ 27 25 (.tmp 4) rfl Try.underlying27 winfo (w.heap.size + 1) (hexN l) ?_ ?_ ?_); (exact rfl); (exact rfl); (exact h13.out))
          | (refine wpList_store_word rfl rfl 27 (.tmp 2) (.tmp 50) rfl winfo w.heap.size (wc 0) (hexN l) rfl rfl h03.out rfl ?_; intro w4 k4 g4; have K4 := Lib.hid k4; have HE4 := Lib.hid (he3.out.grown g4 (by omega)); clear k4 g4))
        exact bodyPost_ret (results_word_tmp Try.results36 _ _ w.heap.size _ rfl K4.out Try.underlying27 winfo) rfl ⟨by rw [hl, HV.out]; rfl, HE4.out⟩
end Go.Proofs.Ytgmmkoahnednfaa
