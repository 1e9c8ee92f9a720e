/- Contract of package word: Parse. -/
import Derived.Test.YtgmmkoahnednfaaWrp
import Derived.WalkMore
import Derived.WalkSpells
namespace Go.Proofs.Ytgmmkoahnednfaa
open Go.RowKit

/-! ### Mathematics of digits -/
def isDg (c : UInt8) : Bool := decide (48 ≤ c.toNat ∧ c.toNat ≤ 57 ∨ 97 ≤ c.toNat ∧ c.toNat ≤ 102)
def dv (c : UInt8) : Nat := if 48 ≤ c.toNat ∧ c.toNat ≤ 57 then c.toNat - 48 else if 97 ≤ c.toNat ∧ c.toNat ≤ 102 then c.toNat - 87 else 0
set_option maxRecDepth 100000 in
theorem dv_lt (c : UInt8) : dv c < 16 := by unfold dv; split <;> (try split) <;> omega
def hexN (l : List UInt8) : Nat := l.foldl (fun n c => n * 16 + dv c) 0
set_option maxRecDepth 100000 in
theorem hexN_snoc (l : List UInt8) (c : UInt8) : hexN (l ++ [c]) = hexN l * 16 + dv c := by simp [hexN]
set_option maxRecDepth 100000 in
theorem hexN_gen (l : List UInt8) : ∀ n, l.foldl (fun n c => n * 16 + dv c) n < (n + 1) * 16 ^ l.length := by
  induction l with
  | nil => intro n; simp
  | cons c l ih =>
    intro n
    have h := ih (n * 16 + dv c)
    have hc := dv_lt c
    rw [List.foldl_cons, List.length_cons, Nat.pow_succ, Nat.mul_comm (16 ^ l.length), ← Nat.mul_assoc]
    exact Nat.lt_of_lt_of_le h (Nat.mul_le_mul_right _ (by omega))
set_option maxRecDepth 100000 in
theorem hexN_lt (l : List UInt8) : hexN l < 16 ^ l.length := by
  have := hexN_gen l 0
  simpa [hexN] using this
/-- What Parse has behind k digits. -/
def hxN (l : List UInt8) (k : Nat) : Nat := hexN (l.take k) * 16 ^ (l.length - k)
set_option maxRecDepth 100000 in
theorem hxN_zero (l : List UInt8) : hxN l 0 = 0 := by simp [hxN, hexN]
set_option maxRecDepth 100000 in
theorem hxN_all (l : List UInt8) : hxN l l.length = hexN l := by simp [hxN]
set_option maxRecDepth 100000 in
theorem hxN_step (l : List UInt8) (k : Nat) (h : k < l.length) : hxN l k ||| dv (l.getD k 0) * 2 ^ ((l.length - 1 - k) * 4) = hxN l (k + 1) := by
  unfold hxN
  rw [take_snoc8 l k h, hexN_snoc]
  obtain ⟨m, hm⟩ : ∃ m, l.length - k = m + 1 := ⟨l.length - k - 1, by omega⟩
  have e1 : l.length - (k + 1) = m := by omega
  have e2 : l.length - 1 - k = m := by omega
  have hp : (2 : Nat) ^ (m * 4) = 16 ^ m := by rw [Nat.mul_comm, Nat.pow_mul]
  rw [hm, e1, e2, hp, Nat.pow_succ]
  have hc := dv_lt (l.getD k 0)
  generalize dv (l.getD k 0) = c at *
  generalize hexN (l.take k) = A
  have hlt : c * 16 ^ m < 2 ^ (m * 4 + 4) := by
    rw [Nat.pow_add, hp, Nat.mul_comm]
    exact Nat.mul_lt_mul_of_pos_left hc (Nat.pow_pos (by decide))
  have h3 := Nat.two_pow_add_eq_or_of_lt hlt A
  have e4 : A * (16 ^ m * 16) = 2 ^ (m * 4 + 4) * A := by rw [Nat.pow_add, hp, Nat.mul_comm]
  rw [e4, ← h3, Nat.pow_add, hp, Nat.add_mul, Nat.mul_assoc A 16, Nat.mul_comm 16, Nat.mul_comm A]
set_option maxRecDepth 100000 in
theorem shift_fits4 (c m : Nat) (hc : c < 16) : c * 2 ^ (m * 4 % 64) < 18446744073709551616 := by
  have h1 : m * 4 % 64 ≤ 60 := by omega
  have h2 : (2 : Nat) ^ (m * 4 % 64) ≤ 2 ^ 60 := Nat.pow_le_pow_right (by decide) h1
  have h3 : c * 2 ^ (m * 4 % 64) ≤ 15 * 2 ^ 60 := Nat.mul_le_mul (by omega) h2
  omega
def badS (l : List UInt8) : Bool := decide (l.length = 0) || decide (64 < l.length) || ((l.getD 0 0).toNat == 48 && l != [48])
/-- What Parse answers. -/
def parseV (l : List UInt8) : Value := if badS l = false ∧ l.all isDg = true then .tuple #[wv (hexN l), .int .i64 0] else .tuple #[wv 0, .int .i64 2]
set_option maxRecDepth 100000 in
theorem parseV_bad (l : List UInt8) (h : badS l = true) : parseV l = .tuple #[wv 0, .int .i64 2] := by
  unfold parseV
  rw [if_neg (by rw [h]; simp)]
set_option maxRecDepth 100000 in
theorem parseV_no (l : List UInt8) (k : Nat) (hk : k < l.length) (h : isDg (l.getD k 0) = false) : parseV l = .tuple #[wv 0, .int .i64 2] := by
  unfold parseV
  rw [if_neg]
  rintro ⟨_, ha⟩
  have := List.all_eq_true.1 ha (l.getD k 0) (by simp [List.getD, List.getElem?_eq_getElem hk])
  rw [h] at this
  cases this
set_option maxRecDepth 100000 in
theorem parseV_ok (l : List UInt8) (h : badS l = false) (ha : l.all isDg = true) : parseV l = .tuple #[wv (hexN l), .int .i64 0] := by
  unfold parseV
  rw [if_pos ⟨h, ha⟩]
set_option maxRecDepth 100000 in
theorem all_step (l : List UInt8) (k : Nat) (hk : k < l.length) (h : (l.take k).all isDg = true) : ((isDg (l.getD k 0) = true) → (l.take (k + 1)).all isDg = true) := by
  intro hd
  rw [take_snoc8 l k hk, List.all_append, h]
  simpa [List.getD] using hd
set_option maxRecDepth 100000 in
theorem size_toList (s : ByteArray) : s.toList.length = s.size := by rw [ByteArray.toList_eq]; simp
set_option maxRecDepth 100000 in
theorem get_toList (s : ByteArray) (k : Nat) (h : k < s.size) : s[k].toNat = (s.toList.getD k 0).toNat := by
  rw [ByteArray.toList_eq]
  have h' : k < s.data.toList.length := by simpa using h
  simp only [List.getD, List.getElem?_eq_getElem h', Option.getD_some]
  rfl

set_option maxRecDepth 100000 in
set_option maxHeartbeats 4000000 in
theorem parse_any (s : ByteArray) (w : World) (hsz : s.size ≤ 9223372036854775807) :
    Calls Try.prog 35 #[.string s] w fun e w' => e = .returned (parseV s.toList) ∧ Ext w w' := by
  have hL := size_toList s
  by_cases h0 : s.size = 0
  · have HV := Lib.hid (parseV_bad s.toList (by unfold badS; rw [show decide (s.toList.length = 0) = true from decide_eq_true (by omega)]; rfl))
    have h1 : s.toList = [] := List.eq_nil_of_length_eq_zero (by omega)
    clear hL h0
    go_enter Try.func35, Try.ntmps35
    go_wp2_with fail
    go_step3
    go_wp2_with (refine wpList_store_word rfl rfl 27 (.tmp 2) (.tmp 24) rfl winfo w.heap.size (wc 0) 0 rfl rfl (Cs.new _ _ _ _ rfl) rfl ?_; intro w4 k4 g4; have K4 := Lib.hid k4; have HE4 := Lib.hid (((Ext.refl w).alloc _).grown g4 (by omega)); clear k4 g4)
    try rw [Exit.noGoto_ret]
    exact bodyPost_ret (results_word_tmp Try.results35 _ _ w.heap.size _ rfl K4.out Try.underlying27 winfo) rfl ⟨by rw [HV.out]; rfl, HE4.out⟩
  have hne : (!s.toList.isEmpty) = true := by cases h : s.toList with
    | nil => rw [h] at hL; simp at hL; omega
    | cons _ _ => rfl
  have hne' : s.toList.isEmpty = false := by simpa using hne
  by_cases h64 : 64 < s.size
  · have HV := Lib.hid (parseV_bad s.toList (by unfold badS; rw [show decide (64 < s.toList.length) = true by simp; omega]; simp))
    have h2 : decide ((64 : Int) < (s.size : Int)) = true := by simp; omega
    clear hL h0 h64
    go_enter Try.func35, Try.ntmps35
    go_wp2_with fail
    go_step3
    go_wp2_with (refine wpList_store_word rfl rfl 27 (.tmp 2) (.tmp 24) rfl winfo w.heap.size (wc 0) 0 rfl rfl (Cs.new _ _ _ _ rfl) rfl ?_; intro w4 k4 g4; have K4 := Lib.hid k4; have HE4 := Lib.hid (((Ext.refl w).alloc _).grown g4 (by omega)); clear k4 g4)
    try rw [Exit.noGoto_ret]
    exact bodyPost_ret (results_word_tmp Try.results35 _ _ w.heap.size _ rfl K4.out Try.underlying27 winfo) rfl ⟨by rw [HV.out]; rfl, HE4.out⟩
  have h2 : decide ((64 : Int) < (s.size : Int)) = false := by simp; omega
  have h3 : 0 < s.size := by omega
  have HL := Lib.hid hL
  have key : (badS s.toList = true ∧ ((s[0].toNat : Int) == 48) = true ∧ (!s.toList == [48]) = true) ∨ (badS s.toList = false ∧ ((((s[0].toNat : Int) == 48) = true ∧ (!s.toList == [48]) = false) ∨ ((s[0].toNat : Int) == 48) = false)) := by
    have hb : badS s.toList = (s[0].toNat == 48 && s.toList != [48]) := by
      unfold badS
      rw [← get_toList s 0 h3, show decide (s.toList.length = 0) = false from by simp only [decide_eq_false_iff_not]; omega, show decide (64 < s.toList.length) = false from by simp only [decide_eq_false_iff_not]; omega]
      simp
    rw [hb]
    by_cases h8 : s[0].toNat = 48
    · have e1 : ((s[0].toNat : Int) == 48) = true := by rw [h8]; rfl
      have e2 : (s[0].toNat == 48) = true := by rw [h8]; rfl
      rw [e1, e2]
      cases h9 : s.toList == [48] with
      | true => right; exact ⟨by simp [bne, h9], .inl ⟨rfl, rfl⟩⟩
      | false => left; exact ⟨by simp [bne, h9], rfl, rfl⟩
    · have e1 : ((s[0].toNat : Int) == 48) = false := by simp; omega
      have e2 : (s[0].toNat == 48) = false := by simpa using h8
      rw [e1, e2]
      right
      exact ⟨rfl, .inr rfl⟩
  clear hL
  rcases key with ⟨hb, e1, e2⟩ | ⟨hb, hk⟩
  · have HV := Lib.hid (parseV_bad _ hb)
    clear hb
    go_enter Try.func35, Try.ntmps35
    go_wp2_with fail
    go_step3
    go_wp2_with (refine wpList_store_word rfl rfl 27 (.tmp 2) (.tmp 24) rfl winfo w.heap.size (wc 0) 0 rfl rfl (Cs.new _ _ _ _ rfl) rfl ?_; intro w4 k4 g4; have K4 := Lib.hid k4; have HE4 := Lib.hid (((Ext.refl w).alloc _).grown g4 (by omega)); clear k4 g4)
    try rw [Exit.noGoto_ret]
    exact bodyPost_ret (results_word_tmp Try.results35 _ _ w.heap.size _ rfl K4.out Try.underlying27 winfo) rfl ⟨by rw [HV.out]; rfl, HE4.out⟩
  have HBad := Lib.hid hb
  clear hb
  rcases hk with ⟨e1, e2⟩ | e1
  all_goals
    go_enter Try.func35, Try.ntmps35
    go_wp2_with fail
    go_step3
    go_wp2_with fail
    have H00 : Hid (Cs ((w.alloc (.cells #[.int .u64 0, .int .u64 0, .int .u64 0, .int .u64 0] 27)).alloc (.cells #[.int .u64 0, .int .u64 0, .int .u64 0, .int .u64 0] 27)) w.heap.size 27 (wc 0)) := heap_alloc2_old _ _ _
    have H01 : Hid (Wd ((w.alloc (.cells #[.int .u64 0, .int .u64 0, .int .u64 0, .int .u64 0] 27)).alloc (.cells #[.int .u64 0, .int .u64 0, .int .u64 0, .int .u64 0] 27)) (w.heap.size + 1) 27 (hxN s.toList 0)) := by
      rw [hxN_zero]
      exact heap_alloc2_new _ _ _
    have H0E : Hid (Ext w ((w.alloc (.cells #[.int .u64 0, .int .u64 0, .int .u64 0, .int .u64 0] 27)).alloc (.cells #[.int .u64 0, .int .u64 0, .int .u64 0, .int .u64 0] 27))) := ((Ext.refl w).alloc _).alloc _
    go_step3
    go_wp2_with fail
    go_loopw [5, 6, 7, 25, 26, 27, 28, 29, 30, 31, 32, 33, 34, 35, 36, 37, 38, 39, 40, 41, 42, 43, 44, 45, 46, 47, 48, 49, 50, 51, 52, 53, 54, 55, 56, 57, 58, 59, 60, 61, 62, 63, 64, 65, 66] (fun i _ _ _ _ _ _ _ _ _ _ _ _ _ _ _ _ _ _ _ _ _ _ _ _ _ _ _ _ _ _ _ _ _ _ _ _ _ _ _ _ _ _ _ _ wr => ∃ k : Nat, k ≤ s.size ∧ i = .int .i64 k ∧ Hid ((s.toList.take k).all isDg = true) ∧ Hid (Cs wr w.heap.size 27 (wc 0)) ∧ Hid (Wd wr (w.heap.size + 1) 27 (hxN s.toList k)) ∧ Hid (Ext w wr)) (fun i _ _ _ _ _ _ _ _ _ _ _ _ _ _ _ _ _ _ _ _ _ _ _ _ _ _ _ _ _ _ _ _ _ _ _ _ _ _ _ _ _ _ _ _ _ => s.size - (intOf i).toNat)
    case atStart => exact ⟨0, by omega, rfl, Lib.hid (by simp), H00, H01, H0E⟩
    case round =>
      clear H00 H01 H0E
      obtain ⟨k, hk, rfl, hall, h0, h1, he⟩ := hrel
      by_cases hlt : k < s.size
      · have HG := Lib.hid (get_toList s k hlt)
        have HS := Lib.hid (hxN_step s.toList k (by rw [HL.out]; exact hlt))
        rw [HL.out] at HS
        have HB := Lib.hid (shift_fits4 (dv (s.toList.getD k 0)) (s.size - 1 - k) (dv_lt _))
        have HA := Lib.hid (all_step s.toList k (by rw [HL.out]; exact hlt) hall.out)
        have HN := Lib.hid (parseV_no s.toList k (by rw [HL.out]; exact hlt))
        have hcb := (s[k]).toNat_lt
        have hD : isDg (s.toList.getD k 0) = decide (48 ≤ s[k].toNat ∧ s[k].toNat ≤ 57 ∨ 97 ≤ s[k].toNat ∧ s[k].toNat ≤ 102) := by rw [HG.out]; rfl
        have HD := Lib.hid hD
        have hdv : dv (s.toList.getD k 0) = if 48 ≤ s[k].toNat ∧ s[k].toNat ≤ 57 then s[k].toNat - 48 else if 97 ≤ s[k].toNat ∧ s[k].toNat ≤ 102 then s[k].toNat - 87 else 0 := by rw [HG.out]; rfl
        have HDV := Lib.hid hdv
        clear hD hdv hall
        by_cases hd : 48 ≤ s[k].toNat ∧ s[k].toNat ≤ 57
        · obtain ⟨hd1, hd2⟩ := hd
          have b1 : decide ((48 : Int) ≤ (s[k].toNat : Int)) = true := by simp; omega
          have b2 : decide ((s[k].toNat : Int) ≤ 57) = true := by simp; omega
          have HX := Lib.hid (show dv (s.toList.getD k 0) = s[k].toNat - 48 by rw [HDV.out, if_pos ⟨hd1, hd2⟩])
          go_wp2_with ((with_reducible refine wpList_load_wordG ?_ 27 25 (.tmp 4) rfl Try.underlying27 winfo (w.heap.size + 1) (hxN s.toList k) ?_ ?_ ?_); (exact rfl); (exact rfl); (exact h1.out))
          refine (with_or (hxN s.toList k) ((s.size - 1 - k) * 4) (dv (s.toList.getD k 0)) _ _ (by omega) (by rw [HX.out]; omega) _ (by omega) HB.out).mono ?_
          rintro e w2 ⟨rfl, he2⟩
          rw [HS.out]
          have H0 := Lib.hid (Cs.ext h0.out he2)
          have H1 := Lib.hid (Wd.ext h1.out he2)
          have HE := Lib.hid (he.out.trans he2)
          clear he2 he h0 h1
          go_wp2_with (refine wpList_store_word rfl rfl 27 (.tmp 4) (.tmp 52) rfl winfo (w.heap.size + 1) (wc (hxN s.toList k)) _ rfl rfl H1.out rfl ?_; intro w4 k4 g4; have K4 := Lib.hid k4; have H04 := Lib.hid (Cs.kept H0.out g4 (some_ne (by omega))); have HE4 := Lib.hid (HE.out.grown g4 (by omega)); clear k4 g4)
          go_roundw
          case rel => exact ⟨k + 1, by omega, by go_num, Lib.hid (HA.out (by rw [HD.out]; simp only [decide_eq_true_eq]; omega)), H04, K4, HE4⟩
          case measure => simp [intOf]; omega
        · by_cases hd' : 97 ≤ s[k].toNat ∧ s[k].toNat ≤ 102
          · obtain ⟨hd1, hd2⟩ := hd'
            have b1 : decide ((48 : Int) ≤ (s[k].toNat : Int)) = true := by simp; omega
            have b2 : decide ((s[k].toNat : Int) ≤ 57) = false := by simp; omega
            have b3 : decide ((97 : Int) ≤ (s[k].toNat : Int)) = true := by simp; omega
            have b4 : decide ((s[k].toNat : Int) ≤ 102) = true := by simp; omega
            have HX := Lib.hid (show dv (s.toList.getD k 0) = s[k].toNat - 87 by rw [HDV.out, if_neg hd, if_pos ⟨hd1, hd2⟩])
            clear hd
            go_wp2_with ((with_reducible refine wpList_load_wordG ?_ 27 25 (.tmp 4) rfl Try.underlying27 winfo (w.heap.size + 1) (hxN s.toList k) ?_ ?_ ?_); (exact rfl); (exact rfl); (exact h1.out))
            refine (with_or (hxN s.toList k) ((s.size - 1 - k) * 4) (dv (s.toList.getD k 0)) _ _ (by omega) (by rw [HX.out]; omega) _ (by omega) HB.out).mono ?_
            rintro e w2 ⟨rfl, he2⟩
            rw [HS.out]
            have H0 := Lib.hid (Cs.ext h0.out he2)
            have H1 := Lib.hid (Wd.ext h1.out he2)
            have HE := Lib.hid (he.out.trans he2)
            clear he2 he h0 h1
            go_wp2_with (refine wpList_store_word rfl rfl 27 (.tmp 4) (.tmp 66) rfl winfo (w.heap.size + 1) (wc (hxN s.toList k)) _ rfl rfl H1.out rfl ?_; intro w4 k4 g4; have K4 := Lib.hid k4; have H04 := Lib.hid (Cs.kept H0.out g4 (some_ne (by omega))); have HE4 := Lib.hid (HE.out.grown g4 (by omega)); clear k4 g4)
            go_roundw
            case rel => exact ⟨k + 1, by omega, by go_num, Lib.hid (HA.out (by rw [HD.out]; simp only [decide_eq_true_eq]; omega)), H04, K4, HE4⟩
            case measure => simp [intOf]; omega
          · have HV := Lib.hid (HN.out (by rw [HD.out]; simp only [decide_eq_false_iff_not]; omega))
            clear HG HS HB HA HN HD HDV
            go_wp2_with (refine wpList_store_word rfl rfl 27 (.tmp 2) (.tmp 71) rfl winfo w.heap.size (wc 0) 0 rfl rfl h0.out rfl ?_; intro w4 k4 g4; have K4 := Lib.hid k4; have HE4 := Lib.hid (he.out.grown g4 (by omega)); clear k4 g4)
            all_goals
              try rw [Exit.noGoto_ret]
              exact bodyPost_ret (results_word_tmp Try.results35 _ _ w.heap.size _ rfl K4.out Try.underlying27 winfo) rfl ⟨by rw [HV.out]; rfl, HE4.out⟩
      · obtain rfl : k = s.size := by omega
        have HV := Lib.hid (parseV_ok s.toList HBad.out (by have := hall.out; rwa [← HL.out, List.take_length] at this))
        rw [← HL.out, hxN_all] at h1
        go_wp2_with (first
          | ((with_reducible refine wpList_load_wordG ?_ 27 25 (.tmp 4) rfl Try.underlying27 winfo (w.heap.size + 1) (hexN s.toList) ?_ ?_ ?_); (exact rfl); (exact rfl); (exact h1.out))
          | (refine wpList_store_word rfl rfl 27 (.tmp 2) (.tmp 72) rfl winfo w.heap.size (wc 0) _ rfl rfl h0.out rfl ?_; intro w4 k4 g4; have K4 := Lib.hid k4; have HE4 := Lib.hid (he.out.grown g4 (by omega)); clear k4 g4))
        try rw [Exit.noGoto_ret]
        exact bodyPost_ret (results_word_tmp Try.results35 _ _ w.heap.size _ rfl K4.out Try.underlying27 winfo) rfl ⟨by rw [HV.out]; rfl, HE4.out⟩
end Go.Proofs.Ytgmmkoahnednfaa
