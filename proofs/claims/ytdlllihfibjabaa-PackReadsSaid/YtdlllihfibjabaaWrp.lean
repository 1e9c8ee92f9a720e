/- Contracts of package word: Read. -/
import Derived.Test.YtdlllihfibjabaaWrl
namespace Go.Proofs.Ytdlllihfibjabaa
open Go.RowKit

/-! ### Mathematics of bytes, the highest one first -/
/-- The number of bytes, the highest one first. -/
def beN (l : List UInt8) : Nat := l.foldl (fun n c => n * 256 + c.toNat) 0
set_option maxRecDepth 100000 in
theorem beN_snoc (l : List UInt8) (c : UInt8) : beN (l ++ [c]) = beN l * 256 + c.toNat := by simp [beN]
set_option maxRecDepth 100000 in
theorem beN_gen (l : List UInt8) : ∀ n, l.foldl (fun n c => n * 256 + c.toNat) n < (n + 1) * 256 ^ l.length := by
  induction l with
  | nil => intro n; simp
  | cons c l ih =>
    intro n
    have h := ih (n * 256 + c.toNat)
    have hc := c.toNat_lt
    rw [List.foldl_cons, List.length_cons, Nat.pow_succ, Nat.mul_comm (256 ^ l.length), ← Nat.mul_assoc]
    exact Nat.lt_of_lt_of_le h (Nat.mul_le_mul_right _ (by omega))
set_option maxRecDepth 100000 in
theorem beN_lt (l : List UInt8) : beN l < 256 ^ l.length := by
  have := beN_gen l 0
  simpa [beN] using this

/-- What Read has behind k bytes. -/
def rdN (l : List UInt8) (k : Nat) : Nat := beN (l.take k) * 256 ^ (l.length - k)
set_option maxRecDepth 100000 in
theorem rdN_zero (l : List UInt8) : rdN l 0 = 0 := by simp [rdN, beN]
set_option maxRecDepth 100000 in
theorem rdN_all (l : List UInt8) : rdN l l.length = beN l := by simp [rdN]
set_option maxRecDepth 100000 in
theorem take_snoc8 (l : List UInt8) (k : Nat) (h : k < l.length) : l.take (k + 1) = l.take k ++ [l.getD k 0] := by
  rw [List.take_succ_eq_append_getElem h]
  simp [List.getD, List.getElem?_eq_getElem h]
set_option maxRecDepth 100000 in
theorem rdN_step (l : List UInt8) (k : Nat) (h : k < l.length) : rdN l k ||| (l.getD k 0).toNat * 2 ^ ((l.length - 1 - k) * 8) = rdN l (k + 1) := by
  unfold rdN
  rw [take_snoc8 l k h, beN_snoc]
  obtain ⟨m, hm⟩ : ∃ m, l.length - k = m + 1 := ⟨l.length - k - 1, by omega⟩
  have e1 : l.length - (k + 1) = m := by omega
  have e2 : l.length - 1 - k = m := by omega
  have hp : (2 : Nat) ^ (m * 8) = 256 ^ m := by rw [Nat.mul_comm, Nat.pow_mul]
  rw [hm, e1, e2, hp, Nat.pow_succ]
  have hc := (l.getD k 0).toNat_lt
  generalize (l.getD k 0).toNat = c at *
  generalize beN (l.take k) = A
  have hlt : c * 256 ^ m < 2 ^ (m * 8 + 8) := by
    rw [Nat.pow_add, hp, Nat.mul_comm]
    exact Nat.mul_lt_mul_of_pos_left hc (Nat.pow_pos (by decide))
  have h3 := Nat.two_pow_add_eq_or_of_lt hlt A
  have e4 : A * (256 ^ m * 256) = 2 ^ (m * 8 + 8) * A := by rw [Nat.pow_add, hp, Nat.mul_comm]
  rw [e4, ← h3, Nat.pow_add, hp, Nat.add_mul, Nat.mul_assoc A 256, Nat.mul_comm 256, Nat.mul_comm A]
set_option maxRecDepth 100000 in
theorem rdN_lt (l : List UInt8) (k : Nat) (hk : k ≤ l.length) (hl : l.length ≤ 32) : rdN l k < M256 := by
  unfold rdN
  have h := beN_lt (l.take k)
  rw [List.length_take, Nat.min_eq_left hk] at h
  have h2 : beN (l.take k) * 256 ^ (l.length - k) < 256 ^ k * 256 ^ (l.length - k) := Nat.mul_lt_mul_of_pos_right h (Nat.pow_pos (by decide))
  rw [← Nat.pow_add, Nat.add_sub_cancel' hk] at h2
  refine Nat.lt_of_lt_of_le h2 ?_
  rw [M256_pow, show (256 : Nat) = 2 ^ 8 from rfl, ← Nat.pow_mul]
  exact Nat.pow_le_pow_right (by decide) (by omega)
set_option maxRecDepth 100000 in
theorem shift_fits (c m : Nat) (hc : c < 256) : c * 2 ^ (m * 8 % 64) < 18446744073709551616 := by
  have h1 : m * 8 % 64 ≤ 56 := by omega
  have h2 : (2 : Nat) ^ (m * 8 % 64) ≤ 2 ^ 56 := Nat.pow_le_pow_right (by decide) h1
  have h3 : c * 2 ^ (m * 8 % 64) ≤ 255 * 2 ^ 56 := Nat.mul_le_mul (by omega) h2
  omega

/-- What Read answers. -/
def readV (l : List UInt8) : Value := if l.length ≤ 32 then .tuple #[wv (beN l), .int .i64 0] else .tuple #[wv 0, .int .i64 3]

set_option maxRecDepth 100000 in
set_option maxHeartbeats 1000000 in
theorem read_any (v : Value) (l : List UInt8) (w : World) (h : Bs w v l) :
    Calls Try.prog 111 #[v] w fun e w' => e = .returned (readV l) ∧ Ext w w' := by
  obtain ⟨A, c, rfl, hlc, hcm, hcell⟩ := h
  unfold maxLen at hcm
  have HC := Lib.hid hcell
  clear hcell
  by_cases hl : l.length ≤ 32
  · have hgt : decide ((32 : Int) < (l.length : Int)) = false := by simp; omega
    have HV := Lib.hid (show readV l = .tuple #[wv (beN l), .int .i64 0] by unfold readV; rw [if_pos hl])
    go_enter Try.func111, Try.ntmps111
    go_wp2
    go_loopw [5, 6, 13, 14, 15, 16, 17, 18, 19, 20, 21, 22, 23, 24, 25, 26, 27, 28] (fun _ _ i _ _ _ _ _ _ _ _ _ _ _ _ _ _ _ wr => ∃ k : Nat, k ≤ l.length ∧ i = .int .i64 k ∧ Hid (Cs wr w.heap.size 46 (wc 0)) ∧ Hid (Wd wr (w.heap.size + 1) 46 (rdN l k)) ∧ Hid (Ext w wr)) (fun _ _ i _ _ _ _ _ _ _ _ _ _ _ _ _ _ _ _ => l.length - (intOf i).toNat)
    case atStart =>
      refine ⟨0, by omega, rfl, heap_alloc2_old _ _ _, ?_, ((Ext.refl w).alloc _).alloc _⟩
      rw [rdN_zero]
      exact heap_alloc2_new _ _ _
    case round =>
      obtain ⟨k, hk, rfl, h0, h1, he⟩ := hrel
      by_cases hlt : k < l.length
      · obtain ⟨b, o, rfl, hc⟩ := HC.out (by omega)
        have hcell := he.out.cell (hc k hlt)
        unfold bv at hcell
        clear hc
        have HS := Lib.hid (rdN_step l k hlt)
        have hcb := (l.getD k 0).toNat_lt
        have HB := Lib.hid (shift_fits (l.getD k 0).toNat (l.length - 1 - k) hcb)
        have HL := Lib.hid (rdN_lt l (k + 1) hlt hl)
        generalize (l.getD k 0).toNat = x at *
        go_wp2_with ((with_reducible refine wpList_load_wordG ?_ 46 44 (.tmp 4) rfl Try.underlying46 winfo (w.heap.size + 1) (rdN l k) ?_ ?_ ?_); (exact rfl); (exact rfl); (exact h1.out))
        refine (with_or (rdN l k) ((l.length - 1 - k) * 8) x _ _ (by omega) rfl _ (by omega) HB.out).mono ?_
        rintro e w2 ⟨rfl, he2⟩
        rw [HS.out]
        have H0 := Lib.hid (Cs.ext h0.out he2)
        have H1 := Lib.hid (Wd.ext h1.out he2)
        have HE := Lib.hid (he.out.trans he2)
        clear he2 he h0 h1 hcell
        go_wp2_with (refine wpList_store_word rfl rfl 46 (.tmp 4) (.tmp 27) rfl winfo (w.heap.size + 1) (wc (rdN l k)) _ rfl rfl H1.out rfl ?_; intro w4 k4 g4; have K4 := Lib.hid k4; have H04 := Lib.hid (Cs.kept H0.out g4 (some_ne (by omega))); have HE4 := Lib.hid (HE.out.grown g4 (by omega)); clear k4 g4)
        go_roundw
        case rel => exact ⟨k + 1, by omega, by go_num, H04, K4, HE4⟩
        case measure => simp [intOf]; omega
      · obtain rfl : k = l.length := by omega
        rw [rdN_all] at h1
        clear hlt hk
        go_wp2_with (first
          | ((with_reducible refine wpList_load_wordG ?_ 46 44 (.tmp 4) rfl Try.underlying46 winfo (w.heap.size + 1) (beN l) ?_ ?_ ?_); (exact rfl); (exact rfl); (exact h1.out))
          | (refine wpList_store_word rfl rfl 46 (.tmp 2) (.tmp 29) rfl winfo w.heap.size (wc 0) _ rfl rfl h0.out rfl ?_; intro w4 k4 g4; have K4 := Lib.hid k4; have HE4 := Lib.hid (he.out.grown g4 (by omega)); clear k4 g4))
        exact bodyPost_ret (results_word_tmp Try.results111 _ _ w.heap.size _ rfl K4.out Try.underlying46 winfo) rfl ⟨by rw [HV.out]; rfl, HE4.out⟩
  · have hgt : decide ((32 : Int) < (l.length : Int)) = true := by simp; omega
    have HV := Lib.hid (show readV l = .tuple #[wv 0, .int .i64 3] by unfold readV; rw [if_neg hl])
    go_enter Try.func111, Try.ntmps111
    go_wp2_with (refine wpList_store_word rfl rfl 46 (.tmp 2) (.tmp 10) rfl winfo w.heap.size (wc 0) 0 rfl rfl (Cs.new _ _ _ _ rfl) rfl ?_; intro w4 k4 g4; have K4 := Lib.hid k4; have HE4 := Lib.hid (((Ext.refl w).alloc _).grown g4 (by omega)); clear k4 g4)
    exact bodyPost_ret (results_word_tmp Try.results111 _ _ w.heap.size _ rfl K4.out Try.underlying46 winfo) rfl ⟨by rw [HV.out]; rfl, HE4.out⟩
end Go.Proofs.Ytdlllihfibjabaa
