/- The document's own answers of layer 2: Bit, bits, of. The document's own answers of layer 2: add, of two rows of bits. The document's own answers of layer 2: And, Or, Xor, Not. The document's own answers of layer 2: Not, Moves. The document's own answers of layer 2: Shl, Shr. -/
import Derived.Test.YtjefbfabigkeiaaDoorWrs
import Derived.Test.YtjefbfabigkeiaaDoorByt
import Derived.RegionTactic
import Derived.OwnWalk
import Derived.Deep.RegionHeld3
import Derived.WalkLawsBesides
import Derived.Test.YtjefbfabigkeiaaDoorInw
import Derived.Laws.OwnMore
namespace Go.Proofs.YtjefbfabigkeiaaDoor
open Go.RowKit

/-! ### Bits of a number -/
def bitN (n k : Nat) : Nat := n / 2 ^ k % 2
set_option maxRecDepth 100000 in
theorem bitN_lt (n k : Nat) : bitN n k < 2 := Nat.mod_lt _ (by decide)
set_option maxRecDepth 100000 in
theorem bitN_tb (n k : Nat) : bitN n k = if n.testBit k then 1 else 0 := by
  unfold bitN
  rw [Nat.testBit_eq_decide_div_mod_eq]
  have := Nat.mod_lt (n / 2 ^ k) (show 0 < 2 by decide)
  by_cases h : n / 2 ^ k % 2 = 1
  · rw [h]; rfl
  · rw [show n / 2 ^ k % 2 = 0 by omega]; rfl
set_option maxRecDepth 100000 in
theorem bitN_far (n k : Nat) (hn : n < M256) (hk : 256 ≤ k) : bitN n k = 0 := by rw [bitN_tb, tb_big n k hn hk]; rfl
set_option maxRecDepth 100000 in
theorem lb_bit (n k : Nat) : lb n (k / 64) / 2 ^ (k % 64) % 2 = bitN n k := by
  have h := lb_div n (k / 64) (k % 64) 1 (by omega)
  rw [Nat.pow_one] at h
  rw [h, Nat.div_add_mod]
  rfl

/-- The number of the first k bits of l. -/
def ofP (l : List Nat) : Nat → Nat
  | 0 => 0
  | k + 1 => if k < 256 ∧ l.getD k 0 = 1 then ofP l k ||| 2 ^ k else ofP l k
set_option maxRecDepth 100000 in
theorem ofP_tb (l : List Nat) (k j : Nat) : (ofP l k).testBit j = (decide (j < k) && decide (j < 256) && decide (l.getD j 0 = 1)) := by
  induction k with
  | zero => simp [ofP]
  | succ k ih =>
    unfold ofP
    by_cases h : k < 256 ∧ l.getD k 0 = 1
    · rw [if_pos h, Nat.testBit_or, ih, Nat.testBit_two_pow]
      by_cases hj : k = j
      · subst hj
        have e2 := h.2
        simp only [List.getD] at e2 ⊢
        simp [h.1, e2]
      · have e : decide (j < k + 1) = decide (j < k) := by
          by_cases h' : j < k
          · simp [h']; omega
          · have : ¬ j < k + 1 := by omega
            simp [h', this]
        simp [hj, e]
    · rw [if_neg h, ih]
      by_cases hj : k = j
      · subst hj
        by_cases h1 : k < 256
        · have : ¬ l.getD k 0 = 1 := fun h2 => h ⟨h1, h2⟩
          simp only [this, decide_false, Bool.and_false]
        · simp [h1]
      · have e : decide (j < k + 1) = decide (j < k) := by
          by_cases h' : j < k
          · simp [h']; omega
          · have : ¬ j < k + 1 := by omega
            simp [h', this]
        rw [e]
set_option maxRecDepth 100000 in
theorem ofP_lt (l : List Nat) (k : Nat) : ofP l k < M256 := by
  rw [M256_pow]
  refine Nat.lt_pow_two_of_testBit _ fun j hj => ?_
  rw [ofP_tb, show decide (j < 256) = false from decide_eq_false (by omega)]
  simp
/-- The number of bits, the least one first. -/
def ofN (l : List Nat) : Nat := ofP l l.length
set_option maxRecDepth 100000 in
theorem ofN_lt (l : List Nat) : ofN l < M256 := ofP_lt _ _
set_option maxRecDepth 100000 in
theorem ofN_tb (l : List Nat) (j : Nat) : (ofN l).testBit j = (decide (j < 256) && decide (l.getD j 0 = 1)) := by
  unfold ofN
  rw [ofP_tb]
  by_cases h : j < l.length
  · simp [h]
  · have : l.getD j 0 = 0 := by simp [List.getD, List.getElem?_eq_none (Nat.le_of_not_lt h)]
    simp only [this]
    simp
set_option maxRecDepth 100000 in
/-- A number below 2^256 is told by its bits. -/
theorem word_bits {a b : Nat} (ha : a < M256) (hb : b < M256) (h : ∀ j, j < 256 → a.testBit j = b.testBit j) : a = b := by
  apply Nat.eq_of_testBit_eq
  intro j
  by_cases hj : j < 256
  · exact h j hj
  · rw [tb_big a j ha (by omega), tb_big b j hb (by omega)]
/-- A word's bits. -/
def bitsL (n m : Nat) : List Nat := (List.range m).map (bitN n)
set_option maxRecDepth 100000 in
theorem bitsL_len (n m : Nat) : (bitsL n m).length = m := by simp [bitsL]
set_option maxRecDepth 100000 in
theorem bitsL_get (n m j : Nat) : (bitsL n m).getD j 0 = if j < m then bitN n j else 0 := by
  unfold bitsL
  by_cases h : j < m
  · simp [List.getD, h]
  · simp [List.getD, h]
set_option maxRecDepth 100000 in
theorem bitsL_succ (n m : Nat) : bitsL n (m + 1) = bitsL n m ++ [bitN n m] := by simp [bitsL, List.range_succ]

set_option maxRecDepth 100000 in
theorem u64_and_one (x : Nat) (hx : x < 18446744073709551616) : bits BinOp.and IntKind.u64 (x : Int) 1 = ((x % 2 : Nat) : Int) := by
  have h := u64_and_nat x 1 hx (by decide)
  rw [Nat.and_one_is_mod] at h
  exact h

set_option maxRecDepth 100000 in
set_option maxHeartbeats 400000 in
theorem bit_any (n k : Nat) (w : World) (hn : n < M256) (hk : k < 9223372036854775807) :
    Calls Tryd.prog 65 #[wv n, .int .i64 k] w fun e w' => e = .returned (.int .i64 (bitN n k : Nat)) ∧ Ext w w' := by
  have h0 : decide ((k : Int) < 0) = false := by simp
  have HE := Lib.hid (((Ext.refl w).alloc (.cells (wc n) 36)))
  by_cases hb : k < 256
  · have h1 : decide ((255 : Int) < (k : Int)) = false := by simp; omega
    have hw : Wd (w.alloc (.cells (wc n) 36)) w.heap.size 36 n := Cs.new w _ _ _ rfl
    have hc := hw.cell (k / 64) (by omega)
    have hl := lb_lt n (k / 64)
    have hd : lb n (k / 64) / 2 ^ (k % 64) < 18446744073709551616 := Nat.lt_of_le_of_lt (Nat.div_le_self _ _) hl
    have HI := Lib.hid (show bits BinOp.and IntKind.u64 (((lb n (k / 64) : Nat) : Int) / 2 ^ (k % 64)) 1 = ((bitN n k : Nat) : Int) by
      rw [show (((lb n (k / 64) : Nat) : Int) / 2 ^ (k % 64)) = ((lb n (k / 64) / 2 ^ (k % 64) : Nat) : Int) by simp, u64_and_one _ hd, lb_bit])
    have hbl := bitN_lt n k
    have a1 : (0 : Int) ≤ (k : Int) / 64 := by omega
    have a2 : (k : Int) / 64 < 4 := by omega
    have a3 : (0 : Int) ≤ (k : Int) % 64 := by omega
    have a4 : (k : Int) % 64 < 64 := by omega
    clear hw hb hd
    unfold wv
    go_enter Tryd.func65, Tryd.ntmps65
    go_wp2
    rw [HI.out]
    have hwr : wrap64 ((bitN n k : Nat) : Int) = ((bitN n k : Nat) : Int) := by unfold wrap64; omega
    go_ret
    exact ⟨ret_int hwr, HE.out⟩
  · have h1 : decide ((255 : Int) < (k : Int)) = true := by simp; omega
    have HZ := Lib.hid (bitN_far n k hn (by omega))
    clear hb
    unfold wv
    go_enter Tryd.func65, Tryd.ntmps65
    go_wp2
    go_ret
    exact ⟨by rw [HZ.out]; rfl, HE.out⟩

/-- The bits, so many of them, in a row of the call's own. -/
def RetI (w : World) (l : List Nat) (e : Ending) (w' : World) : Prop := ∃ v, e = .returned v ∧ OwnI w' w.heap.size 3 v l ∧ Ext w w'
set_option maxRecDepth 100000 in
theorem iinfo : (Tryd.prog.info? 3).map (fun i => (i.zero, i.size, i.bytes)) = some (some (.int .i64 0), 1, 8) := by kernel_rfl

set_option maxRecDepth 100000 in
theorem OwnI.snoc {w : World} {base : Nat} {e : TypeId} {v : Value} {l : List Nat} {x : Nat} (h : w.ownsRow base e 1 v (l.length + 1) (l.map iv ++ [iv x])) : OwnI w base e v (l ++ [x]) := by
  unfold OwnI
  rw [List.length_append, List.map_append]
  exact h
set_option maxRecDepth 100000 in
set_option maxHeartbeats 1000000 in
theorem bits_any (n m : Nat) (w : World) (hn : n < M256) (hm : m ≤ 1000) :
    Calls Tryd.prog 63 #[wv n, .int .i64 m] w (RetI w (bitsL n m)) := by
  have HN := Lib.hid hn
  clear hn
  unfold wv
  go_enter Tryd.func63, Tryd.ntmps63
  go_wp2
  go_loopw [5, 6, 8, 9, 10, 11, 12, 13, 14, 15, 16, 17] (fun v _ i _ _ _ _ _ _ _ _ _ wr => ∃ k : Nat, k ≤ m ∧ i = .int .i64 k ∧ Hid (Wd wr w.heap.size 36 n) ∧ Hid (OwnI wr (w.heap.size + 1) 3 v (bitsL n k)) ∧ Hid (Ext w wr)) (fun _ _ i _ _ _ _ _ _ _ _ _ _ => m - (intOf i).toNat)
  case atStart => exact ⟨0, by omega, rfl, Cs.new w _ _ _ rfl, World.ownsRow_nil _ _ _ _, (Ext.refl w).alloc _⟩
  case round =>
    obtain ⟨k, hk, rfl, h0, h1, he⟩ := hrel
    by_cases hlt : k < m
    · go_wp2_with ((with_reducible refine wpList_load_wordG ?_ 36 24 (.tmp 2) rfl Tryd.underlying36 winfo w.heap.size n ?_ ?_ ?_); (exact rfl); (exact rfl); (exact h0.out))
      refine (bit_any n k _ HN.out (by omega)).mono ?_
      rintro e w2 ⟨rfl, he2⟩
      have H0 := Lib.hid (Wd.ext h0.out he2)
      have H1 := Lib.hid (World.ownsRow.alloc (own_ext h1.out he2) (.cells #[.int .i64 (bitN n k : Nat)] 3))
      have HE := Lib.hid (he.out.trans he2)
      have hsz : w.heap.size + 1 ≤ w2.heap.size := by have := H0.out.lt; omega
      have HL := Lib.hid (bitsL_len n k)
      have HSU := Lib.hid (bitsL_succ n k)
      clear he2 he h0 h1
      go_wp2_with (refine wpList_append_row rfl (.tmp 11) (.tmp 15) 89 rfl (w.heap.size + 1) 3 Tryd.underlying89 (.int .i64 0) 1 8 iinfo rfl (by decide) u5 _ _ rfl H1.out _ 1 [iv (bitN n k)] rfl (Rs.new _ _ _ _ _ rfl (by decide)) (iv_one [bitN n k]) (by rw [HL.out]; omega) (by decide) (by simp; omega) ?_; intro v' w3 ho3 hg3 _; have H3 := Lib.hid (OwnI.snoc ho3); have HE3 := Lib.hid ((HE.out.alloc _).appendR (own_mono H1.out (by omega)) hg3); have H03 := Lib.hid (own_block H1.out hg3 (by omega) ((H0.out.cs.alloc _).wd)); clear ho3 hg3)
      rw [← HSU.out] at H3
      go_roundw
      case rel => exact ⟨k + 1, by omega, by go_num, H03, H3, HE3⟩
      case measure => simp [intOf]; omega
    · obtain rfl : k = m := by omega
      go_wp2
      go_ret
      exact ⟨_, rfl, own_mono h1.out (by omega), he.out⟩

set_option maxRecDepth 100000 in
set_option maxHeartbeats 1000000 in
theorem of_bits (v : Value) (l : List Nat) (w : World) (h : Rs w 1 v l.length (l.map iv)) (hlen : l.length ≤ 1000000) :
    Calls Tryd.prog 64 #[v] w fun e w' => e = .returned (wv (ofN l)) ∧ Ext w w' := by
  obtain ⟨_, A, c, rfl, hnc, hcm, hcell⟩ := h
  unfold maxLen at hcm
  have HC := Lib.hid hcell
  clear hcell
  go_enter Tryd.func64, Tryd.ntmps64
  go_wp2
  go_loopw [4, 5, 8, 9, 10, 11, 12, 13, 14, 15, 16, 17, 18, 19, 20, 21, 22, 23, 24, 25, 26, 27, 28] (fun _ _ i _ _ _ _ _ _ _ _ _ _ _ _ _ _ _ _ _ _ _ _ wr => ∃ k : Nat, k ≤ l.length ∧ i = .int .i64 k ∧ Hid (Cs wr w.heap.size 36 (wc 0)) ∧ Hid (Wd wr (w.heap.size + 1) 36 (ofP l k)) ∧ Hid (Ext w wr)) (fun _ _ i _ _ _ _ _ _ _ _ _ _ _ _ _ _ _ _ _ _ _ _ _ => l.length - (intOf i).toNat)
  case atStart => exact ⟨0, by omega, rfl, heap_alloc2_old _ _ _, (show Wd _ (w.heap.size + 1) 36 0 from heap_alloc2_new _ _ _), ((Ext.refl w).alloc _).alloc _⟩
  case round =>
    obtain ⟨k, hk, rfl, h0, h1, he⟩ := hrel
    by_cases hlt : k < l.length
    · obtain ⟨b, o, rfl, hc⟩ := HC.out (by omega)
      have hcell := he.out.cell (hc k (iv (l.getD k 0)) (by simp [List.getD, List.getElem?_eq_getElem hlt]))
      unfold iv at hcell
      clear hc
      have HSt := Lib.hid (show ofP l (k + 1) = if k < 256 ∧ l.getD k 0 = 1 then ofP l k ||| 2 ^ k else ofP l k from rfl)
      by_cases hk6 : k < 256
      · have hd6 : decide ((k : Int) < 256) = true := by simp; omega
        by_cases hx : l.getD k 0 = 1
        · rw [hx] at hcell
          have hadd := wc_or (ofP l k) (k / 64) (1 * 2 ^ (k % 64)) (by omega) (by
            have : (2 : Nat) ^ (k % 64) ≤ 2 ^ 63 := Nat.pow_le_pow_right (by decide) (by omega)
            omega)
          have hval : 1 * 2 ^ (k % 64) * 18446744073709551616 ^ (k / 64) = 2 ^ k := by
            rw [show (18446744073709551616 : Nat) = 2 ^ 64 from rfl, ← Nat.pow_mul, Nat.mul_assoc, ← Nat.pow_add, Nat.one_mul]
            congr 1
            omega
          rw [hval] at hadd
          have HA := Lib.hid hadd
          have hpl : (2 : Nat) ^ (k % 64) < 18446744073709551616 := by
            have : (2 : Nat) ^ (k % 64) ≤ 2 ^ 63 := Nat.pow_le_pow_right (by decide) (by omega)
            omega
          have hp0 : 0 < (2 : Nat) ^ (k % 64) := Nat.two_pow_pos _
          have HI := Lib.hid (show bits BinOp.or IntKind.u64 ((lb (ofP l k) (k / 64) : Nat) : Int) (IntKind.u64.wrap ((2 : Int) ^ (k % 64))) = ((lb (ofP l k) (k / 64) ||| 1 * 2 ^ (k % 64) : Nat) : Int) by
            rw [show ((2 : Int) ^ (k % 64)) = ((2 ^ (k % 64) : Nat) : Int) by simp, IntWalk.u64_in _ (by omega), u64_or_nat _ _ (lb_lt _ _) hpl, Nat.one_mul])
          rw [if_pos ⟨hk6, hx⟩] at HSt
          have hc := h1.out.cell (k / 64) (by omega)
          have hf := h1.out.frozen (k / 64)
          have a1 : (0 : Int) ≤ (k : Int) / 64 := by omega
          have a2 : (k : Int) / 64 < 4 := by omega
          have a3 : (0 : Int) ≤ (k : Int) % 64 := by omega
          have a4 : (k : Int) % 64 < 64 := by omega
          have hb := lb_lt (ofP l k) (k / 64)
          clear hadd hval hpl hp0 hx hk6
          go_wp2
          go_region
          rw [HI.out]
          have H1 : Hid (Wd (wr.setCell ⟨w.heap.size + 1, k / 64, none⟩ (lv (lb (ofP l k) (k / 64) ||| 1 * 2 ^ (k % 64)))).drew (w.heap.size + 1) 36 (ofP l (k + 1))) := by
            have := h1.out.cs.set (k / 64) (lv (lb (ofP l k) (k / 64) ||| 1 * 2 ^ (k % 64)))
            rw [HA.out, ← HSt.out] at this
            exact this
          have H0 := Lib.hid (h0.out.kept (grown_drew (grown_set wr (w.heap.size + 1) (k / 64) (lv (lb (ofP l k) (k / 64) ||| 1 * 2 ^ (k % 64))))) (some_ne (by omega)))
          have HE := Lib.hid ((he.out.grown (grown_set wr (w.heap.size + 1) (k / 64) (lv (lb (ofP l k) (k / 64) ||| 1 * 2 ^ (k % 64)))) (by omega)).drew)
          rw [Nat.one_mul] at H0 H1 HE
          unfold lv at H0 H1 HE
          clear h0 h1 he hc hf hcell HI HA HSt
          go_wp2
          go_roundw
          case rel => exact ⟨k + 1, by omega, by go_num, H0, H1, HE⟩
          case measure => simp [intOf]; omega
        · have hb : (((l.getD k 0 : Nat) : Int) == 1) = false := by simp only [beq_eq_false_iff_ne]; omega
          rw [if_neg (fun e => hx e.2)] at HSt
          clear hx
          generalize l.getD k 0 = x at *
          go_wp2
          go_roundw
          case rel => exact ⟨k + 1, by omega, by go_num, h0, by rw [HSt.out]; exact h1, he⟩
          case measure => simp [intOf]; omega
      · have hd6 : decide ((k : Int) < 256) = false := by simp; omega
        rw [if_neg (fun e => hk6 e.1)] at HSt
        clear hk6
        generalize l.getD k 0 = x at *
        go_wp2
        go_roundw
        case rel => exact ⟨k + 1, by omega, by go_num, h0, by rw [HSt.out]; exact h1, he⟩
        case measure => simp [intOf]; omega
    · obtain rfl : k = l.length := by omega
      have H1 := Lib.hid (show Wd wr (w.heap.size + 1) 36 (ofN l) from h1.out)
      clear h1
      go_wp2_with (first
        | ((with_reducible refine wpList_load_wordG ?_ 36 24 (.tmp 3) rfl Tryd.underlying36 winfo (w.heap.size + 1) (ofN l) ?_ ?_ ?_); (exact rfl); (exact rfl); (exact H1.out))
        | (refine wpList_store_word rfl rfl 36 (.tmp 2) (.tmp 29) rfl winfo w.heap.size (wc 0) _ rfl rfl h0.out rfl ?_; intro w4 k4 g4; have K4 := Lib.hid k4; have HE4 := Lib.hid (he.out.grown g4 (by omega)); clear k4 g4))
      exact bodyPost_ret (results_word Tryd.results64 _ _ w.heap.size _ rfl K4.out Tryd.underlying36 winfo) rfl ⟨rfl, HE4.out⟩
end Go.Proofs.YtjefbfabigkeiaaDoor
namespace Go.Proofs.YtjefbfabigkeiaaDoor
open Go.RowKit

/-- The carry behind k bits. -/
def carN (a b k : Nat) : Nat := (a % 2 ^ k + b % 2 ^ k) / 2 ^ k
/-- What stands at the place k: both bits, and the carry. -/
def sumN (a b k : Nat) : Nat := bitN a k + bitN b k + carN a b k
set_option maxRecDepth 100000 in
theorem carN_zero (a b : Nat) : carN a b 0 = 0 := by simp [carN, Nat.mod_one]
set_option maxRecDepth 100000 in
theorem carN_lt (a b k : Nat) : carN a b k < 2 := by
  unfold carN
  have h1 := Nat.mod_lt a (Nat.two_pow_pos k)
  have h2 := Nat.mod_lt b (Nat.two_pow_pos k)
  exact Nat.div_lt_of_lt_mul (by omega)
set_option maxRecDepth 100000 in
theorem mod_split (a k : Nat) : a % 2 ^ (k + 1) = a % 2 ^ k + 2 ^ k * bitN a k := by
  unfold bitN
  rw [Nat.pow_succ, Nat.mod_mul]
set_option maxRecDepth 100000 in
theorem carN_succ (a b k : Nat) : carN a b (k + 1) = sumN a b k / 2 := by
  unfold carN sumN
  rw [mod_split, mod_split, Nat.pow_succ, ← Nat.div_div_eq_div_mul]
  congr 1
  have h := Nat.two_pow_pos k
  rw [show a % 2 ^ k + 2 ^ k * bitN a k + (b % 2 ^ k + 2 ^ k * bitN b k) = (a % 2 ^ k + b % 2 ^ k) + 2 ^ k * (bitN a k + bitN b k) by rw [Nat.mul_add]; omega, Nat.add_mul_div_left _ _ h]
  unfold carN
  omega
set_option maxRecDepth 100000 in
theorem bitN_add (a b k : Nat) : bitN (a + b) k = sumN a b k % 2 := by
  unfold sumN
  have h := Nat.two_pow_pos k
  have e : (a + b) / 2 ^ k = carN a b k + (a / 2 ^ k + b / 2 ^ k) := by
    unfold carN
    conv => lhs; rw [← Nat.div_add_mod a (2 ^ k), ← Nat.div_add_mod b (2 ^ k)]
    rw [show 2 ^ k * (a / 2 ^ k) + a % 2 ^ k + (2 ^ k * (b / 2 ^ k) + b % 2 ^ k) = (a % 2 ^ k + b % 2 ^ k) + 2 ^ k * (a / 2 ^ k + b / 2 ^ k) by rw [Nat.mul_add]; omega, Nat.add_mul_div_left _ _ h]
  have e2 : bitN (a + b) k = (a + b) / 2 ^ k % 2 := rfl
  rw [e2, e]
  unfold bitN
  omega
set_option maxRecDepth 100000 in
theorem carN_top (a b m : Nat) (ha : a < 2 ^ m) (hb : b < 2 ^ m) : carN a b m = bitN (a + b) m := by
  unfold carN bitN
  rw [Nat.mod_eq_of_lt ha, Nat.mod_eq_of_lt hb, Nat.mod_eq_of_lt (Nat.div_lt_of_lt_mul (by omega))]

set_option maxRecDepth 100000 in
set_option maxHeartbeats 2000000 in
theorem refadd_any (u v : Value) (a b m : Nat) (w : World) (hu : Rs w 1 u m ((bitsL a m).map iv)) (hv : Rs w 1 v m ((bitsL b m).map iv)) (ha : a < 2 ^ m) (hb : b < 2 ^ m) (hm0 : 0 < m) (hm : m ≤ 1000) :
    Calls Tryd.prog 62 #[u, v] w (RetI w (bitsL (a + b) (m + 1))) := by
  obtain ⟨_, A, c, rfl, hc1, hc2, hcu⟩ := hu
  obtain ⟨_, B, d, rfl, hd1, hd2, hcv⟩ := hv
  obtain ⟨bu, ou, rfl, hcu2⟩ := hcu hm0
  obtain ⟨bv', ov, rfl, hcv2⟩ := hcv hm0
  unfold maxLen at hc2 hd2
  have HU := Lib.hid hcu2
  have HV := Lib.hid hcv2
  have HT := Lib.hid (carN_top a b m ha hb)
  clear hcu hcv hcu2 hcv2 ha hb
  go_enter Tryd.func62, Tryd.ntmps62
  go_wp2_with fail
  go_loopw [5, 6, 7, 8, 11, 12, 13, 14, 15, 16, 17, 18, 19, 20, 21, 22, 23, 24, 25, 26, 27, 28, 29, 30, 31, 32] (fun o c _ _ i _ _ _ _ _ _ _ _ _ _ _ _ _ _ _ _ _ _ _ _ _ wr => ∃ k : Nat, k ≤ m ∧ i = .int .i64 k ∧ c = .int .i64 (carN a b k : Nat) ∧ Hid (OwnI wr w.heap.size 3 o (bitsL (a + b) k)) ∧ Hid (Ext w wr)) (fun _ _ _ _ i _ _ _ _ _ _ _ _ _ _ _ _ _ _ _ _ _ _ _ _ _ _ => m - (intOf i).toNat)
  case atStart => exact ⟨0, by omega, rfl, by rw [carN_zero]; rfl, World.ownsRow_nil _ _ _ _, Ext.refl w⟩
  case round =>
    obtain ⟨k, hk, rfl, rfl, HO, HE⟩ := hrel
    by_cases hlt : k < m
    · have g1 : wr.cell? ⟨bu, ou + k, none⟩ = some (.int .i64 (bitN a k : Nat)) := HE.out.cell (HU.out k (iv (bitN a k)) (by simp [bitsL, hlt]))
      have g2 : wr.cell? ⟨bv', ov + k, none⟩ = some (.int .i64 (bitN b k : Nat)) := HE.out.cell (HV.out k (iv (bitN b k)) (by simp [bitsL, hlt]))
      have x1 := bitN_lt a k
      have x2 := bitN_lt b k
      have x3 := carN_lt a b k
      have hm1 : IntKind.i64.wrap ((bitN a k : Int) + (bitN b k : Int)) = (bitN a k : Int) + (bitN b k : Int) := IntWalk.i64_in _ (by omega)
      have hm2 : IntKind.i64.wrap ((bitN a k : Int) + (bitN b k : Int) + (carN a b k : Int)) = ((sumN a b k : Nat) : Int) := by
        rw [IntWalk.i64_in _ (by omega)]
        unfold sumN
        omega
      have hs4 : sumN a b k < 4 := by unfold sumN; omega
      have i1 : (0 : Int) ≤ (k : Int) := by omega
      have i2 : (k : Int) < (m : Int) := by omega
      have HSU := Lib.hid (bitsL_succ (a + b) k)
      have HL := Lib.hid (bitsL_len (a + b) k)
      have HB := Lib.hid (bitN_add a b k)
      have HCS := Lib.hid (carN_succ a b k)
      have hsz : w.heap.size ≤ wr.heap.size := HE.out.size
      clear hlt
      go_wp2_with fail
      go_region_held3 (fun w' => w'.cell? ⟨bu, ou + k, none⟩ = some (.int .i64 (bitN a k : Nat)) ∧ w'.cell? ⟨bv', ov + k, none⟩ = some (.int .i64 (bitN b k : Nat))) (exact ⟨g1, g2⟩) (fail)
      clear g1 g2 hm1 hm2
      have HO := Lib.hid (show OwnI wr.drew _ _ _ _ from own_ext HO.out (Ext.refl wr).drew)
      have HE := Lib.hid HE.out.drew
      have hsz : w.heap.size ≤ wr.drew.heap.size := hsz
      generalize sumN a b k = x at *
      have HW := Lib.hid (show [Value.int .i64 ((x : Int) % 2)] = [iv (bitN (a + b) k)] by unfold iv; rw [HB.out]; simp)
      have HO2 := Lib.hid (World.ownsRow.alloc HO.out (.cells #[.int .i64 ((x : Int) % 2)] 3))
      have HE2 := Lib.hid (HE.out.alloc (.cells #[.int .i64 ((x : Int) % 2)] 3))
      clear HO HE HB
      go_wp2_with (refine wpList_append_row rfl (.tmp 25) (.tmp 28) 89 rfl w.heap.size 3 Tryd.underlying89 (.int .i64 0) 1 8 iinfo rfl (by decide) u5 _ _ rfl HO2.out _ 1 [.int .i64 ((x : Int) % 2)] rfl (Rs.new _ _ _ _ _ rfl (by decide)) (by rw [HW.out]; exact iv_one [bitN (a + b) k]) (by rw [HL.out]; omega) (by decide) (by simp; omega) ?_; intro v' w3 ho3 hg3 _; rw [HW.out] at ho3; have H3 := Lib.hid (OwnI.snoc ho3); have HE3 := Lib.hid (HE2.out.appendR HO2.out hg3); clear ho3 hg3)
      rw [← HSU.out] at H3
      go_roundw
      case rel => exact ⟨k + 1, by omega, by go_num, by rw [HCS.out]; simp, H3, HE3⟩
      case measure => simp [intOf]; omega
    · obtain rfl : k = m := by omega
      have HW := Lib.hid (show [Value.int .i64 (carN a b k : Nat)] = [iv (bitN (a + b) k)] by unfold iv; rw [HT.out])
      have HO2 := Lib.hid (World.ownsRow.alloc HO.out (.cells #[.int .i64 (carN a b k : Nat)] 3))
      have HE2 := Lib.hid (HE.out.alloc (.cells #[.int .i64 (carN a b k : Nat)] 3))
      have HSU := Lib.hid (bitsL_succ (a + b) k)
      have HL := Lib.hid (bitsL_len (a + b) k)
      have hsz : w.heap.size ≤ wr.heap.size := HE.out.size
      clear HO HE HT
      go_wp2_with (refine wpList_append_row rfl (.tmp 33) (.tmp 35) 89 rfl w.heap.size 3 Tryd.underlying89 (.int .i64 0) 1 8 iinfo rfl (by decide) u5 _ _ rfl HO2.out _ 1 [.int .i64 (carN a b k : Nat)] rfl (Rs.new _ _ _ _ _ rfl (by decide)) (by rw [HW.out]; exact iv_one [bitN (a + b) k]) (by rw [HL.out]; omega) (by decide) (by simp; omega) ?_; intro v' w3 ho3 hg3 _; rw [HW.out] at ho3; have H3 := Lib.hid (OwnI.snoc ho3); have HE3 := Lib.hid (HE2.out.appendR HO2.out hg3); clear ho3 hg3)
      rw [← HSU.out] at H3
      go_ret
      exact ⟨_, rfl, H3.out, HE3.out⟩
end Go.Proofs.YtjefbfabigkeiaaDoor
namespace Go.Proofs.YtjefbfabigkeiaaDoor
open Go.RowKit

/-- The first k answers of f. -/
def mapL (f : Nat → Nat) (k : Nat) : List Nat := (List.range k).map f
set_option maxRecDepth 100000 in
theorem mapL_len (f : Nat → Nat) (k : Nat) : (mapL f k).length = k := by simp [mapL]
set_option maxRecDepth 100000 in
theorem mapL_succ (f : Nat → Nat) (k : Nat) : mapL f (k + 1) = mapL f k ++ [f k] := by simp [mapL, List.range_succ]
set_option maxRecDepth 100000 in
theorem mapL_get (f : Nat → Nat) (k j : Nat) (h : j < k) : (mapL f k).getD j 0 = f j := by simp [mapL, List.getD, h]
set_option maxRecDepth 100000 in
theorem ofN_mapL (f : Nat → Nat) (j : Nat) (h : j < 256) : (ofN (mapL f 256)).testBit j = decide (f j = 1) := by
  rw [ofN_tb, mapL_get f 256 j h]
  simp [h]
def xorB (x y : Nat) : Nat := (x + y) % 2
set_option maxRecDepth 100000 in
theorem Ks.grownOwn {w : World} {l : List (Nat × Nat)} {W W' : World} {base s n : Nat} {e : TypeId} {v : Value} {cs : List Value} (h : Ks w l W) (ho : W.ownsRow base e s v n cs) (k : W.grownBy W' v.ownBlock) (hw : w.heap.size ≤ base) (hl : ∀ x ∈ l, x.1 < base) : Ks w l W' :=
  ⟨fun x hx => own_block ho k (hl x hx) (h.1 x hx), Below.grown h.2 k h.2.size (fun j hj => Nat.le_trans hw (ho.lt j hj).1)⟩

end Go.Proofs.YtjefbfabigkeiaaDoor
namespace Go.Proofs.YtjefbfabigkeiaaDoor
open Go.RowKit

set_option maxRecDepth 100000 in
theorem lbs_zero (n : Nat) (h : n < 18446744073709551616) : lb n 0 = n ∧ lb n 1 = 0 ∧ lb n 2 = 0 ∧ lb n 3 = 0 := by
  rw [lb0, lb1, lb2, lb3]
  omega
set_option maxRecDepth 100000 in
theorem lbs_sum (n : Nat) (hn : n < M256) (h1 : lb n 1 = 0) (h2 : lb n 2 = 0) (h3 : lb n 3 = 0) : lb n 0 = n := by
  unfold M256 at hn
  rw [lb1] at h1
  rw [lb2] at h2
  rw [lb3] at h3
  rw [lb0]
  omega
end Go.Proofs.YtjefbfabigkeiaaDoor
namespace Go.Proofs.YtjefbfabigkeiaaDoor
open Go.RowKit

set_option maxRecDepth 100000 in
theorem bitsL_own (a : Nat) (w : World) (ha : a < M256) : Calls Tryd.prog 63 #[wv a, .int .i64 256] w (RetI w (bitsL a 256)) := bits_any a 256 w ha (by omega)

set_option maxRecDepth 100000 in
/-- make([]int, n). -/
theorem run_make_ints (n : Nat) (w : World) (hn : n ≤ 1000) : (Instr.makeSlice 89 (.int .i64 (n : Int)) (.int .i64 (n : Int))).run Tryd.prog w = .ok (.slice (some ⟨w.heap.size, 0, none⟩) n n) (w.alloc (.cells (Array.replicate n (iv 0)) 3)) := by
  obtain ⟨i0, hi, hz0, hz1, hz2⟩ := info_parts iinfo
  have hr := run_make (P := Tryd.prog) w 89 3 i0 (.int .i64 0) Tryd.underlying89 hi hz0 .i64 .i64 n n (by omega) (by omega) (by rw [hz2]; omega) (by omega)
  rw [hr]
  simp only [Int.toNat_natCast]
  congr 3
  rw [hz1]
  apply Array.toList_inj.1
  have hm := toList_madeCells_one (.int .i64 0) (n * 1)
  have e : Value.cells (.int .i64 0) = #[.int .i64 0] := rfl
  rw [e, hm]
  simp [iv]

/-- What the way to Shl keeps. -/
def ShI (w : World) (a n R : Nat) (V : Nat → Value) (L : Nat → Bool) (W : World) : Prop :=
  Wd W w.heap.size 36 a ∧ Ext w W ∧ w.heap.size + 2 ≤ W.heap.size ∧ (∃ cs, Cs W (w.heap.size + 1) 36 cs ∧ cs.size = 4 ∧ (L 6 = true → cs = wc R)) ∧
    (L 0 = true → V 0 = .int .i64 (n : Int)) ∧ (L 1 = true → L 4 = false → OwnI W (w.heap.size + 2) 3 (V 1) (List.replicate n 0)) ∧ (L 2 = true → V 2 = wv a) ∧
    (L 3 = true → L 4 = false → Rs W 1 (V 3) 256 ((bitsL a 256).map iv)) ∧ (L 4 = true → L 5 = false → OwnI W (w.heap.size + 2) 3 (V 4) (List.replicate n 0 ++ bitsL a 256)) ∧ (L 5 = true → V 5 = wv R)
set_option maxRecDepth 100000 in
theorem more_no {L : Nat → Bool} {i j : Nat} (h : More L i j = false) (hne : (j == i) = false) : L j = false := by
  unfold More at h
  rwa [if_neg (by simpa using hne)] at h
set_option maxRecDepth 100000 in
theorem ShI.ext {w : World} {a n R : Nat} {V : Nat → Value} {L : Nat → Bool} {W W' : World} (h : ShI w a n R V L W) (he : Ext W W') : ShI w a n R V L W' := by
  obtain ⟨h1, h2, h3, ⟨cs, h4, h5, h6⟩, h7, h8, h9, h10, h11, h12⟩ := h
  exact ⟨h1.ext he, h2.trans he, Nat.le_trans h3 he.size, ⟨cs, h4.ext he, h5, h6⟩, h7, fun x y => own_ext (h8 x y) he, h9, fun x y => (h10 x y).ext he, fun x y => own_ext (h11 x y) he, h12⟩
set_option maxRecDepth 100000 in
/-- A value is put in its place, and is what it must be. -/
theorem ShI.up {w : World} {a n R : Nat} {V : Nat → Value} {L : Nat → Bool} {W : World} (h : ShI w a n R V L W) (i : Nat) (x : Value) (hi6 : i ≠ 6) (hL : i = 4 → L 5 = false → OwnI W (w.heap.size + 2) 3 x (List.replicate n 0 ++ bitsL a 256))
    (h0 : i = 0 → x = .int .i64 (n : Int)) (h1 : i = 1 → L 4 = false → OwnI W (w.heap.size + 2) 3 x (List.replicate n 0)) (h2 : i = 2 → x = wv a) (h3 : i = 3 → L 4 = false → Rs W 1 x 256 ((bitsL a 256).map iv)) (h5 : i = 5 → x = wv R) :
    ShI w a n R (upd V i x) (More L i) W := by
  obtain ⟨k1, k2, k3, ⟨cs, k4, k5, k6⟩, k7, k8, k9, k10, k11, k12⟩ := h
  have U : ∀ j, upd V i x j = if j = i then x else V j := fun j => rfl
  have M : ∀ j, More L i j = if j = i then true else L j := fun j => rfl
  refine ⟨k1, k2, k3, ⟨cs, k4, k5, fun e => k6 (by rw [M, if_neg (Ne.symm hi6)] at e; exact e)⟩, ?_, ?_, ?_, ?_, ?_, ?_⟩
  all_goals
    rw [U]
    simp only [M]
  · by_cases e : 0 = i
    · rw [if_pos e, if_pos e]; exact fun _ => h0 e.symm
    · rw [if_neg e, if_neg e]; exact k7
  · by_cases e : 1 = i
    · rw [if_pos e]; subst e; exact fun _ y => h1 rfl (by simpa using y)
    · rw [if_neg e, if_neg e]
      intro y z
      refine k8 y ?_
      by_cases e4 : 4 = i
      · rw [if_pos e4] at z; cases z
      · rwa [if_neg e4] at z
  · by_cases e : 2 = i
    · rw [if_pos e, if_pos e]; exact fun _ => h2 e.symm
    · rw [if_neg e, if_neg e]; exact k9
  · by_cases e : 3 = i
    · rw [if_pos e]; subst e; exact fun _ y => h3 rfl (by simpa using y)
    · rw [if_neg e, if_neg e]
      intro y z
      refine k10 y ?_
      by_cases e4 : 4 = i
      · rw [if_pos e4] at z; cases z
      · rwa [if_neg e4] at z
  · by_cases e : 4 = i
    · rw [if_pos e]; subst e; exact fun _ y => hL rfl (by simpa using y)
    · rw [if_neg e, if_neg e]
      intro y z
      refine k11 y ?_
      by_cases e5 : 5 = i
      · rw [if_pos e5] at z; cases z
      · rwa [if_neg e5] at z
  · by_cases e : 5 = i
    · rw [if_pos e, if_pos e]; exact fun _ => h5 e.symm
    · rw [if_neg e, if_neg e]; exact k12

set_option maxRecDepth 100000 in
theorem and_ref (a b : Nat) (hb : b < M256) : ofN (mapL (fun j => bitN a j * bitN b j) 256) = andN a b := by
  refine word_bits (ofN_lt _) (andN_lt a b hb) fun j hj => ?_
  rw [ofN_mapL _ j hj, bitN_tb, bitN_tb]
  unfold andN
  rw [Nat.testBit_and]
  cases a.testBit j <;> cases b.testBit j <;> rfl
set_option maxRecDepth 100000 in
theorem or_ref (a b : Nat) (ha : a < M256) (hb : b < M256) : ofN (mapL (fun j => max (bitN a j) (bitN b j)) 256) = orN a b := by
  refine word_bits (ofN_lt _) (orN_lt a b ha hb) fun j hj => ?_
  rw [ofN_mapL _ j hj, bitN_tb, bitN_tb]
  unfold orN
  rw [Nat.testBit_or]
  cases a.testBit j <;> cases b.testBit j <;> rfl
set_option maxRecDepth 100000 in
theorem xor_ref (a b : Nat) (ha : a < M256) (hb : b < M256) : ofN (mapL (fun j => xorB (bitN a j) (bitN b j)) 256) = xorN a b := by
  refine word_bits (ofN_lt _) (xorN_lt a b ha hb) fun j hj => ?_
  rw [ofN_mapL _ j hj, bitN_tb, bitN_tb]
  unfold xorN
  rw [Nat.testBit_xor]
  cases a.testBit j <;> cases b.testBit j <;> rfl
set_option maxRecDepth 100000 in
theorem not_ref (a : Nat) (ha : a < M256) : ofN (mapL (fun j => 1 - bitN a j) 256) = notN a := by
  refine word_bits (ofN_lt _) (notN_lt a) fun j hj => ?_
  rw [ofN_mapL _ j hj, bitN_tb]
  unfold notN
  rw [show M256 - 1 - a = 2 ^ 256 - (a + 1) by rw [← M256_pow]; omega, Nat.testBit_two_pow_sub_succ (by rw [← M256_pow]; exact ha)]
  cases a.testBit j <;> simp [hj]
set_option maxRecDepth 100000 in
theorem shl_ref (a n : Nat) : ofN (List.replicate (min n 256) 0 ++ bitsL a 256) = shlN a n := by
  refine word_bits (ofN_lt _) (shlN_lt a n) fun j hj => ?_
  rw [ofN_tb]
  have e : (List.replicate (min n 256) 0 ++ bitsL a 256).getD j 0 = if j < min n 256 then 0 else bitN a (j - min n 256) := by
    rw [List.getD_eq_getElem?_getD, List.getElem?_append]
    by_cases h : j < min n 256
    · rw [if_pos (by rw [List.length_replicate]; exact h), if_pos h, List.getElem?_replicate, if_pos h]
      rfl
    · rw [if_neg (by rw [List.length_replicate]; exact h), if_neg h, List.length_replicate]
      have := bitsL_get a 256 (j - min n 256)
      rw [if_pos (by omega)] at this
      rw [← this, List.getD_eq_getElem?_getD]
  rw [e]
  unfold shlN
  by_cases hn : n < 256
  · rw [if_pos hn, M256_pow, Nat.testBit_mod_two_pow, Nat.testBit_mul_two_pow, show min n 256 = n by omega]
    by_cases h : j < n
    · rw [if_pos h]
      simp [hj]; omega
    · rw [if_neg h, bitN_tb]
      have : n ≤ j := by omega
      cases a.testBit (j - n) <;> simp [hj, this]
  · rw [if_neg hn, if_pos (by omega), Nat.zero_testBit]
    simp
set_option maxRecDepth 100000 in
theorem shr_ref (a n : Nat) (ha : a < M256) : ofN ((bitsL a 256).drop (min n 256)) = shrN a n := by
  refine word_bits (ofN_lt _) (shrN_lt a n ha) fun j hj => ?_
  rw [ofN_tb]
  have e : ((bitsL a 256).drop (min n 256)).getD j 0 = if min n 256 + j < 256 then bitN a (min n 256 + j) else 0 := by
    rw [List.getD_eq_getElem?_getD, List.getElem?_drop, ← List.getD_eq_getElem?_getD, bitsL_get]
  rw [e]
  unfold shrN
  by_cases hn : n < 256
  · rw [if_pos hn, Nat.testBit_div_two_pow, show min n 256 = n by omega]
    by_cases h : n + j < 256
    · rw [if_pos h, bitN_tb, Nat.add_comm]
      cases a.testBit (j + n) <;> simp [hj]
    · rw [if_neg h, tb_big a (j + n) ha (by omega)]
      simp
  · rw [if_neg hn, if_neg (by omega), Nat.zero_testBit]
    simp
end Go.Proofs.YtjefbfabigkeiaaDoor
