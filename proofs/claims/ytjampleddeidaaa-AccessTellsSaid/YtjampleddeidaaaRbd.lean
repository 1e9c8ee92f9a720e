/- The document's own answers of layer 2: Bit, bits, of. The document's own answers of layer 2: add, of two rows of bits. The document's own answers of layer 2: And, Or, Xor, Not. The document's own answers of layer 2: Not, Moves. The document's own answers of layer 2: Shl, Shr. -/
import Derived.Test.YtjampleddeidaaaWrs
import Derived.Test.YtjampleddeidaaaByt
import Derived.RegionTactic
import Derived.OwnWalk
import Derived.Deep.RegionHeld3
import Derived.WalkLawsBesides
import Derived.Test.YtjampleddeidaaaInw
import Derived.Laws.OwnMore
namespace Go.Proofs.Ytjampleddeidaaa
open Go.RowKit

/-! ### Bits of a number -/
def bitN (n k : Nat) : Nat := n / 2 ^ k % 2
set_option maxRecDepth 100000 in
theorem bitN_lt (n k : Nat) : bitN n k < 2 := Nat.mod_lt _ (by decide)
set_option maxRecDepth 100000 in
theorem bitN_tb (n k : Nat) : bitN n k = if n.testBit k then 1 else 0 := by
  unfold bitN
  rw [Nat.testBit_eq_decide_div_mod_eq]
  have := Nat.mod_lt (n / 2 ^ k) (show 0 < 2 by decide)
  by_cases h : n / 2 ^ k % 2 = 1
  · rw [h]; rfl
  · rw [show n / 2 ^ k % 2 = 0 by omega]; rfl
set_option maxRecDepth 100000 in
theorem bitN_far (n k : Nat) (hn : n < M256) (hk : 256 ≤ k) : bitN n k = 0 := by rw [bitN_tb, tb_big n k hn hk]; rfl
set_option maxRecDepth 100000 in
theorem lb_bit (n k : Nat) : lb n (k / 64) / 2 ^ (k % 64) % 2 = bitN n k := by
  have h := lb_div n (k / 64) (k % 64) 1 (by omega)
  rw [Nat.pow_one] at h
  rw [h, Nat.div_add_mod]
  rfl

/-- The number of the first k bits of l. -/
def ofP (l : List Nat) : Nat → Nat
  | 0 => 0
  | k + 1 => if k < 256 ∧ l.getD k 0 = 1 then ofP l k ||| 2 ^ k else ofP l k
set_option maxRecDepth 100000 in
theorem ofP_tb (l : List Nat) (k j : Nat) : (ofP l k).testBit j = (decide (j < k) && decide (j < 256) && decide (l.getD j 0 = 1)) := by
  induction k with
  | zero => simp [ofP]
  | succ k ih =>
    unfold ofP
    by_cases h : k < 256 ∧ l.getD k 0 = 1
    · rw [if_pos h, Nat.testBit_or, ih, Nat.testBit_two_pow]
      by_cases hj : k = j
      · subst hj
        have e2 := h.2
        simp only [List.getD] at e2 ⊢
        simp [h.1, e2]
      · have e : decide (j < k + 1) = decide (j < k) := by
          by_cases h' : j < k
          · simp [h']; omega
          · have : ¬ j < k + 1 := by omega
            simp [h', this]
        simp [hj, e]
    · rw [if_neg h, ih]
      by_cases hj : k = j
      · subst hj
        by_cases h1 : k < 256
        · have : ¬ l.getD k 0 = 1 := fun h2 => h ⟨h1, h2⟩
          simp only [this, decide_false, Bool.and_false]
        · simp [h1]
      · have e : decide (j < k + 1) = decide (j < k) := by
          by_cases h' : j < k
          · simp [h']; omega
          · have : ¬ j < k + 1 := by omega
            simp [h', this]
        rw [e]
set_option maxRecDepth 100000 in
theorem ofP_lt (l : List Nat) (k : Nat) : ofP l k < M256 := by
  rw [M256_pow]
  refine Nat.lt_pow_two_of_testBit _ fun j hj => ?_
  rw [ofP_tb, show decide (j < 256) = false from decide_eq_false (by omega)]
  simp
/-- The number of bits, the least one first. -/
def ofN (l : List Nat) : Nat := ofP l l.length
set_option maxRecDepth 100000 in
theorem ofN_lt (l : List Nat) : ofN l < M256 := ofP_lt _ _
set_option maxRecDepth 100000 in
theorem ofN_tb (l : List Nat) (j : Nat) : (ofN l).testBit j = (decide (j < 256) && decide (l.getD j 0 = 1)) := by
  unfold ofN
  rw [ofP_tb]
  by_cases h : j < l.length
  · simp [h]
  · have : l.getD j 0 = 0 := by simp [List.getD, List.getElem?_eq_none (Nat.le_of_not_lt h)]
    simp only [this]
    simp
set_option maxRecDepth 100000 in
/-- A number below 2^256 is told by its bits. -/
theorem word_bits {a b : Nat} (ha : a < M256) (hb : b < M256) (h : ∀ j, j < 256 → a.testBit j = b.testBit j) : a = b := by
  apply Nat.eq_of_testBit_eq
  intro j
  by_cases hj : j < 256
  · exact h j hj
  · rw [tb_big a j ha (by omega), tb_big b j hb (by omega)]
/-- A word's bits. -/
def bitsL (n m : Nat) : List Nat := (List.range m).map (bitN n)
set_option maxRecDepth 100000 in
theorem bitsL_len (n m : Nat) : (bitsL n m).length = m := by simp [bitsL]
set_option maxRecDepth 100000 in
theorem bitsL_get (n m j : Nat) : (bitsL n m).getD j 0 = if j < m then bitN n j else 0 := by
  unfold bitsL
  by_cases h : j < m
  · simp [List.getD, h]
  · simp [List.getD, h]
set_option maxRecDepth 100000 in
theorem bitsL_succ (n m : Nat) : bitsL n (m + 1) = bitsL n m ++ [bitN n m] := by simp [bitsL, List.range_succ]

set_option maxRecDepth 100000 in
theorem u64_and_one (x : Nat) (hx : x < 18446744073709551616) : bits BinOp.and IntKind.u64 (x : Int) 1 = ((x % 2 : Nat) : Int) := by
  have h := u64_and_nat x 1 hx (by decide)
  rw [Nat.and_one_is_mod] at h
  exact h

set_option maxRecDepth 100000 in
set_option maxHeartbeats 400000 in
theorem bit_any (n k : Nat) (w : World) (hn : n < M256) (hk : k < 9223372036854775807) :
    Calls Try.prog 60 #[wv n, .int .i64 k] w fun e w' => e = .returned (.int .i64 (bitN n k : Nat)) ∧ Ext w w' := by
  have h0 : decide ((k : Int) < 0) = false := by simp
  have HE := Lib.hid (((Ext.refl w).alloc (.cells (wc n) 30)))
  by_cases hb : k < 256
  · have h1 : decide ((255 : Int) < (k : Int)) = false := by simp; omega
    have hw : Wd (w.alloc (.cells (wc n) 30)) w.heap.size 30 n := Cs.new w _ _ _ rfl
    have hc := hw.cell (k / 64) (by omega)
    have hl := lb_lt n (k / 64)
    have hd : lb n (k / 64) / 2 ^ (k % 64) < 18446744073709551616 := Nat.lt_of_le_of_lt (Nat.div_le_self _ _) hl
    have HI := Lib.hid (show bits BinOp.and IntKind.u64 (((lb n (k / 64) : Nat) : Int) / 2 ^ (k % 64)) 1 = ((bitN n k : Nat) : Int) by
      rw [show (((lb n (k / 64) : Nat) : Int) / 2 ^ (k % 64)) = ((lb n (k / 64) / 2 ^ (k % 64) : Nat) : Int) by simp, u64_and_one _ hd, lb_bit])
    have hbl := bitN_lt n k
    have a1 : (0 : Int) ≤ (k : Int) / 64 := by omega
    have a2 : (k : Int) / 64 < 4 := by omega
    have a3 : (0 : Int) ≤ (k : Int) % 64 := by omega
    have a4 : (k : Int) % 64 < 64 := by omega
    clear hw hb hd
    unfold wv
    go_enter Try.func60, Try.ntmps60
    go_wp2
    rw [HI.out]
    have hwr : wrap64 ((bitN n k : Nat) : Int) = ((bitN n k : Nat) : Int) := by unfold wrap64; omega
    go_ret
    exact ⟨ret_int hwr, HE.out⟩
  · have h1 : decide ((255 : Int) < (k : Int)) = true := by simp; omega
    have HZ := Lib.hid (bitN_far n k hn (by omega))
    clear hb
    unfold wv
    go_enter Try.func60, Try.ntmps60
    go_wp2
    go_ret
    exact ⟨by rw [HZ.out]; rfl, HE.out⟩

/-- The bits, so many of them, in a row of the call's own. -/
def RetI (w : World) (l : List Nat) (e : Ending) (w' : World) : Prop := ∃ v, e = .returned v ∧ OwnI w' w.heap.size 3 v l ∧ Ext w w'
set_option maxRecDepth 100000 in
theorem iinfo : (Try.prog.info? 3).map (fun i => (i.zero, i.size, i.bytes)) = some (some (.int .i64 0), 1, 8) := by kernel_rfl

set_option maxRecDepth 100000 in
theorem OwnI.snoc {w : World} {base : Nat} {e : TypeId} {v : Value} {l : List Nat} {x : Nat} (h : w.ownsRow base e 1 v (l.length + 1) (l.map iv ++ [iv x])) : OwnI w base e v (l ++ [x]) := by
  unfold OwnI
  rw [List.length_append, List.map_append]
  exact h
end Go.Proofs.Ytjampleddeidaaa
namespace Go.Proofs.Ytjampleddeidaaa
open Go.RowKit

/-- The carry behind k bits. -/
def carN (a b k : Nat) : Nat := (a % 2 ^ k + b % 2 ^ k) / 2 ^ k
/-- What stands at the place k: both bits, and the carry. -/
def sumN (a b k : Nat) : Nat := bitN a k + bitN b k + carN a b k
set_option maxRecDepth 100000 in
theorem carN_zero (a b : Nat) : carN a b 0 = 0 := by simp [carN, Nat.mod_one]
set_option maxRecDepth 100000 in
theorem carN_lt (a b k : Nat) : carN a b k < 2 := by
  unfold carN
  have h1 := Nat.mod_lt a (Nat.two_pow_pos k)
  have h2 := Nat.mod_lt b (Nat.two_pow_pos k)
  exact Nat.div_lt_of_lt_mul (by omega)
set_option maxRecDepth 100000 in
theorem mod_split (a k : Nat) : a % 2 ^ (k + 1) = a % 2 ^ k + 2 ^ k * bitN a k := by
  unfold bitN
  rw [Nat.pow_succ, Nat.mod_mul]
set_option maxRecDepth 100000 in
theorem carN_succ (a b k : Nat) : carN a b (k + 1) = sumN a b k / 2 := by
  unfold carN sumN
  rw [mod_split, mod_split, Nat.pow_succ, ← Nat.div_div_eq_div_mul]
  congr 1
  have h := Nat.two_pow_pos k
  rw [show a % 2 ^ k + 2 ^ k * bitN a k + (b % 2 ^ k + 2 ^ k * bitN b k) = (a % 2 ^ k + b % 2 ^ k) + 2 ^ k * (bitN a k + bitN b k) by rw [Nat.mul_add]; omega, Nat.add_mul_div_left _ _ h]
  unfold carN
  omega
set_option maxRecDepth 100000 in
theorem bitN_add (a b k : Nat) : bitN (a + b) k = sumN a b k % 2 := by
  unfold sumN
  have h := Nat.two_pow_pos k
  have e : (a + b) / 2 ^ k = carN a b k + (a / 2 ^ k + b / 2 ^ k) := by
    unfold carN
    conv => lhs; rw [← Nat.div_add_mod a (2 ^ k), ← Nat.div_add_mod b (2 ^ k)]
    rw [show 2 ^ k * (a / 2 ^ k) + a % 2 ^ k + (2 ^ k * (b / 2 ^ k) + b % 2 ^ k) = (a % 2 ^ k + b % 2 ^ k) + 2 ^ k * (a / 2 ^ k + b / 2 ^ k) by rw [Nat.mul_add]; omega, Nat.add_mul_div_left _ _ h]
  have e2 : bitN (a + b) k = (a + b) / 2 ^ k % 2 := rfl
  rw [e2, e]
  unfold bitN
  omega
set_option maxRecDepth 100000 in
theorem carN_top (a b m : Nat) (ha : a < 2 ^ m) (hb : b < 2 ^ m) : carN a b m = bitN (a + b) m := by
  unfold carN bitN
  rw [Nat.mod_eq_of_lt ha, Nat.mod_eq_of_lt hb, Nat.mod_eq_of_lt (Nat.div_lt_of_lt_mul (by omega))]

end Go.Proofs.Ytjampleddeidaaa
namespace Go.Proofs.Ytjampleddeidaaa
open Go.RowKit

/-- The first k answers of f. -/
def mapL (f : Nat → Nat) (k : Nat) : List Nat := (List.range k).map f
set_option maxRecDepth 100000 in
theorem mapL_len (f : Nat → Nat) (k : Nat) : (mapL f k).length = k := by simp [mapL]
set_option maxRecDepth 100000 in
theorem mapL_succ (f : Nat → Nat) (k : Nat) : mapL f (k + 1) = mapL f k ++ [f k] := by simp [mapL, List.range_succ]
set_option maxRecDepth 100000 in
theorem mapL_get (f : Nat → Nat) (k j : Nat) (h : j < k) : (mapL f k).getD j 0 = f j := by simp [mapL, List.getD, h]
set_option maxRecDepth 100000 in
theorem ofN_mapL (f : Nat → Nat) (j : Nat) (h : j < 256) : (ofN (mapL f 256)).testBit j = decide (f j = 1) := by
  rw [ofN_tb, mapL_get f 256 j h]
  simp [h]
def xorB (x y : Nat) : Nat := (x + y) % 2
set_option maxRecDepth 100000 in
theorem Ks.grownOwn {w : World} {l : List (Nat × Nat)} {W W' : World} {base s n : Nat} {e : TypeId} {v : Value} {cs : List Value} (h : Ks w l W) (ho : W.ownsRow base e s v n cs) (k : W.grownBy W' v.ownBlock) (hw : w.heap.size ≤ base) (hl : ∀ x ∈ l, x.1 < base) : Ks w l W' :=
  ⟨fun x hx => own_block ho k (hl x hx) (h.1 x hx), Below.grown h.2 k h.2.size (fun j hj => Nat.le_trans hw (ho.lt j hj).1)⟩

end Go.Proofs.Ytjampleddeidaaa
namespace Go.Proofs.Ytjampleddeidaaa
open Go.RowKit

set_option maxRecDepth 100000 in
theorem lbs_zero (n : Nat) (h : n < 18446744073709551616) : lb n 0 = n ∧ lb n 1 = 0 ∧ lb n 2 = 0 ∧ lb n 3 = 0 := by
  rw [lb0, lb1, lb2, lb3]
  omega
set_option maxRecDepth 100000 in
theorem lbs_sum (n : Nat) (hn : n < M256) (h1 : lb n 1 = 0) (h2 : lb n 2 = 0) (h3 : lb n 3 = 0) : lb n 0 = n := by
  unfold M256 at hn
  rw [lb1] at h1
  rw [lb2] at h2
  rw [lb3] at h3
  rw [lb0]
  omega
end Go.Proofs.Ytjampleddeidaaa
namespace Go.Proofs.Ytjampleddeidaaa
open Go.RowKit

set_option maxRecDepth 100000 in
/-- make([]int, n). -/
theorem run_make_ints (n : Nat) (w : World) (hn : n ≤ 1000) : (Instr.makeSlice 94 (.int .i64 (n : Int)) (.int .i64 (n : Int))).run Try.prog w = .ok (.slice (some ⟨w.heap.size, 0, none⟩) n n) (w.alloc (.cells (Array.replicate n (iv 0)) 3)) := by
  obtain ⟨i0, hi, hz0, hz1, hz2⟩ := info_parts iinfo
  have hr := run_make (P := Try.prog) w 94 3 i0 (.int .i64 0) Try.underlying94 hi hz0 .i64 .i64 n n (by omega) (by omega) (by rw [hz2]; omega) (by omega)
  rw [hr]
  simp only [Int.toNat_natCast]
  congr 3
  rw [hz1]
  apply Array.toList_inj.1
  have hm := toList_madeCells_one (.int .i64 0) (n * 1)
  have e : Value.cells (.int .i64 0) = #[.int .i64 0] := rfl
  rw [e, hm]
  simp [iv]

/-- What the way to Shl keeps. -/
def ShI (w : World) (a n R : Nat) (V : Nat → Value) (L : Nat → Bool) (W : World) : Prop :=
  Wd W w.heap.size 30 a ∧ Ext w W ∧ w.heap.size + 2 ≤ W.heap.size ∧ (∃ cs, Cs W (w.heap.size + 1) 30 cs ∧ cs.size = 4 ∧ (L 6 = true → cs = wc R)) ∧
    (L 0 = true → V 0 = .int .i64 (n : Int)) ∧ (L 1 = true → L 4 = false → OwnI W (w.heap.size + 2) 3 (V 1) (List.replicate n 0)) ∧ (L 2 = true → V 2 = wv a) ∧
    (L 3 = true → L 4 = false → Rs W 1 (V 3) 256 ((bitsL a 256).map iv)) ∧ (L 4 = true → L 5 = false → OwnI W (w.heap.size + 2) 3 (V 4) (List.replicate n 0 ++ bitsL a 256)) ∧ (L 5 = true → V 5 = wv R)
set_option maxRecDepth 100000 in
theorem more_no {L : Nat → Bool} {i j : Nat} (h : More L i j = false) (hne : (j == i) = false) : L j = false := by
  unfold More at h
  rwa [if_neg (by simpa using hne)] at h
set_option maxRecDepth 100000 in
theorem ShI.ext {w : World} {a n R : Nat} {V : Nat → Value} {L : Nat → Bool} {W W' : World} (h : ShI w a n R V L W) (he : Ext W W') : ShI w a n R V L W' := by
  obtain ⟨h1, h2, h3, ⟨cs, h4, h5, h6⟩, h7, h8, h9, h10, h11, h12⟩ := h
  exact ⟨h1.ext he, h2.trans he, Nat.le_trans h3 he.size, ⟨cs, h4.ext he, h5, h6⟩, h7, fun x y => own_ext (h8 x y) he, h9, fun x y => (h10 x y).ext he, fun x y => own_ext (h11 x y) he, h12⟩
set_option maxRecDepth 100000 in
/-- A value is put in its place, and is what it must be. -/
theorem ShI.up {w : World} {a n R : Nat} {V : Nat → Value} {L : Nat → Bool} {W : World} (h : ShI w a n R V L W) (i : Nat) (x : Value) (hi6 : i ≠ 6) (hL : i = 4 → L 5 = false → OwnI W (w.heap.size + 2) 3 x (List.replicate n 0 ++ bitsL a 256))
    (h0 : i = 0 → x = .int .i64 (n : Int)) (h1 : i = 1 → L 4 = false → OwnI W (w.heap.size + 2) 3 x (List.replicate n 0)) (h2 : i = 2 → x = wv a) (h3 : i = 3 → L 4 = false → Rs W 1 x 256 ((bitsL a 256).map iv)) (h5 : i = 5 → x = wv R) :
    ShI w a n R (upd V i x) (More L i) W := by
  obtain ⟨k1, k2, k3, ⟨cs, k4, k5, k6⟩, k7, k8, k9, k10, k11, k12⟩ := h
  have U : ∀ j, upd V i x j = if j = i then x else V j := fun j => rfl
  have M : ∀ j, More L i j = if j = i then true else L j := fun j => rfl
  refine ⟨k1, k2, k3, ⟨cs, k4, k5, fun e => k6 (by rw [M, if_neg (Ne.symm hi6)] at e; exact e)⟩, ?_, ?_, ?_, ?_, ?_, ?_⟩
  all_goals
    rw [U]
    simp only [M]
  · by_cases e : 0 = i
    · rw [if_pos e, if_pos e]; exact fun _ => h0 e.symm
    · rw [if_neg e, if_neg e]; exact k7
  · by_cases e : 1 = i
    · rw [if_pos e]; subst e; exact fun _ y => h1 rfl (by simpa using y)
    · rw [if_neg e, if_neg e]
      intro y z
      refine k8 y ?_
      by_cases e4 : 4 = i
      · rw [if_pos e4] at z; cases z
      · rwa [if_neg e4] at z
  · by_cases e : 2 = i
    · rw [if_pos e, if_pos e]; exact fun _ => h2 e.symm
    · rw [if_neg e, if_neg e]; exact k9
  · by_cases e : 3 = i
    · rw [if_pos e]; subst e; exact fun _ y => h3 rfl (by simpa using y)
    · rw [if_neg e, if_neg e]
      intro y z
      refine k10 y ?_
      by_cases e4 : 4 = i
      · rw [if_pos e4] at z; cases z
      · rwa [if_neg e4] at z
  · by_cases e : 4 = i
    · rw [if_pos e]; subst e; exact fun _ y => hL rfl (by simpa using y)
    · rw [if_neg e, if_neg e]
      intro y z
      refine k11 y ?_
      by_cases e5 : 5 = i
      · rw [if_pos e5] at z; cases z
      · rwa [if_neg e5] at z
  · by_cases e : 5 = i
    · rw [if_pos e, if_pos e]; exact fun _ => h5 e.symm
    · rw [if_neg e, if_neg e]; exact k12

set_option maxRecDepth 100000 in
theorem and_ref (a b : Nat) (hb : b < M256) : ofN (mapL (fun j => bitN a j * bitN b j) 256) = andN a b := by
  refine word_bits (ofN_lt _) (andN_lt a b hb) fun j hj => ?_
  rw [ofN_mapL _ j hj, bitN_tb, bitN_tb]
  unfold andN
  rw [Nat.testBit_and]
  cases a.testBit j <;> cases b.testBit j <;> rfl
set_option maxRecDepth 100000 in
theorem or_ref (a b : Nat) (ha : a < M256) (hb : b < M256) : ofN (mapL (fun j => max (bitN a j) (bitN b j)) 256) = orN a b := by
  refine word_bits (ofN_lt _) (orN_lt a b ha hb) fun j hj => ?_
  rw [ofN_mapL _ j hj, bitN_tb, bitN_tb]
  unfold orN
  rw [Nat.testBit_or]
  cases a.testBit j <;> cases b.testBit j <;> rfl
set_option maxRecDepth 100000 in
theorem xor_ref (a b : Nat) (ha : a < M256) (hb : b < M256) : ofN (mapL (fun j => xorB (bitN a j) (bitN b j)) 256) = xorN a b := by
  refine word_bits (ofN_lt _) (xorN_lt a b ha hb) fun j hj => ?_
  rw [ofN_mapL _ j hj, bitN_tb, bitN_tb]
  unfold xorN
  rw [Nat.testBit_xor]
  cases a.testBit j <;> cases b.testBit j <;> rfl
set_option maxRecDepth 100000 in
theorem not_ref (a : Nat) (ha : a < M256) : ofN (mapL (fun j => 1 - bitN a j) 256) = notN a := by
  refine word_bits (ofN_lt _) (notN_lt a) fun j hj => ?_
  rw [ofN_mapL _ j hj, bitN_tb]
  unfold notN
  rw [show M256 - 1 - a = 2 ^ 256 - (a + 1) by rw [← M256_pow]; omega, Nat.testBit_two_pow_sub_succ (by rw [← M256_pow]; exact ha)]
  cases a.testBit j <;> simp [hj]
set_option maxRecDepth 100000 in
theorem shl_ref (a n : Nat) : ofN (List.replicate (min n 256) 0 ++ bitsL a 256) = shlN a n := by
  refine word_bits (ofN_lt _) (shlN_lt a n) fun j hj => ?_
  rw [ofN_tb]
  have e : (List.replicate (min n 256) 0 ++ bitsL a 256).getD j 0 = if j < min n 256 then 0 else bitN a (j - min n 256) := by
    rw [List.getD_eq_getElem?_getD, List.getElem?_append]
    by_cases h : j < min n 256
    · rw [if_pos (by rw [List.length_replicate]; exact h), if_pos h, List.getElem?_replicate, if_pos h]
      rfl
    · rw [if_neg (by rw [List.length_replicate]; exact h), if_neg h, List.length_replicate]
      have := bitsL_get a 256 (j - min n 256)
      rw [if_pos (by omega)] at this
      rw [← this, List.getD_eq_getElem?_getD]
  rw [e]
  unfold shlN
  by_cases hn : n < 256
  · rw [if_pos hn, M256_pow, Nat.testBit_mod_two_pow, Nat.testBit_mul_two_pow, show min n 256 = n by omega]
    by_cases h : j < n
    · rw [if_pos h]
      simp [hj]; omega
    · rw [if_neg h, bitN_tb]
      have : n ≤ j := by omega
      cases a.testBit (j - n) <;> simp [hj, this]
  · rw [if_neg hn, if_pos (by omega), Nat.zero_testBit]
    simp
set_option maxRecDepth 100000 in
theorem shr_ref (a n : Nat) (ha : a < M256) : ofN ((bitsL a 256).drop (min n 256)) = shrN a n := by
  refine word_bits (ofN_lt _) (shrN_lt a n ha) fun j hj => ?_
  rw [ofN_tb]
  have e : ((bitsL a 256).drop (min n 256)).getD j 0 = if min n 256 + j < 256 then bitN a (min n 256 + j) else 0 := by
    rw [List.getD_eq_getElem?_getD, List.getElem?_drop, ← List.getD_eq_getElem?_getD, bitsL_get]
  rw [e]
  unfold shrN
  by_cases hn : n < 256
  · rw [if_pos hn, Nat.testBit_div_two_pow, show min n 256 = n by omega]
    by_cases h : n + j < 256
    · rw [if_pos h, bitN_tb, Nat.add_comm]
      cases a.testBit (j + n) <;> simp [hj]
    · rw [if_neg h, tb_big a (j + n) ha (by omega)]
      simp
  · rw [if_neg hn, if_neg (by omega), Nat.zero_testBit]
    simp
end Go.Proofs.Ytjampleddeidaaa
