/- Lanes: what Mix, Rows and Permute make of unlike ones. Mathematics alone. -/
import Derived.Test.YthjmjccggkejhaaDoorSpn
namespace Go.Proofs.YthjmjccggkejhaaDoor

/-! ### Bits of lanes -/
theorem bit_far (a j : Nat) (ha : a < 18446744073709551616) (hj : 64 ≤ j) : a.testBit j = false :=
  Nat.testBit_lt_two_pow (Nat.lt_of_lt_of_le ha (show 2 ^ 64 ≤ 2 ^ j from Nat.pow_le_pow_right (by decide) hj))
theorem rot_bit (n a j : Nat) (hn : n < 64) (ha : a < 18446744073709551616) (hj : j < 64) : (rot n a).testBit j = a.testBit ((j + (64 - n)) % 64) := by
  unfold rot
  rw [show (18446744073709551616 : Nat) = 2 ^ 64 from rfl, Nat.testBit_or, Nat.testBit_mod_two_pow, Nat.testBit_mul_two_pow, Nat.testBit_div_two_pow]
  by_cases h : n ≤ j
  · rw [bit_far a (j + (64 - n)) ha (by omega), show (j + (64 - n)) % 64 = j - n by omega]
    simp [h, hj]
  · rw [show (j + (64 - n)) % 64 = j + (64 - n) by omega]
    simp [h]
theorem lane_ext {a b : Nat} (ha : a < 18446744073709551616) (hb : b < 18446744073709551616) (h : ∀ j, j < 64 → a.testBit j = b.testBit j) : a = b := by
  apply Nat.eq_of_testBit_eq
  intro j
  by_cases hj : j < 64
  · exact h j hj
  · rw [bit_far a j ha (by omega), bit_far b j hb (by omega)]
theorem rot_xor (n a b : Nat) (hn : n < 64) (ha : a < 18446744073709551616) (hb : b < 18446744073709551616) : rot n (a ^^^ b) = rot n a ^^^ rot n b := by
  refine lane_ext (rot_lt _ _ (xor_lt64 _ _ ha hb)) (xor_lt64 _ _ (rot_lt _ _ ha) (rot_lt _ _ hb)) fun j hj => ?_
  rw [rot_bit n _ j hn (xor_lt64 _ _ ha hb) hj, Nat.testBit_xor, Nat.testBit_xor, rot_bit n a j hn ha hj, rot_bit n b j hn hb hj]
theorem rot_inj (n a b : Nat) (hn : n < 64) (ha : a < 18446744073709551616) (hb : b < 18446744073709551616) (h : rot n a = rot n b) : a = b := by
  refine lane_ext ha hb fun j hj => ?_
  have : (rot n a).testBit ((j + n) % 64) = (rot n b).testBit ((j + n) % 64) := by rw [h]
  rw [rot_bit n a _ hn ha (Nat.mod_lt _ (by decide)), rot_bit n b _ hn hb (Nat.mod_lt _ (by decide)), show ((j + n) % 64 + (64 - n)) % 64 = j by omega] at this
  exact this

/-! ### What two come to together -/
def bothF (a b : Nat → Nat) : Nat → Nat := fun i => a i ^^^ b i
theorem bothF_lt (a b : Nat → Nat) (ha : Lok a) (hb : Lok b) : Lok (bothF a b) := fun i hi => xor_lt64 _ _ (ha i hi) (hb i hi)
theorem xor_mid (s t a b : Nat) : (s ^^^ t) ^^^ (a ^^^ b) = (s ^^^ a) ^^^ (t ^^^ b) := by
  rw [Nat.xor_assoc, Nat.xor_assoc, ← Nat.xor_assoc t a b, Nat.xor_comm t a, Nat.xor_assoc a t b]
theorem xor_six (A B C D R S : Nat) : (A ^^^ B) ^^^ (C ^^^ D) ^^^ (R ^^^ S) = (A ^^^ C ^^^ R) ^^^ (B ^^^ D ^^^ S) := by
  rw [xor_mid A B C D, xor_mid (A ^^^ C) (B ^^^ D) R S]
theorem colP_both (a b : Nat → Nat) (pre : List Nat) (x : Nat) : colP (bothF a b) pre x = colP a pre x ^^^ colP b pre x := by
  unfold colP
  suffices h : ∀ s t, pre.foldl (fun c k => if k % 5 = x then c ^^^ bothF a b (k % 25) else c) (s ^^^ t) = pre.foldl (fun c k => if k % 5 = x then c ^^^ a (k % 25) else c) s ^^^ pre.foldl (fun c k => if k % 5 = x then c ^^^ b (k % 25) else c) t by
    exact h 0 0
  induction pre with
  | nil => intro s t; rfl
  | cons k pre ih =>
    intro s t
    simp only [List.foldl_cons]
    by_cases hk : k % 5 = x
    · rw [if_pos hk, if_pos hk, if_pos hk, ← ih]
      unfold bothF
      rw [xor_mid]
    · rw [if_neg hk, if_neg hk, if_neg hk, ih]
theorem mixV_both (a b : Nat → Nat) (ha : Lok a) (hb : Lok b) (x y : Nat) : mixV (bothF a b) x y = mixV a x y ^^^ mixV b x y := by
  unfold mixV
  rw [← rot_xor _ _ _ (turns_lt _ (nm_lt _ _)) (laneV_lt a ha _ _) (laneV_lt b hb _ _)]
  congr 1
  unfold laneV colF
  rw [colP_both, colP_both, rot_xor 1 _ _ (by decide) (colP_lt a ha _ _) (colP_lt b hb _ _)]
  exact xor_six _ _ _ _ _ _
/-- Where a lane behind Mix is from. -/
def mX (i : Nat) : Nat := (3 * (i / 5) + i % 5) % 5
/-- Where the lane of the round k goes. -/
def pK (k : Nat) : Nat := mixP (k % 5) (k / 5 % 5)
theorem upd_far (v p : Nat → Nat) (i : Nat) : ∀ (l : List Nat) (F : Nat → Nat), (∀ k ∈ l, p k ≠ i) → l.foldl (fun F k j => if j = p k then v k else F j) F i = F i
  | [], _, _ => rfl
  | c :: l, F, h => by
    rw [List.foldl_cons, upd_far v p i l _ (fun k hk => h k (List.mem_cons_of_mem _ hk)), if_neg (fun e => h c List.mem_cons_self e.symm)]
theorem upd_at (v p : Nat → Nat) (k : Nat) : ∀ (l : List Nat) (F : Nat → Nat), k ∈ l → (∀ c ∈ l, p c = p k → c = k) → l.foldl (fun F k j => if j = p k then v k else F j) F (p k) = v k
  | [], _, h, _ => by cases h
  | c :: l, F, h, hp => by
    rw [List.foldl_cons]
    by_cases hk : k ∈ l
    · exact upd_at v p k l _ hk (fun d hd => hp d (List.mem_cons_of_mem _ hd))
    · rcases List.mem_cons.1 h with rfl | h
      · rw [upd_far v p _ l _ (fun d hd e => hk (by rw [← hp d (List.mem_cons_of_mem _ hd) e]; exact hd)), if_pos rfl]
      · exact absurd h hk
theorem pK_inj : ∀ a b : Fin 25, pK a.val = pK b.val → a = b := by decide +kernel
theorem pK_of : ∀ i : Fin 25, pK (nm (mX i.val) (i.val % 5)) = i.val ∧ nm (mX i.val) (i.val % 5) % 5 = mX i.val ∧ nm (mX i.val) (i.val % 5) / 5 % 5 = i.val % 5 := by decide +kernel
theorem mixF_at (f : Nat → Nat) (i : Nat) (hi : i < 25) : mixF f i = mixV f (mX i) (i % 5) := by
  obtain ⟨e1, e2, e3⟩ := pK_of ⟨i, hi⟩
  dsimp only at e1 e2 e3
  have hk := nm_lt (mX i) (i % 5)
  have h := upd_at (fun k => mixV f (k % 5) (k / 5 % 5)) pK (nm (mX i) (i % 5)) (List.range 25) (fun _ => 0) (List.mem_range.2 hk) (fun c hc e => by
    have := pK_inj ⟨c, List.mem_range.1 hc⟩ ⟨_, hk⟩ e
    exact congrArg Fin.val this)
  rw [e1, e2, e3] at h
  exact h
theorem mixF_both (a b : Nat → Nat) (ha : Lok a) (hb : Lok b) (i : Nat) (hi : i < 25) : mixF (bothF a b) i = mixF a i ^^^ mixF b i := by
  rw [mixF_at _ i hi, mixF_at _ i hi, mixF_at _ i hi, mixV_both a b ha hb]
theorem mixF_zero (i : Nat) (hi : i < 25) : mixF (fun _ => 0) i = 0 := by
  have hz : Lok fun _ => 0 := fun _ _ => Nat.lt_of_lt_of_le Nat.zero_lt_one (by decide)
  have h := mixF_both (fun _ => 0) (fun _ => 0) hz hz i hi
  have e : bothF (fun _ => 0) (fun _ => 0) = fun _ => 0 := by funext i; exact Nat.xor_self 0
  rw [e, Nat.xor_self] at h
  exact h

/-! ### Unlike lanes stay unlike -/
theorem per5 {D : Nat → Nat → Bool} (hx : ∀ x j, D (x + 5) j = D x j) (x j k : Nat) : D (x + 5 * k) j = D x j := by
  induction k with
  | zero => rfl
  | succ k ih => rw [show x + 5 * (k + 1) = x + 5 * k + 5 by omega, hx, ih]
theorem per64 {D : Nat → Nat → Bool} (hj : ∀ x j, D x (j + 64) = D x j) (x j k : Nat) : D x (j + 64 * k) = D x j := by
  induction k with
  | zero => rfl
  | succ k ih => rw [show j + 64 * (k + 1) = j + 64 * k + 64 by omega, hj, ih]
theorem dbl {D : Nat → Nat → Bool} (hx : ∀ x j, D (x + 5) j = D x j) (m : Nat) (h : ∀ x j, D x j = Bool.xor (D (x + 4 * m) j) (D (x + m) (j + 63 * m))) (x j : Nat) : D x j = Bool.xor (D (x + 4 * (2 * m)) j) (D (x + 2 * m) (j + 63 * (2 * m))) := by
  have h1 := h (x + 4 * m) j
  have h2 := h (x + m) (j + 63 * m)
  rw [h x j, h1, h2]
  rw [show x + 4 * m + 4 * m = x + 4 * (2 * m) by omega, show x + 4 * m + m = x + 5 * m by omega, show x + m + 4 * m = x + 5 * m by omega, show x + m + m = x + 2 * m by omega, show j + 63 * m + 63 * m = j + 63 * (2 * m) by omega, per5 hx]
  generalize D x (j + 63 * m) = p
  generalize D (x + 4 * (2 * m)) j = q
  generalize D (x + 2 * m) (j + 63 * (2 * m)) = r
  cases p <;> cases q <;> cases r <;> rfl
theorem none_left {D : Nat → Nat → Bool} (hx : ∀ x j, D (x + 5) j = D x j) (hj : ∀ x j, D x (j + 64) = D x j) (h : ∀ x j, D x j = Bool.xor (D (x + 4) j) (D (x + 1) (j + 63))) (x j : Nat) : D x j = false := by
  have h64 := dbl hx 32 (dbl hx 16 (dbl hx 8 (dbl hx 4 (dbl hx 2 (dbl hx 1 h)))))
  have h128 := dbl hx 64 h64
  have a1 : ∀ x j, D x j = Bool.xor (D (x + 1) j) (D (x + 4) j) := fun x j => by
    have := h64 x j
    rwa [show x + 4 * (2 * 32) = x + 1 + 5 * 51 by omega, show x + 2 * 32 = x + 4 + 5 * 12 by omega, show j + 63 * (2 * 32) = j + 64 * 63 by omega, per5 hx, per5 hx, per64 hj] at this
  have a2 : ∀ x j, D x j = Bool.xor (D (x + 2) j) (D (x + 3) j) := fun x j => by
    have := h128 x j
    rwa [show x + 4 * (2 * 64) = x + 2 + 5 * 102 by omega, show x + 2 * 64 = x + 3 + 5 * 25 by omega, show j + 63 * (2 * 64) = j + 64 * 126 by omega, per5 hx, per5 hx, per64 hj] at this
  have a3 : ∀ x, D x j = D (x + 3) j := fun x => by
    have e1 := a1 x j
    have e2 := a2 (x + 1) j
    rw [show x + 1 + 2 = x + 3 by omega, show x + 1 + 3 = x + 4 by omega] at e2
    rw [e1, e2]
    generalize D (x + 3) j = p
    generalize D (x + 4) j = q
    cases p <;> cases q <;> rfl
  have e1 := a1 x j
  rw [a3 (x + 1), show x + 1 + 3 = x + 4 by omega] at e1
  rw [e1]
  simp
theorem colF_at (f : Nat → Nat) (x : Nat) (hx : x < 5) : colF f x = f (nm x 0) ^^^ f (nm x 1) ^^^ f (nm x 2) ^^^ f (nm x 3) ^^^ f (nm x 4) := by
  have h : colF f x = 0 ^^^ f (nm x 0) ^^^ f (nm x 1) ^^^ f (nm x 2) ^^^ f (nm x 3) ^^^ f (nm x 4) := by
    obtain rfl | rfl | rfl | rfl | rfl : x = 0 ∨ x = 1 ∨ x = 2 ∨ x = 3 ∨ x = 4 := by omega
    all_goals rfl
  rw [h, Nat.zero_xor]
theorem bool_mid : ∀ s t a b : Bool, Bool.xor (Bool.xor s a) (Bool.xor t b) = Bool.xor (Bool.xor s t) (Bool.xor a b) := by decide
theorem five_bits (E a0 a1 a2 a3 a4 b0 b1 b2 b3 b4 : Bool) (h0 : Bool.xor a0 b0 = E) (h1 : Bool.xor a1 b1 = E) (h2 : Bool.xor a2 b2 = E) (h3 : Bool.xor a3 b3 = E) (h4 : Bool.xor a4 b4 = E) :
    Bool.xor (Bool.xor (Bool.xor (Bool.xor (Bool.xor a0 a1) a2) a3) a4) (Bool.xor (Bool.xor (Bool.xor (Bool.xor b0 b1) b2) b3) b4) = E := by
  rw [bool_mid _ _ a4 b4, bool_mid _ _ a3 b3, bool_mid _ _ a2 b2, bool_mid a0 b0 a1 b1, h0, h1, h2, h3, h4]
  cases E <;> rfl
theorem laneV_bit (f : Nat → Nat) (hf : Lok f) (x y j : Nat) (hj : j < 64) : (laneV f x y).testBit j = Bool.xor (Bool.xor ((f (nm x y)).testBit j) ((colF f ((x + 4) % 5)).testBit j)) ((colF f ((x + 1) % 5)).testBit ((j + 63) % 64)) := by
  unfold laneV
  rw [Nat.testBit_xor, Nat.testBit_xor, rot_bit 1 _ j (by decide) (colF_lt f hf _) hj]
theorem xor_swap : ∀ (p q a b c d : Bool), Bool.xor (Bool.xor p a) c = Bool.xor (Bool.xor q b) d → Bool.xor p q = Bool.xor (Bool.xor a b) (Bool.xor c d) := by decide
theorem col_same (a b : Nat → Nat) (ha : Lok a) (hb : Lok b) (h : ∀ x y, x < 5 → y < 5 → laneV a x y = laneV b x y) (x : Nat) (hx : x < 5) : colF a x = colF b x := by
  have key : ∀ x j, Bool.xor ((colF a (x % 5)).testBit (j % 64)) ((colF b (x % 5)).testBit (j % 64)) = false := by
    refine none_left (D := fun x j => Bool.xor ((colF a (x % 5)).testBit (j % 64)) ((colF b (x % 5)).testBit (j % 64))) ?_ ?_ ?_
    · intro x j
      show Bool.xor ((colF a ((x + 5) % 5)).testBit (j % 64)) ((colF b ((x + 5) % 5)).testBit (j % 64)) = _
      rw [show (x + 5) % 5 = x % 5 by omega]
    · intro x j
      show Bool.xor ((colF a (x % 5)).testBit ((j + 64) % 64)) ((colF b (x % 5)).testBit ((j + 64) % 64)) = _
      rw [show (j + 64) % 64 = j % 64 by omega]
    · intro x j
      have hm : x % 5 < 5 := Nat.mod_lt _ (by decide)
      have hk : j % 64 < 64 := Nat.mod_lt _ (by decide)
      have step : ∀ y, y < 5 → Bool.xor ((a (nm (x % 5) y)).testBit (j % 64)) ((b (nm (x % 5) y)).testBit (j % 64)) = Bool.xor (Bool.xor ((colF a ((x + 4) % 5)).testBit (j % 64)) ((colF b ((x + 4) % 5)).testBit (j % 64))) (Bool.xor ((colF a ((x + 1) % 5)).testBit ((j + 63) % 64)) ((colF b ((x + 1) % 5)).testBit ((j + 63) % 64))) := by
        intro y hy
        have e : (laneV a (x % 5) y).testBit (j % 64) = (laneV b (x % 5) y).testBit (j % 64) := by rw [h (x % 5) y hm hy]
        rw [laneV_bit a ha _ _ _ hk, laneV_bit b hb _ _ _ hk, show (x % 5 + 4) % 5 = (x + 4) % 5 by omega, show (x % 5 + 1) % 5 = (x + 1) % 5 by omega, show (j % 64 + 63) % 64 = (j + 63) % 64 by omega] at e
        exact xor_swap _ _ _ _ _ _ e
      show Bool.xor ((colF a (x % 5)).testBit (j % 64)) ((colF b (x % 5)).testBit (j % 64)) = _
      rw [colF_at a (x % 5) hm, colF_at b (x % 5) hm]
      simp only [Nat.testBit_xor]
      exact five_bits _ _ _ _ _ _ _ _ _ _ _ (step 0 (by decide)) (step 1 (by decide)) (step 2 (by decide)) (step 3 (by decide)) (step 4 (by decide))
  refine lane_ext (colF_lt a ha x) (colF_lt b hb x) fun j hj => ?_
  have := key x j
  rw [Nat.mod_eq_of_lt hx, Nat.mod_eq_of_lt hj] at this
  revert this
  cases (colF a x).testBit j <;> cases (colF b x).testBit j <;> simp
theorem mX_of : ∀ x y : Fin 5, mX (mixP x.val y.val) = x.val ∧ mixP x.val y.val % 5 = y.val ∧ mixP x.val y.val < 25 := by decide
theorem xor_cancel (p q a : Nat) (h : p ^^^ a = q ^^^ a) : p = q := by
  have : (p ^^^ a) ^^^ a = (q ^^^ a) ^^^ a := by rw [h]
  rwa [Nat.xor_assoc, Nat.xor_self, Nat.xor_zero, Nat.xor_assoc, Nat.xor_self, Nat.xor_zero] at this
theorem nm_self (i : Nat) (hi : i < 25) : nm (i % 5) (i / 5) = i := by unfold nm; omega
theorem mix_inj (a b : Nat → Nat) (ha : Lok a) (hb : Lok b) (h : ∀ i, i < 25 → mixF a i = mixF b i) : ∀ i, i < 25 → a i = b i := by
  have hl : ∀ x y, x < 5 → y < 5 → laneV a x y = laneV b x y := by
    intro x y hx hy
    obtain ⟨e1, e2, e3⟩ := mX_of ⟨x, hx⟩ ⟨y, hy⟩
    dsimp only at e1 e2 e3
    have := h _ e3
    rw [mixF_at a _ e3, mixF_at b _ e3, e1, e2] at this
    exact rot_inj _ _ _ (turns_lt _ (nm_lt _ _)) (laneV_lt a ha _ _) (laneV_lt b hb _ _) this
  intro i hi
  have := hl (i % 5) (i / 5) (Nat.mod_lt _ (by decide)) (by omega)
  unfold laneV at this
  rw [col_same a b ha hb hl _ (Nat.mod_lt _ (by decide)), col_same a b ha hb hl _ (Nat.mod_lt _ (by decide))] at this
  have := xor_cancel _ _ _ (xor_cancel _ _ _ this)
  rwa [nm_self i hi] at this
theorem notL_bit (a j : Nat) (hj : j < 64) : (notL a).testBit j = !a.testBit j := by
  unfold notL
  rw [Nat.testBit_xor, show (18446744073709551615 : Nat) = 2 ^ 64 - 1 from rfl, Nat.testBit_two_pow_sub_one]
  simp [hj]
theorem rowV_bit (f : Nat → Nat) (x y j : Nat) (hj : j < 64) : (rowV f x y).testBit j = Bool.xor ((f (nm x y)).testBit j) (!(f (nm (x + 1) y)).testBit j && (f (nm (x + 2) y)).testBit j) := by
  unfold rowV
  rw [Nat.testBit_xor, Nat.testBit_and, notL_bit _ _ hj]
theorem five_rows : ∀ (a0 a1 a2 a3 a4 b0 b1 b2 b3 b4 : Bool), Bool.xor a0 (!a1 && a2) = Bool.xor b0 (!b1 && b2) → Bool.xor a1 (!a2 && a3) = Bool.xor b1 (!b2 && b3) → Bool.xor a2 (!a3 && a4) = Bool.xor b2 (!b3 && b4) →
    Bool.xor a3 (!a4 && a0) = Bool.xor b3 (!b4 && b0) → Bool.xor a4 (!a0 && a1) = Bool.xor b4 (!b0 && b1) → a0 = b0 ∧ a1 = b1 ∧ a2 = b2 ∧ a3 = b3 ∧ a4 = b4 := by decide +kernel
theorem rowF_nm (f : Nat → Nat) (x y : Nat) (hx : x < 5) (hy : y < 5) : rowF f (nm x y) = rowV f x y := by
  unfold rowF
  rw [show nm x y % 5 = x by unfold nm; omega, show nm x y / 5 % 5 = y by unfold nm; omega]
theorem row_inj (a b : Nat → Nat) (ha : Lok a) (hb : Lok b) (h : ∀ i, i < 25 → rowF a i = rowF b i) : ∀ i, i < 25 → a i = b i := by
  intro i hi
  refine lane_ext (ha i hi) (hb i hi) fun j hj => ?_
  have hy : i / 5 < 5 := by omega
  have st : ∀ x, x < 5 → Bool.xor ((a (nm x (i / 5))).testBit j) (!(a (nm (x + 1) (i / 5))).testBit j && (a (nm (x + 2) (i / 5))).testBit j) = Bool.xor ((b (nm x (i / 5))).testBit j) (!(b (nm (x + 1) (i / 5))).testBit j && (b (nm (x + 2) (i / 5))).testBit j) := by
    intro x hx
    have := h _ (nm_lt x (i / 5))
    rw [rowF_nm a x _ hx hy, rowF_nm b x _ hx hy] at this
    rw [← rowV_bit a x _ j hj, ← rowV_bit b x _ j hj, this]
  have e5 : ∀ f : Nat → Nat, f (nm (3 + 2) (i / 5)) = f (nm 0 (i / 5)) := fun f => by rw [show nm (3 + 2) (i / 5) = nm 0 (i / 5) by unfold nm; omega]
  have e6 : ∀ f : Nat → Nat, f (nm (4 + 1) (i / 5)) = f (nm 0 (i / 5)) := fun f => by rw [show nm (4 + 1) (i / 5) = nm 0 (i / 5) by unfold nm; omega]
  have e7 : ∀ f : Nat → Nat, f (nm (4 + 2) (i / 5)) = f (nm 1 (i / 5)) := fun f => by rw [show nm (4 + 2) (i / 5) = nm 1 (i / 5) by unfold nm; omega]
  have s3 := st 3 (by decide)
  have s4 := st 4 (by decide)
  rw [e5 a, e5 b] at s3
  rw [e6 a, e6 b, e7 a, e7 b] at s4
  obtain ⟨r0, r1, r2, r3, r4⟩ := five_rows _ _ _ _ _ _ _ _ _ _ (st 0 (by decide)) (st 1 (by decide)) (st 2 (by decide)) s3 s4
  rw [← nm_self i hi]
  obtain e | e | e | e | e : i % 5 = 0 ∨ i % 5 = 1 ∨ i % 5 = 2 ∨ i % 5 = 3 ∨ i % 5 = 4 := by omega
  all_goals (rw [e]; assumption)
theorem rnd_inj (a b : Nat → Nat) (n : Nat) (ha : Lok a) (hb : Lok b) (h : ∀ i, i < 25 → rndF a n i = rndF b n i) : ∀ i, i < 25 → a i = b i := by
  refine mix_inj a b ha hb (row_inj _ _ (mixF_lt a ha) (mixF_lt b hb) fun i hi => ?_)
  have := h i hi
  unfold rndF at this
  by_cases h0 : i = 0
  · subst h0
    rw [if_pos rfl, if_pos rfl] at this
    exact xor_cancel _ _ _ this
  · rwa [if_neg h0, if_neg h0] at this
theorem prm_inj (a b : Nat → Nat) (ha : Lok a) (hb : Lok b) (k : Nat) (hk : k ≤ 24) (h : ∀ i, i < 25 → prmF a k i = prmF b k i) : ∀ i, i < 25 → a i = b i := by
  induction k with
  | zero => exact h
  | succ k ih => exact ih (by omega) (rnd_inj _ _ k (prmF_lt a ha k (by omega)) (prmF_lt b hb k (by omega)) h)

theorem row_cg (a b : Nat → Nat) (h : ∀ i, i < 25 → a i = b i) (i : Nat) : rowF a i = rowF b i := by
  unfold rowF rowV
  rw [h _ (nm_lt _ _), h _ (nm_lt _ _), h _ (nm_lt _ _)]
theorem col_cg (a b : Nat → Nat) (h : ∀ i, i < 25 → a i = b i) (x : Nat) (hx : x < 5) : colF a x = colF b x := by
  rw [colF_at a x hx, colF_at b x hx, h _ (nm_lt _ _), h _ (nm_lt _ _), h _ (nm_lt _ _), h _ (nm_lt _ _), h _ (nm_lt _ _)]
theorem mix_cg (a b : Nat → Nat) (h : ∀ i, i < 25 → a i = b i) (i : Nat) (hi : i < 25) : mixF a i = mixF b i := by
  rw [mixF_at a i hi, mixF_at b i hi]
  unfold mixV laneV
  rw [h _ (nm_lt _ _), col_cg a b h _ (Nat.mod_lt _ (by decide)), col_cg a b h _ (Nat.mod_lt _ (by decide))]
theorem rnd_cg (a b : Nat → Nat) (n : Nat) (h : ∀ i, i < 25 → a i = b i) (i : Nat) (_hi : i < 25) : rndF a n i = rndF b n i := by
  unfold rndF
  rw [row_cg _ _ (fun i hi => mix_cg a b h i hi), row_cg _ _ (fun i hi => mix_cg a b h i hi)]
theorem prm_cg (a b : Nat → Nat) (h : ∀ i, i < 25 → a i = b i) (k : Nat) : ∀ i, i < 25 → prmF a k i = prmF b k i := by
  induction k with
  | zero => exact h
  | succ k ih => exact fun i hi => rnd_cg _ _ k ih i hi
theorem same25_eq (a b c d : Nat → Nat) (h : (∀ i, i < 25 → a i = b i) ↔ (∀ i, i < 25 → c i = d i)) : same25 a b = same25 c d := by
  rw [Bool.eq_iff_iff, same25_iff, same25_iff]
  exact h
theorem mix_same (a b : Nat → Nat) (ha : Lok a) (hb : Lok b) : same25 (mixF a) (mixF b) = same25 a b := same25_eq _ _ _ _ ⟨mix_inj a b ha hb, mix_cg a b⟩
theorem row_same (a b : Nat → Nat) (ha : Lok a) (hb : Lok b) : same25 (rowF a) (rowF b) = same25 a b := same25_eq _ _ _ _ ⟨row_inj a b ha hb, fun h i _ => row_cg a b h i⟩
theorem prm_same (a b : Nat → Nat) (ha : Lok a) (hb : Lok b) : same25 (prmF a 24) (prmF b 24) = same25 a b := same25_eq _ _ _ _ ⟨prm_inj a b ha hb 24 (by decide), fun h => prm_cg a b h 24⟩
end Go.Proofs.YthjmjccggkejhaaDoor
