/- Padded bytes, digests and their texts: what leads back, and which stands ahead. Mathematics alone. -/
import Derived.Test.YthjmjccggkejhaaDoorSpn
namespace Go.Proofs.YthjmjccggkejhaaDoor
open Go.Op (bytesLess)

/-! ### Unlike bytes have unlike padded ones -/
theorem padL_get (b : List UInt8) (i : Nat) (hi : i < padN b) : (padL b).getD i 0 = if i = padN b - 1 then (if b.length = padN b - 1 then 129 else 128) else if i = b.length then 1 else b.getD i 0 := by
  have hg := padN_gt b
  have hu : ∀ j, j < padN b → ((lay (List.replicate (padN b) 0) 0 b).set b.length 1).getD j 0 = if b.length = j then 1 else b.getD j 0 := by
    intro j hj
    rw [getD_set_if _ _ _ _ (by rw [lay_length, List.length_replicate]; exact hg), lay_getD _ _ _ _ (by rw [List.length_replicate]; exact hj), getD_zeros]
    by_cases h1 : b.length = j
    · rw [if_pos h1, if_pos h1]
    · rw [if_neg h1, if_neg h1]
      by_cases h2 : j < b.length
      · rw [if_pos ⟨by omega, by omega⟩]
        rfl
      · rw [if_neg (by omega), getD_past _ _ (by omega)]
  unfold padL
  rw [getD_set_if _ _ _ _ (by rw [List.length_set, lay_length, List.length_replicate]; omega), hu _ (by omega), hu _ hi]
  by_cases h1 : i = padN b - 1
  · rw [if_pos h1.symm, if_pos h1]
    by_cases h2 : b.length = padN b - 1
    · rw [if_pos h2, if_pos h2]
      rfl
    · rw [if_neg h2, if_neg h2, getD_past _ _ (by omega)]
      rfl
  · rw [if_neg (fun e => h1 e.symm), if_neg h1]
    by_cases h2 : i = b.length
    · rw [if_pos h2.symm, if_pos h2]
    · rw [if_neg (fun e => h2 e.symm), if_neg h2]
theorem pad_short (a b : List UInt8) (hN : padN a = padN b) (h : padL a = padL b) : ¬ a.length < b.length := by
  intro hl
  have hgb := padN_gt b
  have e1 := padL_get a b.length (by rw [hN]; exact hgb)
  have e2 := padL_get b b.length hgb
  rw [h, e2, hN] at e1
  rw [getD_past a b.length (by omega), if_neg (show ¬ b.length = a.length by omega), if_pos rfl] at e1
  by_cases h1 : b.length = padN b - 1
  · rw [if_pos h1, if_pos h1, if_pos h1, if_neg (by omega)] at e1
    exact absurd e1 (by decide)
  · rw [if_neg h1, if_neg h1] at e1
    exact absurd e1 (by decide)
theorem pad_inj (a b : List UInt8) (h : padL a = padL b) : a = b := by
  have hN : padN a = padN b := by rw [← padL_len, ← padL_len, h]
  have h1 := pad_short a b hN h
  have h2 := pad_short b a hN.symm h.symm
  have hga := padN_gt a
  apply ext_getD (by omega)
  intro i hi
  have e1 := padL_get a i (by omega)
  have e2 := padL_get b i (by omega)
  rw [h, e2, hN, show a.length = b.length by omega] at e1
  by_cases h3 : i = padN b - 1
  · omega
  · rw [if_neg h3, if_neg h3, if_neg (by omega), if_neg (by omega)] at e1
    exact e1.symm
theorem pad_same (a b : List UInt8) : (padL a == padL b) = (a == b) := by
  rw [Bool.eq_iff_iff, beq_iff_eq, beq_iff_eq]
  exact ⟨pad_inj a b, fun h => by rw [h]⟩

/-! ### Digests and their texts -/
theorem dgx_nat : ∀ y : Fin 16, dgN (dgx y.val).toNat = y.val := by decide
theorem dgx_of : ∀ c : Fin 256, dgN c.val < 16 → dgx (dgN c.val) = UInt8.ofNat c.val := by decide +kernel
theorem dgx_mono : ∀ y z : Fin 16, decide (dgx y.val < dgx z.val) = decide (y.val < z.val) := by decide +kernel
theorem txI_at (f : Nat → Nat) (k i : Nat) (hi : i < k) : (txI f k).getD (2 * i) 0 = dgx (f i / 16) ∧ (txI f k).getD (2 * i + 1) 0 = dgx (f i % 16) := by
  induction k with
  | zero => omega
  | succ k ih =>
    rw [txI_succ, getD_append_if, getD_append_if, txI_len]
    by_cases h : i < k
    · rw [if_pos (by omega), if_pos (by omega)]
      exact ih h
    · obtain rfl : i = k := by omega
      rw [if_neg (by omega), if_neg (by omega), show 2 * i - 2 * i = 0 by omega, show 2 * i + 1 - 2 * i = 1 by omega]
      exact ⟨rfl, rfl⟩
/-- The text of a digest. -/
def txB (f : Nat → Nat) : ByteArray := ⟨(txI f 32).toArray⟩
theorem txB_list (f : Nat → Nat) : (txB f).toList = txI f 32 := by rw [ByteArray.toList_eq]; rfl
theorem txB_size (f : Nat → Nat) : (txB f).size = 64 := by rw [← size_toList, txB_list, txI_len]
theorem dS_tx (f : Nat → Nat) (hf : ∀ i, i < 32 → f i < 256) (i : Nat) (hi : i < 32) : dS (txB f) (2 * i) = f i / 16 ∧ dS (txB f) (2 * i + 1) = f i % 16 := by
  unfold dS
  rw [txB_list, (txI_at f 32 i hi).1, (txI_at f 32 i hi).2]
  have := hf i hi
  exact ⟨dgx_nat ⟨f i / 16, by omega⟩, dgx_nat ⟨f i % 16, by omega⟩⟩
theorem ok_tx (f : Nat → Nat) (hf : ∀ i, i < 32 → f i < 256) : okS (txB f) = true := by
  refine okS_yes _ (txB_size f) fun j hj => ?_
  have := hf (j / 2) (by omega)
  rcases Nat.mod_two_eq_zero_or_one j with h | h
  · rw [show j = 2 * (j / 2) by omega, (dS_tx f hf (j / 2) (by omega)).1]
    omega
  · rw [show j = 2 * (j / 2) + 1 by omega, (dS_tx f hf (j / 2) (by omega)).2]
    omega
theorem idP_tx (f : Nat → Nat) (hf : ∀ i, i < 32 → f i < 256) (i : Nat) (hi : i < 32) : idP (dS (txB f)) i = f i := by
  unfold idP
  rw [(dS_tx f hf i hi).1, (dS_tx f hf i hi).2]
  omega
theorem tx_idP (s : ByteArray) (h : okS s = true) : txB (idP (dS s)) = s := by
  unfold okS at h
  rw [Bool.and_eq_true, decide_eq_true_eq, List.all_eq_true] at h
  obtain ⟨h64, hd⟩ := h
  have hlt : ∀ j, j < 64 → dS s j < 16 := fun j hj => by simpa using hd j (by simpa using hj)
  have hback : ∀ j, j < 64 → dgx (dS s j) = s.toList.getD j 0 := by
    intro j hj
    have h1 := hlt j hj
    unfold dS at h1 ⊢
    rw [dgx_of ⟨(s.toList.getD j 0).toNat, UInt8.toNat_lt _⟩ h1]
    simp
  have hl : txI (idP (dS s)) 32 = s.toList := by
    apply ext_getD (by rw [txI_len, size_toList, h64])
    intro j hj
    rw [txI_len] at hj
    have h1 := hlt (2 * (j / 2)) (by omega)
    have h2 := hlt (2 * (j / 2) + 1) (by omega)
    have ha := txI_at (idP (dS s)) 32 (j / 2) (by omega)
    unfold idP at ha
    rw [show (16 * dS s (2 * (j / 2)) + dS s (2 * (j / 2) + 1)) / 16 = dS s (2 * (j / 2)) by omega, show (16 * dS s (2 * (j / 2)) + dS s (2 * (j / 2) + 1)) % 16 = dS s (2 * (j / 2) + 1) by omega, hback _ (by omega), hback _ (by omega)] at ha
    rcases Nat.mod_two_eq_zero_or_one j with h | h
    · have e : j = 2 * (j / 2) := by omega
      rw [← e] at ha
      exact ha.1
    · have e : j = 2 * (j / 2) + 1 := by omega
      rw [← e] at ha
      exact ha.2
  unfold txB
  rw [hl, ByteArray.toList_eq]
/-- The text from the byte k on, n bytes of it. -/
def txF (f : Nat → Nat) : Nat → Nat → List UInt8
  | 0, _ => []
  | n + 1, k => dgx (f k / 16) :: dgx (f k % 16) :: txF f n (k + 1)
theorem txI_txF (f : Nat → Nat) : ∀ n k, txI f (k + n) = txI f k ++ txF f n k
  | 0, k => by simp [txF]
  | n + 1, k => by rw [show k + (n + 1) = k + 1 + n by omega, txI_txF f n (k + 1), txI_succ, List.append_assoc]; rfl
theorem less_tx (f g : Nat → Nat) (hf : ∀ i, i < 32 → f i < 256) (hg : ∀ i, i < 32 → g i < 256) : ∀ n k, k + n = 32 → bytesLess (txF f n k) (txF g n k) = lsR f g n k
  | 0, _, _ => rfl
  | n + 1, k, hk => by
    have h1 := hf k (by omega)
    have h2 := hg k (by omega)
    have m1 : decide (dgx (f k / 16) < dgx (g k / 16)) = decide (f k / 16 < g k / 16) := dgx_mono ⟨f k / 16, by omega⟩ ⟨g k / 16, by omega⟩
    have m2 : decide (dgx (f k % 16) < dgx (g k % 16)) = decide (f k % 16 < g k % 16) := dgx_mono ⟨f k % 16, by omega⟩ ⟨g k % 16, by omega⟩
    have eqx : ∀ y z : Nat, y < 16 → z < 16 → (dgx y == dgx z) = decide (y = z) := fun y z hy hz => by
      rw [Bool.eq_iff_iff, beq_iff_eq, decide_eq_true_eq]
      have ha := dgx_nat ⟨y, hy⟩
      have hb := dgx_nat ⟨z, hz⟩
      dsimp only at ha hb
      exact ⟨fun e => by rw [← ha, ← hb, e], fun e => by rw [e]⟩
    simp only [txF, bytesLess, lsR]
    have e1 := eqx (f k / 16) (g k / 16) (by omega) (by omega)
    have e2 := eqx (f k % 16) (g k % 16) (by omega) (by omega)
    rw [m1, m2, e1, e2, less_tx f g hf hg n (k + 1) (by omega)]
    clear m1 m2 e1 e2 eqx
    generalize f k = p at *
    generalize g k = q at *
    by_cases e : p = q
    · subst e
      simp
    · rw [if_pos e]
      by_cases r : p / 16 = q / 16
      · have r2 : ¬ p % 16 = q % 16 := by omega
        rw [r, decide_eq_false r2]
        simp
        omega
      · rw [decide_eq_false r]
        simp
        omega
theorem tx_less (f g : Nat → Nat) (hf : ∀ i, i < 32 → f i < 256) (hg : ∀ i, i < 32 → g i < 256) : bytesLess (txB f).toList (txB g).toList = lsR f g 32 0 := by
  have hx : ∀ f, (txB f).toList = txF f 32 0 := fun f => by rw [txB_list]; exact txI_txF f 32 0
  rw [hx, hx]
  exact less_tx f g hf hg 32 0 rfl
theorem lsR_both (f g : Nat → Nat) : ∀ n k, (lsR f g n k && lsR g f n k) = false
  | 0, _ => rfl
  | n + 1, k => by
    simp only [lsR]
    by_cases e : f k = g k
    · rw [if_neg (by simpa using e), if_neg (by simpa using e.symm)]
      exact lsR_both f g n (k + 1)
    · rw [if_pos e, if_pos (fun h => e h.symm)]
      simp
      omega
theorem lsR_none (f g : Nat → Nat) : ∀ n k, (!lsR f g n k && !lsR g f n k) = true ↔ ∀ i, k ≤ i → i < k + n → f i = g i
  | 0, k => ⟨fun _ i h1 h2 => by omega, fun _ => rfl⟩
  | n + 1, k => by
    simp only [lsR]
    by_cases e : f k = g k
    · rw [if_neg (by simpa using e), if_neg (by simpa using e.symm), lsR_none f g n (k + 1)]
      constructor
      · intro h i h1 h2
        by_cases hi : i = k
        · rw [hi]; exact e
        · exact h i (by omega) (by omega)
      · intro h i h1 h2
        exact h i (by omega) (by omega)
    · rw [if_pos e, if_pos (fun h => e h.symm)]
      constructor
      · intro h
        simp at h
        omega
      · intro h
        exact absurd (h k (by omega) (by omega)) e
theorem same_less (f g : Nat → Nat) : same32 f g = (!lsR f g 32 0 && !lsR g f 32 0) := by
  rw [Bool.eq_iff_iff, same32_iff, lsR_none]
  exact ⟨fun h i _ h2 => h i (by omega), fun h i hi => h i (by omega) (by omega)⟩
end Go.Proofs.YthjmjccggkejhaaDoor
