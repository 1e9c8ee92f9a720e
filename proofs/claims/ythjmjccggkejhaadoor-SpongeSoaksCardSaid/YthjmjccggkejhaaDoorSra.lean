/- Mix and the rounds of the document: mathematics; Left, Number. -/
import Derived.Test.YthjmjccggkejhaaDoorSqa
import Derived.BigQuiet
namespace Go.Proofs.YthjmjccggkejhaaDoor
open Go.RowKit Go.Shelf

/-! ### From place to place -/
def ppX (t : Nat) : Nat := ([1, 0, 2, 1, 2, 3, 3, 0, 1, 3, 1, 4, 4, 0, 3, 4, 3, 2, 2, 0, 4, 2, 4, 1, 1] : List Nat).getD t 0
def ppY (t : Nat) : Nat := ([0, 2, 1, 2, 3, 3, 0, 1, 3, 1, 4, 4, 0, 3, 4, 3, 2, 2, 0, 4, 2, 4, 1, 1, 0] : List Nat).getD t 0
/-- The place behind t steps. -/
def ppN (t : Nat) : Nat := 5 * ppY t + ppX t
set_option maxRecDepth 100000 in
theorem pp_step : ∀ t : Fin 24, ppX (t.val + 1) = ppY t.val ∧ ppY (t.val + 1) = (2 * ppX t.val + 3 * ppY t.val) % 5 ∧ ppX t.val < 5 ∧ ppY t.val < 5 := by decide +kernel
set_option maxRecDepth 100000 in
theorem pp_lt : ∀ t : Fin 25, ppX t.val < 5 ∧ ppY t.val < 5 := by decide +kernel
set_option maxRecDepth 100000 in
theorem pp_far : ∀ t : Fin 24, ∀ s : Fin 24, s.val < t.val → ppN (s.val + 1) ≠ ppN (t.val + 1) := by decide +kernel
set_option maxRecDepth 100000 in
theorem pp_to : ∀ i : Fin 25, i.val ≠ 0 → ∃ s : Fin 24, ppN (s.val + 1) = i.val ∧ ppX s.val = mX i.val ∧ ppY s.val = i.val % 5 ∧ nm (mX i.val) (i.val % 5) = ppN s.val ∧ turnsF (nm (mX i.val) (i.val % 5)) = (s.val + 1) * (s.val + 2) / 2 % 64 := by decide +kernel
/-- Lanes behind t steps. -/
def rhP (T : Nat → Nat) : Nat → Nat → Nat
  | 0 => T
  | t + 1 => fun i => if i = ppN (t + 1) then rot ((t + 1) * (t + 2) / 2 % 64) (T (ppN t)) else rhP T t i
set_option maxRecDepth 100000 in
theorem rhP_far (T : Nat → Nat) (i : Nat) : ∀ t, (∀ s, s < t → ppN (s + 1) ≠ i) → rhP T t i = T i
  | 0, _ => rfl
  | t + 1, h => by
    show (if i = ppN (t + 1) then _ else rhP T t i) = T i
    rw [if_neg (fun e => h t (by omega) e.symm), rhP_far T i t (fun s hs => h s (by omega))]
set_option maxRecDepth 100000 in
theorem rhP_next (T : Nat → Nat) (t : Nat) (ht : t < 24) : rhP T t (ppN (t + 1)) = T (ppN (t + 1)) :=
  rhP_far T _ t fun s hs => pp_far ⟨t, ht⟩ ⟨s, by omega⟩ hs
set_option maxRecDepth 100000 in
theorem rhP_at (T : Nat → Nat) (s : Nat) : ∀ t, s < t → t ≤ 24 → rhP T t (ppN (s + 1)) = rot ((s + 1) * (s + 2) / 2 % 64) (T (ppN s))
  | 0, h, _ => by omega
  | t + 1, h, h2 => by
    show (if ppN (s + 1) = ppN (t + 1) then _ else rhP T t (ppN (s + 1))) = _
    by_cases e : s = t
    · subst e
      rw [if_pos rfl]
    · rw [if_neg (pp_far ⟨t, by omega⟩ ⟨s, by omega⟩ (by show s < t; omega)), rhP_at T s t (by omega) (by omega)]
set_option maxRecDepth 100000 in
theorem rhP_lt (T : Nat → Nat) (hT : Lok T) (t : Nat) (ht : t ≤ 24) : Lok (rhP T t) := by
  induction t with
  | zero => exact hT
  | succ t ih =>
    intro i hi
    show (if i = ppN (t + 1) then _ else rhP T t i) < _
    split
    · have h := pp_lt ⟨t, by omega⟩
      exact rot_lt _ _ (hT _ (by unfold ppN; dsimp only at h; omega))
    · exact ih (by omega) i hi
/-- A lane and its columns, put together the other way. -/
def thT (f : Nat → Nat) (i : Nat) : Nat := f i ^^^ (colF f ((i % 5 + 4) % 5) ^^^ rot 1 (colF f ((i % 5 + 1) % 5)))
set_option maxRecDepth 100000 in
theorem thT_lt (f : Nat → Nat) (hf : Lok f) : Lok (thT f) := fun i hi => xor_lt64 _ _ (hf i hi) (xor_lt64 _ _ (colF_lt f hf _) (rot_lt _ _ (colF_lt f hf _)))
set_option maxRecDepth 100000 in
theorem thT_lane (f : Nat → Nat) (x y : Nat) (hx : x < 5) : thT f (nm x y) = laneV f x y := by
  unfold thT laneV
  rw [show nm x y % 5 = x by unfold nm; omega, Nat.xor_assoc]
set_option maxRecDepth 100000 in
theorem thP_step (f : Nat → Nat) (k : Nat) : (fun i => if i = k then thT f k else (fun i => if i < k then thT f i else f i) i) = fun i => if i < k + 1 then thT f i else f i := by
  funext i
  by_cases h : i = k
  · subst h
    rw [if_pos rfl, if_pos (by omega)]
  · rw [if_neg h]
    show (if i < k then thT f i else f i) = _
    by_cases h2 : i < k
    · rw [if_pos h2, if_pos (by omega)]
    · rw [if_neg h2, if_neg (by omega)]
set_option maxRecDepth 100000 in
theorem rot_zero (a : Nat) (ha : a < 18446744073709551616) : rot 0 a = a := by
  refine lane_ext (rot_lt 0 a ha) ha fun j hj => ?_
  rw [rot_bit 0 a j (by decide) ha hj, show (j + (64 - 0)) % 64 = j by omega]
set_option maxRecDepth 100000 in
theorem rhP_mix (f : Nat → Nat) (hf : Lok f) (i : Nat) (hi : i < 25) : rhP (thT f) 24 i = mixF f i := by
  rw [mixF_at f i hi]
  unfold mixV
  by_cases h0 : i = 0
  · subst h0
    rw [rhP_far (thT f) 0 24 (fun s hs => by
      have : ∀ s : Fin 24, ppN (s.val + 1) ≠ 0 := by decide +kernel
      exact this ⟨s, hs⟩)]
    show thT f (nm 0 0) = rot 0 (laneV f 0 0)
    rw [thT_lane f 0 0 (by decide), rot_zero _ (laneV_lt f hf _ _)]
  · obtain ⟨s, h1, h2, h3, h4, h5⟩ := pp_to ⟨i, hi⟩ h0
    dsimp only at h1 h2 h3 h4 h5
    rw [h5, ← thT_lane f (mX i) (i % 5) (by unfold mX; omega), h4, ← rhP_at (thT f) s.val 24 s.isLt (Nat.le_refl _), h1]

/-! ### The rounds' numbers -/
def lfN (r : Nat) : Nat := if 255 < 2 * r then (2 * r - 256) ^^^ 113 else 2 * r
/-- Behind j bits: the register, and the number. -/
def inN (r : Nat) : Nat → Nat × Nat
  | 0 => (r, 0)
  | j + 1 => (lfN (inN r j).1, if lfN (inN r j).1 / 2 % 2 = 1 then (inN r j).2 ||| 2 ^ (2 ^ j - 1) else (inN r j).2)
/-- The register ahead of the round i. -/
def ouN : Nat → Nat
  | 0 => 1
  | i + 1 => (inN (ouN i) 7).1
def ouT (i : Nat) : Nat := ([1, 128, 216, 26, 223, 9, 53, 79, 202, 112, 65, 236, 213, 205, 99, 171, 170, 42, 242, 232, 55, 62, 11, 68, 142] : List Nat).getD i 0
set_option maxRecDepth 100000 in
theorem lf_lt : ∀ r : Fin 256, lfN r.val < 256 := by decide +kernel
set_option maxRecDepth 100000 in
theorem in_lt (r : Nat) (hr : r < 256) (j : Nat) : (inN r j).1 < 256 := by
  induction j with
  | zero => exact hr
  | succ j ih => exact lf_lt ⟨_, ih⟩
set_option maxRecDepth 100000 in
theorem ou_lt (i : Nat) : ouN i < 256 := by
  induction i with
  | zero => decide
  | succ i ih => exact in_lt _ ih 7
set_option maxRecDepth 100000 in
theorem in_lt2 (r : Nat) (j : Nat) (hj : j ≤ 7) : (inN r j).2 < 18446744073709551616 := by
  induction j with
  | zero => show 0 < _; omega
  | succ j ih =>
    show (if lfN (inN r j).1 / 2 % 2 = 1 then (inN r j).2 ||| 2 ^ (2 ^ j - 1) else (inN r j).2) < _
    split
    · have h1 : 2 ^ j ≤ 2 ^ 6 := Nat.pow_le_pow_right (by decide) (by omega)
      have h2 : 2 ^ (2 ^ j - 1) < 2 ^ 64 := Nat.pow_lt_pow_right (by decide) (by omega)
      exact Nat.or_lt_two_pow (n := 64) (ih (by omega)) h2
    · exact ih (by omega)
set_option maxRecDepth 100000 in
theorem ou_step : ∀ n : Fin 24, (inN (ouT n.val) 7).1 = ouT (n.val + 1) := by decide +kernel
set_option maxRecDepth 100000 in
theorem ou_tab (n : Nat) (hn : n ≤ 24) : ouN n = ouT n := by
  induction n with
  | zero => rfl
  | succ n ih =>
    show (inN (ouN n) 7).1 = _
    rw [ih (by omega)]
    exact ou_step ⟨n, by omega⟩
set_option maxRecDepth 100000 in
theorem rn_tab : ∀ n : Fin 24, (inN (ouT n.val) 7).2 = rnN n.val := by decide +kernel
set_option maxRecDepth 100000 in
theorem rn_of (n : Nat) (hn : n < 24) : (inN (ouN n) 7).2 = rnN n := by
  rw [ou_tab n (by omega)]
  exact rn_tab ⟨n, hn⟩

/-! ### Left, Number -/
set_option maxRecDepth 100000 in
set_option maxHeartbeats 2000000 in
theorem left_any (a n : Nat) (w : World) (ha : a < 18446744073709551616) (hn : n ≤ 100000) : Calls Tryd.prog 51 #[.int .u64 (a : Int), .int .i64 (n : Int)] w fun e w' => e = .returned (.int .u64 (rot (n % 64) a : Nat)) ∧ Ext w w' := by
  by_cases h0 : n % 64 = 0
  · have HR := Lib.hid (show rot (n % 64) a = a by rw [h0, rot_zero a ha])
    have hm : (n : Int) % 64 = 0 := by omega
    go_enter Tryd.func51, Tryd.ntmps51
    go_wp2_with fail
    go_ret
    exact ⟨by rw [HR.out]; rfl, Ext.refl _⟩
  · obtain ⟨m, hm⟩ : ∃ m, n % 64 = m := ⟨_, rfl⟩
    have hmi : (n : Int) % 64 = (m : Int) := by omega
    have hm64 : m < 64 := by omega
    have hz : ((m : Int) == 0) = false := by simp; omega
    have hw : IntKind.u64.wrap ((a : Int) * 2 ^ m) = ((a * 2 ^ m % 18446744073709551616 : Nat) : Int) := by
      simp [IntKind.wrap, IntKind.bits, IntKind.signed]
    have hd : ((a : Int) / 2 ^ (64 - m)) = ((a / 2 ^ (64 - m) : Nat) : Int) := by simp
    have HO := Lib.hid (u64_or_nat (a * 2 ^ m % 18446744073709551616) (a / 2 ^ (64 - m)) (Nat.mod_lt _ (by decide)) (Nat.lt_of_le_of_lt (Nat.div_le_self _ _) ha))
    have HW := Lib.hid (And.intro hw hd)
    rw [hm]
    clear hw hd hm h0
    have b1 : (0 : Int) ≤ (m : Int) := by omega
    have b2 : (0 : Int) ≤ 64 - (m : Int) := by omega
    have b3 : (64 - (m : Int)).toNat = 64 - m := by omega
    go_enter Tryd.func51, Tryd.ntmps51
    go_wp2_with fail
    go_region
    go_wp2_with fail
    go_ret
    refine ⟨?_, (Ext.refl w).drew⟩
    rw [HW.out.1, HW.out.2, HO.out]
    rfl
end Go.Proofs.YthjmjccggkejhaaDoor
