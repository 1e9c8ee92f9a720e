/- Mathematics of digits: a number's digits to the base B, the highest one first; how they stand; digits without noughts ahead. No program is named here. -/
namespace Go.Proofs.Ytdlllihfibjabaa

/-- The last m digits of n to the base B, the highest one first. -/
def digs (B : Nat) : Nat → Nat → List Nat
  | 0, _ => []
  | m + 1, n => digs B m (n / B) ++ [n % B]
/-- The number of digits. -/
def numD (B : Nat) (l : List Nat) : Nat := l.foldl (fun n d => n * B + d) 0

theorem digs_len (B m : Nat) : ∀ n, (digs B m n).length = m := by
  induction m with
  | zero => intro n; rfl
  | succ m ih => intro n; simp [digs, ih]
theorem digs_lt (B m : Nat) (hB : 0 < B) : ∀ n, ∀ d ∈ digs B m n, d < B := by
  induction m with
  | zero => intro n d h; cases h
  | succ m ih =>
    intro n d h
    rcases List.mem_append.1 h with h | h
    · exact ih _ _ h
    · simp at h
      subst h
      exact Nat.mod_lt _ hB
theorem numD_snoc (B : Nat) (l : List Nat) (d : Nat) : numD B (l ++ [d]) = numD B l * B + d := by simp [numD]
theorem numD_digs (B m : Nat) : ∀ n, n < B ^ m → numD B (digs B m n) = n := by
  induction m with
  | zero => intro n h; simp at h; subst h; rfl
  | succ m ih =>
    intro n h
    rw [digs, numD_snoc, ih (n / B) (Nat.div_lt_of_lt_mul (by rw [Nat.pow_succ, Nat.mul_comm] at h; exact h)), Nat.mul_comm]
    exact Nat.div_add_mod n B
theorem snoc_cases {P : List Nat → Prop} (h0 : P []) (h1 : ∀ l d, P l → P (l ++ [d])) : ∀ l, P l := by
  have h : ∀ n, ∀ l : List Nat, l.length = n → P l := by
    intro n
    induction n with
    | zero => intro l hl; rw [List.eq_nil_of_length_eq_zero hl]; exact h0
    | succ n ih =>
      intro l hl
      have hne : l ≠ [] := by intro e; rw [e] at hl; cases hl
      rw [← List.dropLast_concat_getLast hne]
      exact h1 _ _ (ih _ (by rw [List.length_dropLast, hl]; rfl))
  exact fun l => h _ l rfl
theorem digs_numD (B : Nat) (l : List Nat) : (∀ d ∈ l, d < B) → digs B l.length (numD B l) = l := by
  refine snoc_cases (P := fun l => (∀ d ∈ l, d < B) → digs B l.length (numD B l) = l) (fun _ => rfl) ?_ l
  intro l d ih h
  have hd : d < B := h d (by simp)
  rw [List.length_append, List.length_singleton, numD_snoc, digs, show (numD B l * B + d) / B = numD B l from ?_, show (numD B l * B + d) % B = d from ?_, ih (fun e he => h e (by simp [he]))]
  · rw [Nat.mul_comm, Nat.mul_add_mod]; exact Nat.mod_eq_of_lt hd
  · rw [Nat.mul_comm, Nat.mul_add_div (by omega), Nat.div_eq_of_lt hd, Nat.add_zero]
theorem digs_get (B m : Nat) : ∀ n k, k < m → (digs B m n)[k]? = some (n / B ^ (m - 1 - k) % B) := by
  induction m with
  | zero => intro n k h; omega
  | succ m ih =>
    intro n k h
    rw [digs, List.getElem?_append, digs_len]
    by_cases hk : k < m
    · rw [if_pos hk, ih (n / B) k hk, Nat.div_div_eq_div_mul, Nat.mul_comm B, ← Nat.pow_succ]
      congr 4
      omega
    · rw [if_neg hk]
      obtain rfl : k = m := by omega
      simp
theorem digs_map (B m n : Nat) (f : Nat → Nat) (hf : ∀ k, k < m → f k = n / B ^ (m - 1 - k) % B) : (List.range m).map f = digs B m n := by
  apply List.ext_getElem?
  intro k
  by_cases hk : k < m
  · rw [digs_get B m n k hk, List.getElem?_map, List.getElem?_range hk]
    simp [hf k hk]
  · rw [List.getElem?_eq_none (by simp; omega), List.getElem?_eq_none (by rw [digs_len]; omega)]
theorem numD_zeros (B k : Nat) (l : List Nat) : numD B (List.replicate k 0 ++ l) = numD B l := by
  unfold numD
  rw [List.foldl_append]
  congr 1
  induction k with
  | zero => rfl
  | succ k ih => rw [List.replicate_succ, List.foldl_cons]; simpa using ih

/-! ### Without noughts ahead -/
def dw (l : List Nat) : List Nat := l.dropWhile (· == 0)
/-- Without noughts ahead, but for the last one. -/
def strip (l : List Nat) : List Nat := dw l.dropLast ++ (l.getLast?).toList
theorem dw_split (l : List Nat) : ∃ k, l = List.replicate k 0 ++ dw l := by
  induction l with
  | nil => exact ⟨0, rfl⟩
  | cons d l ih =>
    unfold dw
    rw [List.dropWhile_cons]
    by_cases h : (d == 0) = true
    · rw [if_pos h]
      obtain ⟨k, hk⟩ := ih
      refine ⟨k + 1, ?_⟩
      rw [List.replicate_succ, List.cons_append]
      congr 1
      simpa using h
    · rw [if_neg h]
      exact ⟨0, rfl⟩
theorem dw_head (l : List Nat) (d : Nat) (r : List Nat) (h : dw l = d :: r) : d ≠ 0 := by
  induction l with
  | nil => cases h
  | cons x l ih =>
    unfold dw at h
    rw [List.dropWhile_cons] at h
    by_cases hx : (x == 0) = true
    · rw [if_pos hx] at h; exact ih h
    · rw [if_neg hx] at h
      injection h with h1 h2
      subst h1
      simpa using hx
theorem dw_snoc (l : List Nat) (d : Nat) : dw (l ++ [d]) = if d ≠ 0 ∨ dw l ≠ [] then dw l ++ [d] else [] := by
  induction l with
  | nil =>
    by_cases h : d = 0
    · subst h; rfl
    · have : (d == 0) = false := by simpa using h
      simp [dw, this, h]
  | cons x l ih =>
    unfold dw at *
    rw [List.cons_append, List.dropWhile_cons, List.dropWhile_cons]
    by_cases hx : (x == 0) = true
    · rw [if_pos hx, if_pos hx]; exact ih
    · rw [if_neg hx, if_neg hx]; simp
theorem dw_zeros (k : Nat) (l : List Nat) : dw (List.replicate k 0 ++ l) = dw l := by
  induction k with
  | zero => rfl
  | succ k ih => rw [List.replicate_succ, List.cons_append]; exact ih
theorem dw_id (l : List Nat) (h : ∀ d r, l = d :: r → d ≠ 0) : dw l = l := by
  cases l with
  | nil => rfl
  | cons d r =>
    have : (d == 0) = false := by simpa using h d r rfl
    simp [dw, this]
theorem strip_snoc (l : List Nat) (d : Nat) : strip (l ++ [d]) = dw l ++ [d] := by simp [strip]
theorem numD_strip (B : Nat) (l : List Nat) (hne : l ≠ []) : numD B (strip l) = numD B l := by
  rw [← List.dropLast_concat_getLast hne, strip_snoc, numD_snoc, numD_snoc]
  congr 2
  obtain ⟨k, hk⟩ := dw_split l.dropLast
  conv => rhs; rw [hk]
  rw [numD_zeros]
theorem strip_pad (k : Nat) (l : List Nat) (hne : l ≠ []) (h : ∀ d r, l = d :: r → r ≠ [] → d ≠ 0) : strip (List.replicate k 0 ++ l) = l := by
  rw [← List.dropLast_concat_getLast hne, ← List.append_assoc, strip_snoc, dw_zeros]
  congr 1
  refine dw_id _ fun d r e => ?_
  refine h d (r ++ [l.getLast hne]) ?_ (by simp)
  rw [← List.cons_append, ← e, List.dropLast_concat_getLast]

/-! ### How numbers stand as their digits do -/
def cmpD : List Nat → List Nat → Int
  | a :: l, b :: r => if a < b then -1 else if b < a then 1 else cmpD l r
  | _, _ => 0
theorem cmpD_lt {x y : Nat} (l r : List Nat) (h : x < y) : cmpD (x :: l) (y :: r) = -1 := by
  show (if x < y then (-1 : Int) else _) = _
  rw [if_pos h]
theorem cmpD_gt {x y : Nat} (l r : List Nat) (h : y < x) : cmpD (x :: l) (y :: r) = 1 := by
  show (if x < y then (-1 : Int) else if y < x then 1 else _) = _
  rw [if_neg (by omega), if_pos h]
theorem cmpD_eq {x : Nat} (l r : List Nat) : cmpD (x :: l) (x :: r) = cmpD l r := by
  show (if x < x then (-1 : Int) else if x < x then 1 else _) = _
  rw [if_neg (by omega), if_neg (by omega)]
theorem cmpD_snoc (l r : List Nat) (a b : Nat) (h : l.length = r.length) : cmpD (l ++ [a]) (r ++ [b]) = if cmpD l r = 0 then cmpD [a] [b] else cmpD l r := by
  induction l generalizing r with
  | nil =>
    cases r with
    | nil => simp [cmpD]
    | cons _ _ => cases h
  | cons x l ih =>
    cases r with
    | nil => cases h
    | cons y r =>
      rw [List.cons_append, List.cons_append]
      have ih' := ih r (by simpa using h)
      by_cases h1 : x < y
      · rw [cmpD_lt _ _ h1, cmpD_lt _ _ h1, if_neg (by decide)]
      · by_cases h2 : y < x
        · rw [cmpD_gt _ _ h2, cmpD_gt _ _ h2, if_neg (by decide)]
        · obtain rfl : x = y := by omega
          rw [cmpD_eq, cmpD_eq, ih']
theorem cmpD_digs (B m : Nat) (hB : 0 < B) : ∀ a b, a < B ^ m → b < B ^ m → cmpD (digs B m a) (digs B m b) = if a < b then -1 else if b < a then 1 else 0 := by
  induction m with
  | zero =>
    intro a b ha hb
    simp at ha hb
    subst ha
    subst hb
    rfl
  | succ m ih =>
    intro a b ha hb
    have h1 := ih (a / B) (b / B) (Nat.div_lt_of_lt_mul (by rw [Nat.pow_succ, Nat.mul_comm] at ha; exact ha)) (Nat.div_lt_of_lt_mul (by rw [Nat.pow_succ, Nat.mul_comm] at hb; exact hb))
    rw [digs, digs, cmpD_snoc _ _ _ _ (by rw [digs_len, digs_len]), h1]
    have ea := Nat.div_add_mod a B
    have eb := Nat.div_add_mod b B
    have la := Nat.mod_lt a hB
    have lb := Nat.mod_lt b hB
    rcases Nat.lt_trichotomy (a / B) (b / B) with hlt | heq | hgt
    · have : B * (a / B) + B ≤ B * (b / B) := by rw [← Nat.mul_succ]; exact Nat.mul_le_mul_left _ hlt
      rw [if_pos hlt, if_neg (by decide), if_pos (by omega)]
    · rw [heq] at ea
      rw [heq, if_neg (Nat.lt_irrefl _), if_neg (Nat.lt_irrefl _), if_pos rfl]
      simp only [cmpD]
      by_cases h2 : a % B < b % B
      · rw [if_pos h2, if_pos (by omega)]
      · rw [if_neg h2]
        by_cases h3 : b % B < a % B
        · rw [if_pos h3, if_neg (by omega), if_pos (by omega)]
        · rw [if_neg h3, if_neg (by omega), if_neg (by omega)]
    · have : B * (b / B) + B ≤ B * (a / B) := by rw [← Nat.mul_succ]; exact Nat.mul_le_mul_left _ hgt
      rw [if_neg (show ¬ a / B < b / B by omega), if_pos hgt, if_neg (show ¬ (1 : Int) = 0 by decide), if_neg (by omega), if_pos (by omega)]
end Go.Proofs.Ytdlllihfibjabaa
