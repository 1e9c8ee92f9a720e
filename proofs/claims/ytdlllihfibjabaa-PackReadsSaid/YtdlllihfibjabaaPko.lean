/- Package pack: what Read answers, as plain mathematics; parts and their bytes lead back to one another. -/
import Derived.Test.YtdlllihfibjabaaPkn
import Derived.Test.YtdlllihfibjabaaDig
namespace Go.Proofs.Ytdlllihfibjabaa
open Go.RowKit Go.Shelf

/-! ### A word's bytes lead back -/
theorem pbytL_digs (n : Nat) : bytL n (List.range 32) = (digs 256 32 n).map UInt8.ofNat := by
  unfold bytL
  rw [← digs_map 256 32 n (dBits n 8), List.map_map]
  · rfl
  · intro k hk
    unfold dBits dAt
    rw [show (2 : Nat) ^ 8 = 256 from rfl, show (256 : Nat) ^ (32 - 1 - k) = 2 ^ (256 - 8 * (k + 1)) from by rw [show (256 : Nat) = 2 ^ 8 from rfl, ← Nat.pow_mul]; congr 1; omega]
theorem pM256 : M256 = 256 ^ 32 := by rw [M256_pow, show (256 : Nat) = 2 ^ 8 from rfl, ← Nat.pow_mul]
theorem pbeN_map (l : List Nat) (h : ∀ d ∈ l, d < 256) : beN (l.map UInt8.ofNat) = numD 256 l := by
  unfold beN numD
  rw [List.foldl_map]
  suffices H : ∀ (m : Nat), l.foldl (fun n d => n * 256 + (UInt8.ofNat d).toNat) m = l.foldl (fun n d => n * 256 + d) m from H 0
  induction l with
  | nil => intro m; rfl
  | cons d l ih =>
    intro m
    rw [List.foldl_cons, List.foldl_cons, UInt8.toNat_ofNat', Nat.mod_eq_of_lt (h d List.mem_cons_self)]
    exact ih (fun e he => h e (List.mem_cons_of_mem _ he)) _
theorem beN_bytL (n : Nat) (h : n < M256) : beN (bytL n (List.range 32)) = n := by
  rw [pbytL_digs, pbeN_map _ (digs_lt 256 32 (by decide) n), numD_digs 256 32 n (by rw [← pM256]; exact h)]
theorem beN_nbL (n : Nat) (h : n < 1000000000000) : beN (nbL n) = n := beN_bytL n (by unfold M256; omega)
theorem beN_lt256 (l : List UInt8) (h : l.length ≤ 32) : beN l < M256 := by
  rw [pM256]
  exact Nat.lt_of_lt_of_le (beN_lt l) (Nat.pow_le_pow_right (by decide) h)
theorem bytL_beN (l : List UInt8) (h : l.length = 32) : bytL (beN l) (List.range 32) = l := by
  have e1 : l = (l.map UInt8.toNat).map UInt8.ofNat := by
    rw [List.map_map]
    conv => lhs; rw [← List.map_id l]
    apply List.map_congr_left
    intro c _
    simp
  have hd : ∀ d ∈ l.map UInt8.toNat, d < 256 := by
    intro d hd
    obtain ⟨c, _, rfl⟩ := List.mem_map.1 hd
    exact c.toNat_lt
  have e2 : beN l = numD 256 (l.map UInt8.toNat) := by
    conv => lhs; rw [e1]
    exact pbeN_map _ hd
  have hl : (l.map UInt8.toNat).length = 32 := by simp [h]
  have e3 := digs_numD 256 _ hd
  rw [hl, ← e2] at e3
  rw [pbytL_digs, e3, ← e1]

/-! ### Chunks -/
/-- The word at the place i of bytes. -/
def chk (b : List UInt8) (i : Nat) : List UInt8 := (b.drop (32 * i)).take 32
theorem chk_len (b : List UInt8) (i : Nat) (h : 32 * i + 32 ≤ b.length) : (chk b i).length = 32 := by simp [chk]; omega
theorem chk_getD (b : List UInt8) (i j : Nat) (hj : j < 32) : (chk b i).getD j 0 = b.getD (32 * i + j) 0 := by
  unfold chk
  rw [getD_take _ _ _ hj, getD_drop]
theorem chk_app (a b : List UInt8) (i : Nat) (h : 32 * i + 32 ≤ a.length) : chk (a ++ b) i = chk a i := by
  apply ext_getD
  · rw [chk_len _ _ (by simp; omega), chk_len _ _ h]
  · intro j hj
    rw [chk_len _ _ (by simp; omega)] at hj
    rw [chk_getD _ _ _ hj, chk_getD _ _ _ hj, getD_append_if, if_pos (by omega)]
theorem chk_lay (R x : List UInt8) (i k : Nat) (hx : x.length = 32) (hi : 32 * i + 32 ≤ R.length) (hk : 32 * k + 32 ≤ R.length) : chk (lay R (32 * k) x) i = if i = k then x else chk R i := by
  apply ext_getD
  · rw [chk_len _ _ (by rw [lay_length]; omega)]
    split
    · exact hx.symm
    · rw [chk_len _ _ hi]
  · intro j hj
    rw [chk_len _ _ (by rw [lay_length]; omega)] at hj
    rw [chk_getD _ _ _ hj, lay_getD _ _ _ _ (by omega)]
    by_cases e : i = k
    · subst e
      rw [if_pos rfl, if_pos (by omega), Nat.add_sub_cancel_left]
    · rw [if_neg e, if_neg (by omega), chk_getD _ _ _ hj]
theorem chk_ext (a b : List UInt8) (n : Nat) (hl : a.length = b.length) (_hn : 32 * n ≤ a.length) (hc : ∀ i, i < n → chk a i = chk b i) (ht : a.drop (32 * n) = b.drop (32 * n)) : a = b := by
  apply ext_getD hl
  intro i hi
  by_cases h : i < 32 * n
  · have e := hc (i / 32) (by omega)
    have e1 : i = 32 * (i / 32) + i % 32 := by omega
    rw [e1, ← chk_getD _ _ _ (by omega), ← chk_getD _ _ _ (by omega), e]
  · have e1 : i = 32 * n + (i - 32 * n) := by omega
    rw [e1, ← getD_drop, ← getD_drop, ht]

/-! ### Heads and tails -/
/-- The bytes of a part's tail. -/
def tlL (p : Pt) : List UInt8 := if p.1 then nbL p.2.2.length ++ p.2.2 ++ List.replicate (flN p.2.2.length - p.2.2.length) 0 else []
theorem tlL_len (p : Pt) : (tlL p).length = tlN p := by
  unfold tlL tlN
  split
  · have : p.2.2.length ≤ flN p.2.2.length := by unfold flN; omega
    simp only [List.length_append, nbL_len, List.length_replicate]
    omega
  · rfl
/-- The tails of parts. -/
def tlA (l : List Pt) : List UInt8 := (l.map tlL).flatten
theorem tlA_cons (p : Pt) (l : List Pt) : tlA (p :: l) = tlL p ++ tlA l := by simp [tlA]
theorem tlA_app (l r : List Pt) : tlA (l ++ r) = tlA l ++ tlA r := by simp [tlA]
theorem tlA_len (l : List Pt) (k : Nat) : (tlA (l.take k)).length = tlS l k := by
  unfold tlA tlS
  rw [List.length_flatten, List.map_map]
  congr 1
  apply List.map_congr_left
  intro p _
  exact tlL_len p
/-- The head of the part i, behind the first k tails. -/
def hdV (l : List Pt) (k i : Nat) : List UInt8 := if (l.getD i (false, 0, [])).1 = true ∧ i < k then nbL (32 * l.length + tlS l i) else bytL (l.getD i (false, 0, [])).2.1 (List.range 32)
theorem hdL_chk (l : List Pt) (k : Nat) (hk : k ≤ l.length) (i : Nat) (hi : i < k) : chk (hdL l k) i = bytL (l.getD i (false, 0, [])).2.1 (List.range 32) := by
  induction k with
  | zero => omega
  | succ k ih =>
    rw [hdL_next l k (by omega)]
    by_cases e : i < k
    · rw [chk_app _ _ _ (by rw [hdL_len l k (by omega)]; omega)]
      exact ih (by omega) e
    · obtain rfl : i = k := by omega
      unfold chk
      rw [List.drop_append_of_le_length (by rw [hdL_len l i (by omega)]; omega), List.drop_of_length_le (by rw [hdL_len l i (by omega)]; omega), List.nil_append]
      exact List.take_of_length_le (by rw [bytL_len]; simp)
theorem lyR_app (R : List UInt8) (i : Nat) (d : List UInt8) : lyR R i d = lay R (32 * i) (nbL R.length) ++ (nbL d.length ++ d ++ List.replicate (flN d.length - d.length) 0) := by simp [lyR]
theorem lyF_chk (l : List Pt) (k : Nat) (hk : k ≤ l.length) (i : Nat) (hi : i < l.length) : chk (lyF l k) i = hdV l k i := by
  induction k with
  | zero =>
    show chk (hdL l l.length) i = _
    rw [hdL_chk l _ (Nat.le_refl _) i hi]
    unfold hdV
    rw [if_neg (by omega)]
  | succ k ih =>
    have hl := lyF_len l k (by omega)
    unfold lyF
    cases hp : (l.getD k (false, 0, [])).1 with
    | true =>
      rw [if_pos rfl, lyR_app, chk_app _ _ _ (by rw [lay_length]; omega), chk_lay _ _ _ _ (nbL_len _) (by omega) (by omega), ih (by omega)]
      unfold hdV
      by_cases e : i = k
      · subst e
        rw [if_pos rfl, if_pos ⟨hp, by omega⟩, hl]
      · rw [if_neg e]
        by_cases h2 : (l.getD i (false, 0, [])).1 = true ∧ i < k
        · rw [if_pos h2, if_pos ⟨h2.1, by omega⟩]
        · rw [if_neg h2, if_neg (fun h => h2 ⟨h.1, by omega⟩)]
    | false =>
      rw [if_neg (by simp), ih (by omega)]
      unfold hdV
      by_cases e : i = k
      · subst e
        rw [if_neg (by simp), if_neg (by rw [hp]; simp)]
      · by_cases h2 : (l.getD i (false, 0, [])).1 = true ∧ i < k
        · rw [if_pos h2, if_pos ⟨h2.1, by omega⟩]
        · rw [if_neg h2, if_neg (fun h => h2 ⟨h.1, by omega⟩)]
theorem lay_drop (R x : List UInt8) (a m : Nat) (h : a + x.length ≤ m) : (lay R a x).drop m = R.drop m := by
  apply ext_getD (by simp [lay_length])
  intro i hi
  simp [lay_length] at hi
  rw [getD_drop, getD_drop, lay_getD _ _ _ _ (by omega), if_neg (by omega)]
theorem take_snocP (l : List Pt) (k : Nat) (h : k < l.length) : l.take (k + 1) = l.take k ++ [l.getD k (false, 0, [])] := by
  rw [List.take_succ_eq_append_getElem h]
  simp [List.getD, h]
theorem lyF_drop (l : List Pt) (k : Nat) (hk : k ≤ l.length) : (lyF l k).drop (32 * l.length) = tlA (l.take k) := by
  induction k with
  | zero =>
    show (hdL l l.length).drop _ = _
    rw [List.drop_of_length_le (by rw [hdL_len l _ (Nat.le_refl _)]; omega)]
    rfl
  | succ k ih =>
    have hl := lyF_len l k (by omega)
    rw [take_snocP l k (by omega), tlA_app]
    unfold lyF
    cases hp : (l.getD k (false, 0, [])).1 with
    | true =>
      rw [if_pos rfl, lyR_app, List.drop_append_of_le_length (by rw [lay_length]; omega), lay_drop _ _ _ _ (by rw [nbL_len]; omega), ih (by omega)]
      congr 1
      rw [tlA_cons]
      unfold tlL
      rw [hp]
      simp [tlA]
    | false =>
      rw [if_neg (by simp), ih (by omega), tlA_cons]
      unfold tlL
      rw [hp]
      simp [tlA]
theorem layL_len (l : List Pt) (h : errP l = 0) : (layL l).length = 32 * l.length + tlS l l.length := by
  unfold layL
  rw [if_pos h, lyF_len l _ (Nat.le_refl _)]
theorem layL_chk (l : List Pt) (h : errP l = 0) (i : Nat) (hi : i < l.length) : chk (layL l) i = hdV l l.length i := by
  unfold layL
  rw [if_pos h, lyF_chk l _ (Nat.le_refl _) i hi]
theorem layL_drop (l : List Pt) (h : errP l = 0) : (layL l).drop (32 * l.length) = tlA l := by
  unfold layL
  rw [if_pos h, lyF_drop l _ (Nat.le_refl _), List.take_length]

/-! ### Read -/
/-- A Long part whose tail is next. -/
def lgO (all hd : Nat) (left : List UInt8) : Option (Pt × List UInt8) :=
  if hd = all - left.length ∧ 32 ≤ left.length ∧ beN (left.take 32) ≤ 200 ∧ flN (beN (left.take 32)) ≤ (left.drop 32).length ∧ blkB (((left.drop 32).take (flN (beN (left.take 32)))).drop (beN (left.take 32))) = true
  then some ((true, 0, (left.drop 32).take (beN (left.take 32))), (left.drop 32).drop (flN (beN (left.take 32)))) else none
/-- A part. -/
def rdP (all : Nat) (lg : Bool) (hd : Nat) (left : List UInt8) : Option (Pt × List UInt8) := if lg then lgO all hd left else some ((false, hd, []), left)
/-- The first k parts, and what is left. -/
def rdS (b : List UInt8) (ls : List Bool) : Nat → Option (List Pt × List UInt8)
  | 0 => if 32 * ls.length ≤ b.length then some ([], b.drop (32 * ls.length)) else none
  | k + 1 => (rdS b ls k).bind fun s => (rdP b.length (ls.getD k false) (beN (chk b k)) s.2).map fun q => (s.1 ++ [q.1], q.2)
/-- The parts of bytes. -/
def rdE (b : List UInt8) (ls : List Bool) : Option (List Pt) := (rdS b ls ls.length).bind fun s => if s.2.length = 0 then some s.1 else none
theorem rdS_none (b : List UInt8) (ls : List Bool) (k : Nat) (h : rdS b ls k = none) : ∀ m, k ≤ m → rdS b ls m = none := by
  intro m
  induction m with
  | zero => intro hm; obtain rfl : k = 0 := by omega
            exact h
  | succ m ih =>
    intro hm
    by_cases e : k = m + 1
    · rw [← e]; exact h
    · unfold rdS
      rw [ih (by omega)]
      rfl
theorem blkB_zeros (l : List UInt8) (h : blkB l = true) : l = List.replicate l.length 0 := by
  apply List.eq_replicate_of_mem
  intro c hc
  have := List.all_eq_true.1 h c hc
  simpa using this
theorem blkB_rep (n : Nat) : blkB (List.replicate n 0) = true := by
  unfold blkB
  rw [List.all_eq_true]
  intro c hc
  rw [List.eq_of_mem_replicate hc]
  rfl
/-- What a Long part that is read is. -/
theorem lgO_is (all hd : Nat) (left : List UInt8) (p : Pt) (left' : List UInt8) (h : lgO all hd left = some (p, left')) : p.1 = true ∧ mayB p = true ∧ hd = all - left.length ∧ left = tlL p ++ left' := by
  unfold lgO at h
  split at h
  · rename_i hc
    obtain ⟨h1, h2, h3, h4, h5⟩ := hc
    simp only [Option.some.injEq, Prod.mk.injEq] at h
    obtain ⟨rfl, rfl⟩ := h
    have hn : beN (left.take 32) ≤ flN (beN (left.take 32)) := by unfold flN; omega
    generalize hb : beN (left.take 32) = n at *
    have hlen : ((left.drop 32).take n).length = n := by rw [List.length_take]; omega
    refine ⟨rfl, ?_, h1, ?_⟩
    · unfold mayB
      simp [hlen, h3]
    · have e1 : nbL n = left.take 32 := by
        unfold nbL
        rw [← hb]
        exact bytL_beN _ (by rw [List.length_take]; omega)
      have e2 := blkB_zeros _ h5
      have e3 : (((left.drop 32).take (flN n)).drop n).length = flN n - n := by rw [List.length_drop, List.length_take]; omega
      rw [e3] at e2
      unfold tlL
      simp only [if_true, hlen]
      rw [← e2, e1, List.append_assoc, List.append_assoc]
      have e4 : (left.drop 32).take n = ((left.drop 32).take (flN n)).take n := by rw [List.take_take, Nat.min_eq_left hn]
      rw [e4, ← List.append_assoc (List.take n _), List.take_append_drop, List.take_append_drop, List.take_append_drop]
  · cases h
theorem lgO_of (all : Nat) (p : Pt) (left : List UInt8) (hp : p.1 = true) (hm : mayB p = true) : lgO all (all - (tlL p ++ left).length) (tlL p ++ left) = some (p, left) := by
  obtain ⟨lg, n, d⟩ := p
  simp only at hp
  subst hp
  have hd := mayB_data _ hm
  have h0 : n = 0 := by unfold mayB at hm; simp at hm; exact hm.1
  subst h0
  simp only at hd
  have hn : d.length ≤ flN d.length := by unfold flN; omega
  have ht : tlL (true, 0, d) = nbL d.length ++ (d ++ List.replicate (flN d.length - d.length) 0) := by simp [tlL]
  have e1 : (tlL (true, 0, d) ++ left).take 32 = nbL d.length := by
    rw [ht, List.append_assoc, List.take_append_of_le_length (by rw [nbL_len]; omega), List.take_of_length_le (by rw [nbL_len]; omega)]
  have e2 : (tlL (true, 0, d) ++ left).drop 32 = d ++ List.replicate (flN d.length - d.length) 0 ++ left := by
    rw [ht, List.append_assoc, List.drop_append_of_le_length (by rw [nbL_len]; omega), List.drop_of_length_le (by rw [nbL_len]; omega), List.nil_append]
  have e3 : beN (nbL d.length) = d.length := beN_nbL _ (by omega)
  have e4 : (d ++ List.replicate (flN d.length - d.length) 0 ++ left).take (flN d.length) = d ++ List.replicate (flN d.length - d.length) 0 := by
    rw [List.take_append_of_le_length (by simp; omega), List.take_of_length_le (by simp; omega)]
  unfold lgO
  rw [e1, e2, e3, e4]
  have c1 : 32 ≤ (tlL (true, 0, d) ++ left).length := by rw [ht]; simp [nbL_len]
  have c2 : flN d.length ≤ (d ++ List.replicate (flN d.length - d.length) 0 ++ left).length := by simp; omega
  have c3 : blkB ((d ++ List.replicate (flN d.length - d.length) (0 : UInt8)).drop d.length) = true := by
    rw [List.drop_append_of_le_length (by omega), List.drop_of_length_le (by omega), List.nil_append]
    exact blkB_rep _
  rw [if_pos ⟨rfl, c1, hd, c2, c3⟩]
  congr 2
  · rw [List.append_assoc, List.take_append_of_le_length (by omega), List.take_of_length_le (by omega)]
  · rw [List.drop_append_of_le_length (by simp; omega), List.drop_of_length_le (by simp; omega), List.nil_append]

/-- What the parts that are read are: their bytes are those that were read. -/
structure RdI (b : List UInt8) (ls : List Bool) (k : Nat) (ps : List Pt) (left : List UInt8) : Prop where
  len : ps.length = k
  big : 32 * ls.length ≤ b.length
  form : ps.map (·.1) = ls.take k
  may : ∀ p ∈ ps, mayB p = true
  word : ∀ p ∈ ps, p.2.1 < M256
  tails : b.drop (32 * ls.length) = tlA ps ++ left
  heads : ∀ i, i < k → chk b i = if (ps.getD i (false, 0, [])).1 = true then nbL (32 * ls.length + tlS ps i) else bytL (ps.getD i (false, 0, [])).2.1 (List.range 32)
theorem rdS_is (b : List UInt8) (ls : List Bool) (k : Nat) (hk : k ≤ ls.length) (ps : List Pt) (left : List UInt8) (h : rdS b ls k = some (ps, left)) : RdI b ls k ps left := by
  induction k generalizing ps left with
  | zero =>
    unfold rdS at h
    split at h
    · rename_i hb
      simp only [Option.some.injEq, Prod.mk.injEq] at h
      obtain ⟨rfl, rfl⟩ := h
      exact ⟨rfl, hb, rfl, by simp, by simp, rfl, fun i hi => absurd hi (by omega)⟩
    · cases h
  | succ k ih =>
    unfold rdS at h
    obtain ⟨⟨ps0, left0⟩, h0, h⟩ := Option.bind_eq_some_iff.1 h
    obtain ⟨⟨p, left1⟩, h1, h⟩ := Option.map_eq_some_iff.1 h
    simp only [Prod.mk.injEq] at h
    obtain ⟨rfl, rfl⟩ := h
    have I := ih (by omega) ps0 left0 h0
    have hcl := chk_len b k (by have := I.big; omega)
    dsimp only at h1
    have hlg : ls.getD k false = ls[k] := by simp [List.getD, show k < ls.length by omega]
    have hle : (b.drop (32 * ls.length)).length = b.length - 32 * ls.length := by simp
    have hP : p.1 = ls.getD k false ∧ mayB p = true ∧ p.2.1 < M256 ∧ left0 = tlL p ++ left1 ∧ chk b k = if p.1 = true then nbL (32 * ls.length + tlS ps0 k) else bytL p.2.1 (List.range 32) := by
      unfold rdP at h1
      cases hl : ls.getD k false with
      | true =>
        rw [hl] at h1
        simp only [if_true] at h1
        obtain ⟨g1, g2, g3, g4⟩ := lgO_is _ _ _ _ _ h1
        refine ⟨g1, g2, ?_, g4, ?_⟩
        · have : p.2.1 = 0 := by unfold mayB at g2; rw [g1] at g2; simp at g2; exact g2.1
          rw [this]; decide
        · rw [if_pos g1]
          have e1 : (tlA ps0).length = tlS ps0 k := by
            have := tlA_len ps0 ps0.length
            rw [List.take_length, I.len] at this
            exact this
          have e2 := congrArg List.length I.tails
          rw [hle, List.length_append, e1] at e2
          have e3 : b.length - left0.length = 32 * ls.length + tlS ps0 k := by have := I.big; omega
          rw [e3] at g3
          unfold nbL
          rw [← g3]
          exact (bytL_beN _ hcl).symm
      | false =>
        rw [hl] at h1
        simp only [Bool.false_eq_true, if_false, Option.some.injEq, Prod.mk.injEq] at h1
        obtain ⟨rfl, rfl⟩ := h1
        refine ⟨rfl, by simp [mayB], beN_lt256 _ (by omega), by simp [tlL], ?_⟩
        rw [if_neg (by simp)]
        exact (bytL_beN _ hcl).symm
    obtain ⟨g1, g2, g3, g4, g5⟩ := hP
    have hgk : ∀ i, i < k → (ps0 ++ [p]).getD i (false, 0, []) = ps0.getD i (false, 0, []) := by
      intro i hi
      simp only [List.getD]
      rw [List.getElem?_append_left (by rw [I.len]; exact hi)]
    have hgl : (ps0 ++ [p]).getD k (false, 0, []) = p := by
      simp only [List.getD]
      rw [List.getElem?_append_right (by rw [I.len]; exact Nat.le_refl _), I.len, Nat.sub_self]
      rfl
    have hts : ∀ i, i ≤ k → tlS (ps0 ++ [p]) i = tlS ps0 i := by
      intro i hi
      unfold tlS
      rw [List.take_append_of_le_length (by rw [I.len]; exact hi)]
    refine ⟨by simp [I.len], I.big, ?_, ?_, ?_, ?_, ?_⟩
    · rw [List.map_append, I.form, List.take_succ_eq_append_getElem (show k < ls.length by omega)]
      rw [← hlg, ← g1]
      rfl
    · intro q hq
      rcases List.mem_append.1 hq with hq | hq
      · exact I.may q hq
      · simp at hq; rw [hq]; exact g2
    · intro q hq
      rcases List.mem_append.1 hq with hq | hq
      · exact I.word q hq
      · simp at hq; rw [hq]; exact g3
    · rw [I.tails, tlA_app, tlA_cons, g4]
      simp [tlA]
    · intro i hi
      by_cases e : i < k
      · rw [hgk i e, hts i (by omega)]
        exact I.heads i e
      · obtain rfl : i = k := by omega
        rw [hgl, hts i (by omega)]
        exact g5
theorem errP_of (l : List Pt) (hl : l.length ≤ 16) (h : ∀ p ∈ l, mayB p = true) : errP l = 0 := by
  unfold errP
  rw [if_neg (by omega), if_pos (List.all_eq_true.2 h)]
/-- What is read has just these bytes. -/
theorem rdE_is (b : List UInt8) (ls : List Bool) (hl : ls.length ≤ 16) (ps : List Pt) (h : rdE b ls = some ps) : errP ps = 0 ∧ layL ps = b ∧ ps.map (·.1) = ls ∧ ∀ p ∈ ps, p.2.1 < M256 := by
  unfold rdE at h
  obtain ⟨⟨ps0, left⟩, h0, h⟩ := Option.bind_eq_some_iff.1 h
  dsimp only at h
  split at h
  · rename_i hz
    simp only [Option.some.injEq] at h
    subst h
    have I := rdS_is b ls _ (Nat.le_refl _) _ _ h0
    have hn := I.len
    have he : errP ps0 = 0 := errP_of _ (by omega) I.may
    have hle := layL_len ps0 he
    obtain rfl : left = [] := List.eq_nil_of_length_eq_zero hz
    have ht := I.tails
    rw [List.append_nil] at ht
    have hbl : b.length = 32 * ls.length + tlS ps0 ps0.length := by
      have e1 := congrArg List.length ht
      have e2 := tlA_len ps0 ps0.length
      rw [List.take_length] at e2
      rw [e2, List.length_drop] at e1
      have := I.big
      omega
    refine ⟨he, ?_, by rw [I.form, List.take_length], I.word⟩
    refine chk_ext _ _ ls.length (by rw [hle, hbl, hn]) (by rw [hle, hn]; omega) ?_ ?_
    · intro i hi
      rw [layL_chk ps0 he i (by omega), I.heads i hi]
      unfold hdV
      by_cases e : (ps0.getD i (false, 0, [])).1 = true
      · rw [if_pos ⟨e, by omega⟩, if_pos e, hn]
      · rw [if_neg (fun h => e h.1), if_neg e]
    · have := layL_drop ps0 he
      rw [hn] at this
      rw [this, ht]
  · cases h
/-- Bytes of parts are read as these. -/
theorem rdS_of (l : List Pt) (h : errP l = 0) (hw : ∀ p ∈ l, p.2.1 < M256) (k : Nat) (hk : k ≤ l.length) : rdS (layL l) (l.map (·.1)) k = some (l.take k, tlA (l.drop k)) := by
  have hle := layL_len l h
  have hn := errP_len l h
  induction k with
  | zero =>
    unfold rdS
    rw [List.length_map, if_pos (by omega), layL_drop l h]
    rfl
  | succ k ih =>
    have hkl : k < l.length := by omega
    have hsub : tlS l k + (tlA (l.drop k)).length = tlS l l.length := by
      rw [← tlA_len, ← tlA_len, ← List.length_append, ← tlA_app, List.take_append_drop, List.take_length]
    have hgd : l.getD k (false, 0, []) = l[k] := by simp [List.getD, hkl]
    have hts := tlS_le l h k (by omega)
    have hmk : mayB l[k] = true := by rw [← hgd]; exact errP_all l h k hkl
    have hwk := hw l[k] (List.getElem_mem hkl)
    have hch := layL_chk l h k hkl
    unfold hdV at hch
    rw [hgd] at hch
    unfold rdS
    rw [ih (by omega)]
    simp only [Option.bind_some]
    have hb : (l.map (·.1)).getD k false = l[k].1 := by simp [List.getD, hkl]
    have hsp : l.drop k = l[k] :: l.drop (k + 1) := List.drop_eq_getElem_cons hkl
    rw [hb, hsp, tlA_cons, List.take_succ_eq_append_getElem hkl]
    rw [hsp, tlA_cons] at hsub
    unfold rdP
    cases hp : l[k].1 with
    | true =>
      rw [if_pos ⟨hp, hkl⟩] at hch
      rw [hch, beN_nbL _ (by omega)]
      have e1 : 32 * l.length + tlS l k = (layL l).length - (tlL l[k] ++ tlA (l.drop (k + 1))).length := by rw [hle]; omega
      rw [e1, if_pos rfl, lgO_of _ _ _ hp hmk]
      rfl
    | false =>
      rw [hp, if_neg (by simp)] at hch
      rw [hch, beN_bytL _ hwk, if_neg (by simp)]
      have hd : l[k].2.2 = [] := by unfold mayB at hmk; rw [hp] at hmk; simpa using hmk
      have et : tlL l[k] = [] := by unfold tlL; rw [hp]; rfl
      simp only [Option.map_some, et, List.nil_append]
      congr 3
      generalize l[k] = q at hp hd ⊢
      obtain ⟨a, b, c⟩ := q
      simp only at hp hd
      rw [hp, hd]
theorem rdE_of (l : List Pt) (h : errP l = 0) (hw : ∀ p ∈ l, p.2.1 < M256) : rdE (layL l) (l.map (·.1)) = some l := by
  unfold rdE
  rw [List.length_map, rdS_of l h hw _ (Nat.le_refl _)]
  simp [tlA]
end Go.Proofs.Ytdlllihfibjabaa
