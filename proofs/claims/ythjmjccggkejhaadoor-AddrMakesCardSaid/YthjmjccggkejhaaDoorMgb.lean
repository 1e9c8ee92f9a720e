/- Put together: Contracts of package octet, function by function, Contracts of package octet: the rest, Contracts of package octet: refusals; Bare, Over, Put64, U64, Contracts of package octet: numbers, Contracts of package octet: Put64, Over, Plain mathematics of the numbers of rows. -/
import Derived.Test.YthjmjccggkejhaaDoorMga
import Derived.Test.YthjmjccggkejhaaDoorRows
import Derived.Lib.Hide
namespace Go.Proofs.YthjmjccggkejhaaDoor
open Go.RowKit

/-- How many of them are nought. -/
def zeros (l : List UInt8) : Nat := l.countP (· == 0)

set_option maxRecDepth 100000 in
theorem zeros_le (l : List UInt8) : zeros l ≤ l.length := List.countP_le_length
set_option maxRecDepth 100000 in
theorem zeros_snoc (l : List UInt8) (k : Nat) (hk : k < l.length) : zeros (l.take (k + 1)) = zeros (l.take k) + if (l.getD k 0 == 0) then 1 else 0 := by
  unfold zeros
  rw [List.take_succ_eq_append_getElem hk, List.countP_append]
  simp [List.getD, List.getElem?_eq_getElem hk, List.countP_cons]

set_option maxRecDepth 100000 in
set_option maxHeartbeats 400000 in
theorem put_any (g n : Nat) (l : List UInt8) (hnl : n = l.length) (a : Nat) (ai : Int) (hai : ai = (a : Int)) (xv : Value) (x : List UInt8) (w0 w : World) (hr : Row w g 5 l) (hx : Bs w0 xv x) (hw : Below w0.heap.size w0 w) (hg : w0.heap.size ≤ g) (ha : a ≤ 4294967296) (hxl : x.length ≤ 4294967296) (hl : l.length ≤ maxLen) :
    Calls Tryd.prog 89 #[.slice (some ⟨g, 0, none⟩) n n, .int .i64 ai, xv] w fun e w' => e = .returned (.tuple #[]) ∧ Row w' g 5 (lay l a x) ∧ w.grownBy w' (some g) := by
  subst hai
  subst hnl
  obtain ⟨A, c, rfl, h1, h2, h3⟩ := hx
  unfold maxLen at hl h2
  go_enter Tryd.func89, Tryd.ntmps89
  go_wp2
  go_step3
  go_wp2
  go_step3
  go_wp2
  go_loopw [10] (fun i wr => ∃ k : Nat, k ≤ x.length ∧ i = .int .i64 k ∧ Row wr g 5 (lay l a (x.take k)) ∧ w.grownBy wr (some g)) (fun i _ => x.length - (intOf i).toNat)
  case atStart => exact ⟨0, Nat.zero_le _, rfl, by rw [List.take_zero, lay_none]; exact hr, World.grownBy.refl _ _⟩
  case round =>
    obtain ⟨k, hk, rfl, hrow, hgr⟩ := hrel
    have HG := Lib.hid hgr
    clear hgr
    by_cases hlt : k < x.length
    · obtain ⟨b, o, rfl, hc⟩ := h3 (by omega)
      have hck := hc k hlt
      have hck : wr.cell? ⟨b, o + k, none⟩ = some (bv (x.getD k 0)) := HG.out.cell ((Below.cell hw (World.block_lt_of_cell? _ _ hck)).trans hck) (by have := World.block_lt_of_cell? _ _ hck; simp at this ⊢; omega)
      unfold bv at hck
      clear hc h3
      by_cases hp : a + k < l.length
      · have HS := Lib.hid (lay_step l a x k hlt hp)
        have hcell := hrow.cell (a + k) (by rw [lay_length]; exact hp)
        have hfz := hrow.frozen (a + k)
        unfold bv at hcell
        generalize x.getD k 0 = c0 at *
        go_wp2
        go_roundw
        case rel => exact ⟨k + 1, by omega, by go_num, by rw [HS.out]; exact hrow.put (a + k) c0, grown_trans HG.out (grown_set _ _ _ _)⟩
        case measure => simp [intOf]; omega
      · have HP := Lib.hid (lay_past l a x k (by omega))
        go_wp2
        rw [Exit.noGoto_normal]
        go_end0
        exact ⟨rfl, by rw [← HP.out]; exact hrow, HG.out⟩
    · go_wp2
      rw [Exit.noGoto_normal]
      go_end0
      have hkx : k = x.length := by omega
      subst hkx
      rw [List.take_length] at hrow
      exact ⟨rfl, hrow, HG.out⟩


/-- The first n bytes of l, noughts behind its end. -/
def fit (l : List UInt8) (n : Nat) : List UInt8 := l.take n ++ List.replicate (n - l.length) 0
set_option maxRecDepth 100000 in
theorem fit_length (l : List UInt8) (n : Nat) : (fit l n).length = n := by simp [fit]; omega
set_option maxRecDepth 100000 in
theorem lay_fit (l : List UInt8) (n : Nat) : lay (List.replicate n 0) 0 l = fit l n := by
  apply ext_getD (by rw [lay_length, fit_length]; simp)
  intro i hi
  rw [lay_length] at hi
  have hi' : i < n := by simpa using hi
  rw [lay_getD _ _ _ _ hi, getD_zeros]
  unfold fit
  rw [getD_append_if, getD_zeros, getD_take_if]
  simp only [List.length_take]
  by_cases h : i < l.length
  · rw [if_pos (by omega), if_pos (by omega), if_pos hi']
    rfl
  · rw [if_neg (by omega), if_neg (by omega)]

set_option maxRecDepth 100000 in
set_option maxHeartbeats 400000 in
theorem grown_any (v : Value) (l : List UInt8) (n : Nat) (ni : Int) (hni : ni = (n : Int)) (w : World) (hb : Bs w v l) (hn : n ≤ 140737488355328) :
    Calls Tryd.prog 88 #[v, .int .i64 ni] w fun e w' => e = .returned (.slice (some ⟨w.heap.size, 0, none⟩) n n) ∧ Row w' w.heap.size 5 (fit l n) ∧ Ext w w' := by
  subst hni
  have HB := Lib.hid hb
  clear hb
  go_enter Tryd.func88, Tryd.ntmps88
  go_wp2_with (first
    | (at_make; refine wpList_make_bytes rfl _ _ _ rfl 5 Tryd.underlying24 u8info .i64 .i64 _ _ n rfl rfl rfl rfl hn ?_; intro w1 hr1 he1; have HR := Lib.hid hr1; have HE := Lib.hid he1; clear hr1 he1)
    | (with_reducible refine wpList_copy_bytes rfl (.tmp 8) (.tmp 9) _ _ rfl 5 Tryd.underlying24 u8size w.heap.size n n (List.replicate n 0) rfl (by simp) HR.out v l rfl (HB.out.ext HE.out) ?_; intro w2 hr2 hg2; have HR2 := Lib.hid hr2; have HG2 := Lib.hid hg2; clear hr2 hg2))
  go_ret
  refine ⟨rfl, ?_, HE.out.grown HG2.out (Nat.le_refl _)⟩
  rw [← lay_fit]
  exact HR2.out

/-- Whether the numbers can be taken from left, one behind the other. -/
def fitsB : Nat → List Nat → Bool
  | _, [] => true
  | left, n :: r => decide (n ≤ left) && fitsB (left - n) r

set_option maxRecDepth 100000 in
theorem fitsB_step (left : Nat) (us : List Nat) (k : Nat) (hk : k < us.length) : fitsB left (us.drop k) = (decide (us.getD k 0 ≤ left) && fitsB (left - us.getD k 0) (us.drop (k + 1))) := by
  rw [List.drop_eq_getElem_cons hk]
  simp [fitsB, List.getD, List.getElem?_eq_getElem hk]

/-- The window of l from fr on, n bytes. -/
def win (l : List UInt8) (fr n : Nat) : List UInt8 := fit (l.drop fr) n

end Go.Proofs.YthjmjccggkejhaaDoor
namespace Go.Proofs.YthjmjccggkejhaaDoor
open Go.RowKit

/-- Noughts ahead of l, up to n bytes. -/
def ahd (l : List UInt8) (n : Nat) : List UInt8 := List.replicate (n - l.length) 0 ++ l
set_option maxRecDepth 100000 in
theorem lay_ahd (l : List UInt8) (n : Nat) (h : l.length ≤ n) : lay (List.replicate n 0) (n - l.length) l = ahd l n := by
  apply ext_getD (by rw [lay_length]; simp [ahd]; omega)
  intro i hi
  rw [lay_length] at hi
  have hi' : i < n := by simpa using hi
  rw [lay_getD _ _ _ _ hi, getD_zeros]
  unfold ahd
  rw [getD_append_if, getD_zeros]
  simp only [List.length_replicate]
  by_cases h : i < n - l.length
  · rw [if_neg (by omega), if_pos h]
  · rw [if_pos (by omega), if_neg h]

end Go.Proofs.YthjmjccggkejhaaDoor
namespace Go.Proofs.YthjmjccggkejhaaDoor
open Go.RowKit

/-- Without the noughts that it begins with. -/
def bare (l : List UInt8) : List UInt8 := l.dropWhile (· == 0)
set_option maxRecDepth 100000 in
theorem bare_step (l : List UInt8) (k : Nat) (hk : k < l.length) : bare (l.drop k) = if l.getD k 0 == 0 then bare (l.drop (k + 1)) else l.drop k := by
  unfold bare
  have e : l.getD k 0 = l[k] := by simp [List.getD, List.getElem?_eq_getElem hk]
  rw [e, List.drop_eq_getElem_cons hk, List.dropWhile_cons]
set_option maxRecDepth 100000 in
theorem bare_le (l : List UInt8) : (bare l).length ≤ l.length := by
  have := (List.dropWhile_suffix (l := l) (· == 0)).length_le
  exact this
set_option maxRecDepth 100000 in
theorem fit_self (l : List UInt8) (n : Nat) (h : n = l.length) : fit l n = l := by
  subst h
  simp [fit]

end Go.Proofs.YthjmjccggkejhaaDoor
namespace Go.Proofs.YthjmjccggkejhaaDoor
open Go.RowKit

/-- The number of a row, the highest byte first, modulo 2^64. -/
def num (l : List UInt8) : Nat := l.foldl (fun x c => (x * 256 + c.toNat) % 18446744073709551616) 0
set_option maxRecDepth 100000 in
theorem num_lt (l : List UInt8) : num l < 18446744073709551616 := by
  unfold num
  rcases List.eq_nil_or_concat l with rfl | ⟨r, c, rfl⟩
  · decide
  · rw [List.concat_eq_append, List.foldl_append]
    exact Nat.mod_lt _ (by decide)
set_option maxRecDepth 100000 in
theorem num_snoc (l : List UInt8) (k : Nat) (hk : k < l.length) : num (l.take (k + 1)) = (num (l.take k) * 256 + (l.getD k 0).toNat) % 18446744073709551616 := by
  unfold num
  rw [List.take_succ_eq_append_getElem hk, List.foldl_append]
  simp [List.getD, List.getElem?_eq_getElem hk]

set_option maxRecDepth 100000 in
theorem shl8_or (x y : Nat) (hy : y < 256) : bits .or .u64 (IntKind.u64.wrap ((x : Int) * 256)) (y : Int) = (((x * 256 + y) % 18446744073709551616 : Nat) : Int) := by
  have e : IntKind.u64.wrap ((x : Int) * 256) = ((x * 256 % 18446744073709551616 : Nat) : Int) := by rw [IntKind.wrap_u64]; omega
  rw [e, u64_or_nat _ _ (by omega) (by omega), nat_join 8 _ _ (by omega) (by omega)]
  omega

/-- The last eight of them, or all. -/
def last8 (l : List UInt8) : List UInt8 := l.drop (l.length - 8)

set_option maxRecDepth 100000 in
set_option maxHeartbeats 400000 in
theorem u64_tail (v : Value) (l : List UInt8) (w : World) (hb : Bs w v l) :
    Calls Tryd.prog 70 #[v] w fun e w' => e = .returned (.int .u64 (num (last8 l))) ∧ w = w' := by
  have HB := Lib.hid hb
  obtain ⟨A, c, rfl, h1, h2, h3⟩ := hb
  unfold maxLen at h2
  by_cases h8 : 8 < l.length
  · go_enter Tryd.func70, Tryd.ntmps70
    go_wp2
    have HL := Lib.hid (show last8 l = l.drop (l.length - 8) from rfl)
    have HN := Lib.hid (show (l.drop (l.length - 8)).length = 8 by simp; omega)
    obtain ⟨b, o, rfl, hc⟩ := h3 (by omega)
    have HC := Lib.hid (show ∀ i, i < 8 → w.cell? ⟨b, o + (l.length - 8) + i, none⟩ = some (bv ((l.drop (l.length - 8)).getD i 0)) by
      intro i hi
      rw [getD_drop, ← hc (l.length - 8 + i) (by omega), Nat.add_assoc])
    clear hc h3
    generalize l.drop (l.length - 8) = t at *
    go_loop [3, 13] (fun x i => ∃ k : Nat, k ≤ 8 ∧ i = .int .i64 k ∧ x = .int .u64 (num (t.take k))) (fun _ i => 8 - (intOf i).toNat)
    case atStart => exact ⟨0, Nat.zero_le _, rfl, rfl⟩
    case round =>
      obtain ⟨k, hk, rfl, rfl⟩ := hrel
      by_cases hlt : k < 8
      · have hck := HC.out k hlt
        unfold bv at hck
        have HS := Lib.hid (num_snoc t k (by have := HN.out; omega))
        have hnl := num_lt (t.take k)
        generalize num (t.take k) = x at *
        generalize t.getD k 0 = y at *
        have hy := y.toNat_lt
        go_wp2
        go_round
        case rel => exact ⟨k + 1, by omega, by go_num, by rw [HS.out, shl8_or _ _ (by omega)]⟩
        case measure => simp [intOf]; omega
      · go_wp2
        go_ret
        rw [HL.out, List.take_of_length_le (by have := HN.out; omega)]
        exact ⟨rfl, rfl⟩
  · go_enter Tryd.func70, Tryd.ntmps70
    go_wp2
    have HL := Lib.hid (show last8 l = l by unfold last8; rw [show l.length - 8 = 0 by omega]; rfl)
    go_loop [3, 13] (fun x i => ∃ k : Nat, k ≤ l.length ∧ i = .int .i64 k ∧ x = .int .u64 (num (l.take k))) (fun _ i => l.length - (intOf i).toNat)
    case atStart => exact ⟨0, Nat.zero_le _, rfl, rfl⟩
    case round =>
      obtain ⟨k, hk, rfl, rfl⟩ := hrel
      by_cases hlt : k < l.length
      · obtain ⟨b, o, rfl, hc⟩ := h3 (by omega)
        have hck := hc k hlt
        unfold bv at hck
        clear hc h3
        have HS := Lib.hid (num_snoc l k hlt)
        have hnl := num_lt (l.take k)
        generalize num (l.take k) = x at *
        generalize l.getD k 0 = y at *
        have hy := y.toNat_lt
        go_wp2
        go_round
        case rel => exact ⟨k + 1, by omega, by go_num, by rw [HS.out, shl8_or _ _ (by omega)]⟩
        case measure => simp [intOf]; omega
      · go_wp2
        go_ret
        rw [HL.out, List.take_of_length_le (by omega)]
        exact ⟨rfl, rfl⟩
end Go.Proofs.YthjmjccggkejhaaDoor
namespace Go.Proofs.YthjmjccggkejhaaDoor
open Go.RowKit

/-- The eight bytes of x, the highest first; of them the last k, noughts ahead. -/
def hiK (x k : Nat) : List UInt8 := (List.range 8).map fun j => if 8 ≤ j + k then UInt8.ofNat (x / 256 ^ (7 - j)) else 0
def hi8 (x : Nat) : List UInt8 := hiK x 8
set_option maxRecDepth 100000 in
theorem hiK_length (x k : Nat) : (hiK x k).length = 8 := by simp [hiK]
set_option maxRecDepth 100000 in
theorem hiK_zero (x : Nat) : hiK x 0 = List.replicate 8 0 := by
  apply ext_getD (by simp [hiK])
  intro i hi
  rw [hiK_length] at hi
  rw [getD_zeros]
  simp [hiK, List.getD, hi]
  omega
set_option maxRecDepth 100000 in
theorem hiK_getD (x k i : Nat) (hi : i < 8) : (hiK x k).getD i 0 = if 8 ≤ i + k then UInt8.ofNat (x / 256 ^ (7 - i)) else 0 := by
  simp [hiK, List.getD, hi]
set_option maxRecDepth 100000 in
theorem hiK_step (x k : Nat) (hk : k < 8) : hiK x (k + 1) = (hiK x k).set (7 - k) (UInt8.ofNat (x / 256 ^ k)) := by
  apply ext_getD (by simp [hiK])
  intro i hi
  rw [hiK_length] at hi
  rw [getD_set_if _ _ _ _ (by rw [hiK_length]; omega), hiK_getD _ _ _ hi, hiK_getD _ _ _ hi]
  by_cases h : 7 - k = i
  · subst h
    rw [if_pos (by omega), if_pos rfl, show 7 - (7 - k) = k by omega]
  · rw [if_neg h]
    by_cases h2 : 8 ≤ i + k
    · rw [if_pos (by omega), if_pos h2]
    · rw [if_neg (by omega), if_neg h2]

set_option maxRecDepth 100000 in
theorem shr_byte (x k : Nat) : Value.int .u8 ((x : Int) / 2 ^ (8 * k) % 256) = bv (UInt8.ofNat (x / 256 ^ k)) := by
  unfold bv
  congr 1
  have h : 256 ^ k = 2 ^ (8 * k) := by rw [Nat.pow_mul]
  rw [UInt8.toNat_ofNat', h, Int.natCast_emod, Int.natCast_ediv, Int.natCast_pow]
  rfl
set_option maxRecDepth 100000 in
theorem lay_behind (l x : List UInt8) (n : Nat) (hn : n = l.length + x.length) : lay (fit l n) l.length x = l ++ x := by
  subst hn
  apply ext_getD (by rw [lay_length, fit_length]; simp)
  intro i hi
  rw [lay_length, fit_length] at hi
  rw [lay_getD _ _ _ _ (by rw [fit_length]; exact hi), getD_append_if]
  unfold fit
  rw [getD_append_if, getD_take_if]
  simp only [List.length_take]
  by_cases h : i < l.length
  · rw [if_neg (by omega), if_pos (by omega), if_pos (by omega), if_pos h]
  · rw [if_pos (by omega), if_neg h]

/-- A call that answers a row of its own, and an error's number. -/
def RetE (w : World) (l : List UInt8) (c : Int) (e : Ending) (w' : World) : Prop := ∃ v, e = .returned (.tuple #[v, .int .i64 c]) ∧ Own w' w.heap.size 5 v l ∧ Ext w w'

set_option maxRecDepth 100000 in
set_option maxHeartbeats 400000 in
theorem put64_any (v : Value) (l : List UInt8) (x : Nat) (xi : Int) (hxi : xi = (x : Int)) (w : World) (hb : Bs w v l) (_hx : x < 18446744073709551616) (hl : l.length ≤ 4294967296) :
    Calls Tryd.prog 78 #[v, .int .u64 xi] w (RetB w (l ++ hi8 x)) := by
  subst hxi
  have HB := Lib.hid hb
  obtain ⟨A, c, rfl, h1, h2, h3⟩ := hb
  clear h3 h1 h2
  go_enter Tryd.func78, Tryd.ntmps78
  go_wp2_with (at_make; refine wpList_make_bytes rfl _ _ _ rfl 5 Tryd.underlying24 u8info .i64 .i64 _ _ 8 rfl rfl rfl rfl (by omega) ?_; intro w1 hr1 he1; have HR := Lib.hid hr1; have HE := Lib.hid he1; clear hr1 he1)
  go_loopw [11] (fun i wr => ∃ k : Nat, k ≤ 8 ∧ i = .int .i64 k ∧ Row wr w.heap.size 5 (hiK x k) ∧ w1.grownBy wr (some w.heap.size)) (fun i _ => 8 - (intOf i).toNat)
  case atStart => exact ⟨0, Nat.zero_le _, rfl, by rw [hiK_zero]; exact HR.out, World.grownBy.refl _ _⟩
  case round =>
    obtain ⟨k, hk, rfl, hrow, hgr⟩ := hrel
    have HG := Lib.hid hgr
    clear hgr
    by_cases hlt : k < 8
    · have HS := Lib.hid (hiK_step x k hlt)
      have hcell := hrow.cell (7 - k) (by rw [hiK_length]; omega)
      have hfz := hrow.frozen (7 - k)
      unfold bv at hcell
      go_wp2
      go_roundw
      case rel => exact ⟨k + 1, by omega, by go_num, by rw [HS.out, shr_byte]; exact hrow.put (7 - k) _, grown_trans HG.out (grown_set _ _ _ _)⟩
      case measure => simp [intOf]; omega
    · obtain rfl : k = 8 := by omega
      have hew : Ext w wr := HE.out.grown HG.out (Nat.le_refl _)
      have HW := Lib.hid hew
      have HR8 := Lib.hid hrow
      clear hrow hew
      go_wp2_with fail
      refine (grown_any _ l (l.length + 8) _ (by omega) wr (HB.out.ext HW.out) (by omega)).mono ?_
      rintro e w2 ⟨rfl, hr2, he2⟩
      have HR2 := Lib.hid hr2
      have HE2 := Lib.hid he2
      clear hr2 he2
      have hsz := HW.out.size
      have hlt8 := HR8.out.lt
      go_wp2_with fail
      refine (put_any _ _ _ (by rw [fit_length]) l.length _ rfl _ (hi8 x) wr w2 HR2.out (HR8.out.own (Nat.le_refl _) (by rw [hiK_length]; simp [maxLen])).bs HE2.out (Nat.le_refl _) (by omega) (by simp [hi8, hiK_length]) (by rw [fit_length]; simp [maxLen]; omega)).mono ?_
      rintro e w3 ⟨rfl, hr3, hg3⟩
      have HR3 := Lib.hid hr3
      have HE3 := Lib.hid ((HW.out.trans HE2.out).grown hg3 hsz)
      clear hr3 hg3
      go_wp2_with fail
      go_ret
      rw [lay_behind _ _ _ (by simp [hi8, hiK_length])] at HR3
      have hown := HR3.out.own (base := w.heap.size) hsz (by simp [hi8, hiK_length, maxLen]; omega)
      refine ⟨_, rfl, ?_, HE3.out⟩
      simpa [hi8, hiK_length] using hown
end Go.Proofs.YthjmjccggkejhaaDoor
namespace Go.Proofs.YthjmjccggkejhaaDoor

def numN (l : List UInt8) : Nat := l.foldl (fun x c => x * 256 + c.toNat) 0
theorem foldl_numN (l : List UInt8) : ∀ x, l.foldl (fun x c => x * 256 + c.toNat) x = x * 256 ^ l.length + numN l := by
  induction l with
  | nil => intro x; simp [numN]
  | cons c r ih =>
    intro x
    unfold numN
    rw [List.foldl_cons, List.foldl_cons, ih, ih, List.length_cons, Nat.pow_succ, Nat.add_mul, Nat.zero_mul, Nat.zero_add, Nat.mul_assoc, Nat.add_assoc, Nat.mul_comm 256]
theorem numN_append (a b : List UInt8) : numN (a ++ b) = numN a * 256 ^ b.length + numN b := by
  unfold numN
  rw [List.foldl_append, foldl_numN]
  rfl
theorem foldl_num (l : List UInt8) : ∀ x, l.foldl (fun x c => (x * 256 + c.toNat) % 18446744073709551616) (x % 18446744073709551616) = l.foldl (fun x c => x * 256 + c.toNat) x % 18446744073709551616 := by
  induction l with
  | nil => intro x; rfl
  | cons c r ih =>
    intro x
    rw [List.foldl_cons, List.foldl_cons, ← ih, show (x % 18446744073709551616 * 256 + c.toNat) % 18446744073709551616 = (x * 256 + c.toNat) % 18446744073709551616 by omega]
theorem num_eq (l : List UInt8) : num l = numN l % 18446744073709551616 := by
  unfold num numN
  exact foldl_num l 0
theorem num_last8 (l : List UInt8) : num (last8 l) = num l := by
  rw [num_eq, num_eq]
  rcases Nat.lt_or_ge 8 l.length with h | h
  · have e : l = l.take (l.length - 8) ++ last8 l := (List.take_append_drop _ _).symm
    have hl : (last8 l).length = 8 := by simp [last8]; omega
    conv => rhs; rw [e, numN_append, hl]
    have : (256 : Nat) ^ 8 = 18446744073709551616 := by decide
    rw [this]
    omega
  · have : last8 l = l := by unfold last8; rw [show l.length - 8 = 0 by omega]; rfl
    rw [this]
theorem numN_zeros (n : Nat) : numN (List.replicate n 0) = 0 := by
  induction n with
  | zero => rfl
  | succ n ih => rw [List.replicate_succ', numN_append, ih]; simp [numN]
theorem bare_split (l : List UInt8) : ∃ n, l = List.replicate n 0 ++ bare l := by
  induction l with
  | nil => exact ⟨0, rfl⟩
  | cons c r ih =>
    obtain ⟨n, hn⟩ := ih
    by_cases h : c = 0
    · subst h
      refine ⟨n + 1, ?_⟩
      have : bare (0 :: r) = bare r := by simp [bare]
      rw [this, List.replicate_succ, List.cons_append, ← hn]
    · refine ⟨0, ?_⟩
      simp [bare, h]
theorem bare_head (l : List UInt8) (h : 0 < (bare l).length) : (bare l).getD 0 0 ≠ 0 := by
  induction l with
  | nil => simp [bare] at h
  | cons c r ih =>
    by_cases hc : c = 0
    · subst hc
      have e : bare (0 :: r) = bare r := by simp [bare]
      rw [e] at h ⊢
      exact ih h
    · have e : bare (c :: r) = c :: r := by simp [bare, hc]
      rw [e]
      simpa using hc
theorem bare_zeros (n : Nat) (l : List UInt8) : bare (List.replicate n 0 ++ l) = bare l := by
  induction n with
  | zero => rfl
  | succ n ih => rw [List.replicate_succ, List.cons_append, ← ih]; simp [bare]
theorem bare_bare (l : List UInt8) : bare (bare l) = bare l := by
  obtain ⟨n, hn⟩ := bare_split l
  conv => rhs; rw [hn, bare_zeros]
theorem num_bare (l : List UInt8) : num (bare l) = num l := by
  obtain ⟨n, hn⟩ := bare_split l
  conv => rhs; rw [num_eq, hn, numN_append, numN_zeros]
  rw [num_eq]
  simp
theorem num_ahd (l : List UInt8) (n : Nat) : num (ahd l n) = num l := by
  rw [num_eq, num_eq]
  unfold ahd
  rw [numN_append, numN_zeros]
  simp
theorem numN_hi8 (x : Nat) (hx : x < 18446744073709551616) : numN (hi8 x) = x := by
  have e : hi8 x = [UInt8.ofNat (x / 256 ^ 7), UInt8.ofNat (x / 256 ^ 6), UInt8.ofNat (x / 256 ^ 5), UInt8.ofNat (x / 256 ^ 4), UInt8.ofNat (x / 256 ^ 3), UInt8.ofNat (x / 256 ^ 2), UInt8.ofNat (x / 256 ^ 1), UInt8.ofNat (x / 256 ^ 0)] := by
    unfold hi8 hiK
    rfl
  rw [e]
  simp only [numN, List.foldl_cons, List.foldl_nil, UInt8.toNat_ofNat']
  omega
theorem num_put (l : List UInt8) (x : Nat) (hx : x < 18446744073709551616) : num (last8 (l ++ hi8 x)) = x := by
  have hl : (hi8 x).length = 8 := hiK_length x 8
  rw [num_last8, num_eq, numN_append, numN_hi8 x hx, hl]
  have : (256 : Nat) ^ 8 = 18446744073709551616 := by decide
  rw [this]
  omega
theorem zeros_fit (l : List UInt8) (n : Nat) (h : l.length ≤ n) : zeros (fit l n) = zeros l + (n - l.length) := by
  unfold fit
  rw [List.take_of_length_le h]
  simp [zeros, List.countP_append, List.countP_replicate]
end Go.Proofs.YthjmjccggkejhaaDoor
