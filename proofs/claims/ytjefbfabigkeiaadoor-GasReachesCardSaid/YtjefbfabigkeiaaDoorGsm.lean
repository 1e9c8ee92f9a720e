/- Package gas: what operations cost, as numbers (no world). -/
import Derived.Test.YtjefbfabigkeiaaDoorWre
namespace Go.Proofs.YtjefbfabigkeiaaDoor

/-- More than there ever is. -/
def noGas : Nat := 1099511627776
/-- How many words n bytes are. -/
def wordsG (n : Nat) : Nat := if 0 < n % 32 then n / 32 + 1 else n / 32
theorem wordsG_lt {n : Nat} (h : n < 18446744073709551616) : wordsG n < 18446744073709551616 := by unfold wordsG; split <;> omega
/-- What memory of w words costs. -/
def heldG (w : Nat) : Nat := 3 * w + w * w / 512
def memG (f t : Nat) : Nat := if t ≤ f then 0 else if 1024 < t then noGas else heldG (wordsG t) - heldG (wordsG f)
def eachG (n c : Nat) : Nat := min (min n noGas * c) noGas
def hashG (n : Nat) : Nat := eachG (wordsG n) 6
def copyG (n : Nat) : Nat := eachG (wordsG n) 3
def createG (n : Nat) : Nat := min (3200 + hashG n) noGas
def layG (n : Nat) : Nat := eachG n 20
def partG (n : Nat) : Nat := n - n / 64
def endG (a n : Nat) : Nat := if n = 0 then 0 else min (a + n) noGas
def lendG (left asked : Nat) : Nat := min asked (partG left)
def loadG (c : Bool) : Nat := if c then 210 else 10
def farG (c : Bool) : Nat := if c then 260 else 10
def saveG (was is : Nat) (c : Bool) : Nat := (if is = was then 10 else if was = 0 then 2000 else 290) + if c then 210 else 0
def callG (c v n : Bool) : Nat := farG c + (if v then 900 else 0) + if v && n then 2500 else 0
/-- What is left, if it is enough. -/
def spendG (left : Nat) : List Nat → Option Nat
  | [] => some left
  | c :: l => if left < c then none else spendG (left - c) l
def leftG (left : Nat) (l : List Nat) : Nat := (spendG left l).getD 0
def okG (left : Nat) (l : List Nat) : Bool := (spendG left l).isSome

theorem heldG_mono {a b : Nat} (h : a ≤ b) : heldG a ≤ heldG b := by
  unfold heldG
  have h1 : a * a / 512 ≤ b * b / 512 := Nat.div_le_div_right (Nat.mul_le_mul h h)
  omega
theorem heldG_lt {w : Nat} (h : w ≤ 32) : heldG w ≤ 98 := by
  have := heldG_mono h
  exact this
theorem wordsG_mono {a b : Nat} (h : a ≤ b) : wordsG a ≤ wordsG b := by
  unfold wordsG
  split <;> split <;> omega
theorem wordsG_mem {a : Nat} (h : a ≤ 1024) : wordsG a ≤ 32 := wordsG_mono h
theorem eachG_mono {a b : Nat} (c : Nat) (h : a ≤ b) : eachG a c ≤ eachG b c := by
  unfold eachG
  have h1 : min a noGas ≤ min b noGas := by omega
  have h2 := Nat.mul_le_mul_right c h1
  omega
theorem eachG_le (n c : Nat) : eachG n c ≤ noGas := Nat.min_le_right _ _
theorem endG_le (a n : Nat) : endG a n ≤ noGas := by
  unfold endG
  split
  · exact Nat.zero_le _
  · exact Nat.min_le_right _ _
theorem endG_mono (a : Nat) {m n : Nat} (h : m ≤ n) : endG a m ≤ endG a n := by
  unfold endG
  split <;> split <;> omega
theorem partG_le (n : Nat) : partG n ≤ n := Nat.sub_le _ _
theorem spendG_of (l : List Nat) : ∀ left, spendG left l = if l.sum ≤ left then some (left - l.sum) else none := by
  induction l with
  | nil => intro left; simp [spendG]
  | cons c l ih =>
    intro left
    rw [spendG, ih, List.sum_cons]
    by_cases h1 : left < c
    · rw [if_pos h1, if_neg (by omega)]
    · rw [if_neg h1]
      by_cases h2 : l.sum ≤ left - c
      · rw [if_pos h2, if_pos (by omega)]
        congr 1
        omega
      · rw [if_neg h2, if_neg (by omega)]
theorem spendG_append (l m : List Nat) : ∀ left, spendG left (l ++ m) = (spendG left l).bind fun k => spendG k m := by
  induction l with
  | nil => intro left; rfl
  | cons c l ih =>
    intro left
    show spendG left (c :: (l ++ m)) = _
    rw [spendG, spendG]
    by_cases h1 : left < c
    · rw [if_pos h1, if_pos h1]; rfl
    · rw [if_neg h1, if_neg h1, ih]
end Go.Proofs.YtjefbfabigkeiaaDoor
