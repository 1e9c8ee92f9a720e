/- The bits of a word, told from the highest one on: the function over which Div, Bytes and Text range. -/
import Derived.Test.YtmojbekihbmdfaaWre
import Derived.RangeFuncNested
import Derived.RangeFuncBound
import Derived.RangeFuncCalls
import Derived.RangeFuncLeaves
import Derived.RangeFuncWrites
import Derived.Shelf.Abstract
import Derived.Shelf.RegionOpen
import Derived.OwnWalkIn
import Derived.TacticsInMore
import Derived.LoopNIn
import Derived.LoopIn
namespace Go.Proofs.Ytmojbekihbmdfaa
open Go.RowKit Go.Shelf
attribute [local go_sem] Oper.semAt_some

/-- The place of the bits that come in the round k. -/
def dAt (wd k : Nat) : Nat := 256 - wd * (k + 1)
/-- The bits that come in the round k. -/
def dBits (n wd k : Nat) : Nat := n / 2 ^ dAt wd k % 2 ^ wd
/-- What the round k is handed. -/
def dEnc (n wd : Nat) (k : Nat) : Array Value := #[.int .i64 (dAt wd k : Nat), .int .u64 (dBits n wd k : Nat)]
/-- Two blocks stay. -/
def Kp2 (g h : Nat) (W W' : World) : Prop := W'.heap[g]? = W.heap[g]? ∧ W'.heap[h]? = W.heap[h]?

set_option maxRecDepth 100000 in
theorem down_pick (n t wd k N : Nat) (hw1 : 1 ≤ wd) (hw2 : wd ≤ 32) (hd : 64 % wd = 0) (hN : wd * N = 256) (hq : t + wd + wd * k = 256) :
    (dAt wd k = t ∧ k < N) ∧ lb n (t / 64) / 2 ^ (t % 64) % 2 ^ wd = dBits n wd k := by
  have e1 : wd * (k + 1) = wd * k + wd := Nat.mul_succ _ _
  have e2 : dAt wd k = t := by unfold dAt; omega
  have e3 : wd * (k + 1) ≤ wd * N := by omega
  have e4 : k + 1 ≤ N := Nat.le_of_mul_le_mul_left e3 (by omega)
  have d1 : wd ∣ 64 := Nat.dvd_of_mod_eq_zero hd
  have d2 : wd ∣ t := by
    have : wd ∣ 256 := ⟨N, hN.symm⟩
    have h3 : t = wd * N - wd * (k + 1) := by omega
    rw [h3, ← Nat.mul_sub]
    exact ⟨_, rfl⟩
  have d3 : t % 64 + wd ≤ 64 := by
    have h1 : wd ∣ t % 64 := (Nat.dvd_mod_iff d1).2 d2
    have h2 : t % 64 < 64 := Nat.mod_lt _ (by decide)
    obtain ⟨a, ha⟩ := h1
    obtain ⟨b, hb⟩ := d1
    rw [ha] at h2 ⊢
    rw [hb] at h2 ⊢
    have : a < b := Nat.lt_of_mul_lt_mul_left h2
    calc wd * a + wd = wd * (a + 1) := (Nat.mul_succ _ _).symm
      _ ≤ wd * b := Nat.mul_le_mul_left _ this
  refine ⟨⟨e2, by omega⟩, ?_⟩
  unfold dBits
  rw [e2, lb_div n (t / 64) (t % 64) wd d3]
  congr 3
  omega

end Go.Proofs.Ytmojbekihbmdfaa
