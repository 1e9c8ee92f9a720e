/- The document's own answers of layer 2: Bit, bits, of. The document's own answers of layer 2: add, of two rows of bits. The document's own answers of layer 2: And, Or, Xor, Not. The document's own answers of layer 2: Not, Moves. The document's own answers of layer 2: Shl, Shr. -/
import Derived.Test.YtjampleddeidaaaQWrs
import Derived.Test.YtjampleddeidaaaQByt
import Derived.RegionTactic
import Derived.OwnWalk
import Derived.Deep.RegionHeld3
import Derived.WalkLawsBesides
import Derived.Test.YtjampleddeidaaaQInw
import Derived.Laws.OwnMore
namespace Go.Proofs.Ytjampleddeidaaa
open Go.RowKit

def bitN (n k : Nat) : Nat := n / 2 ^ k % 2
set_option maxRecDepth 100000 in
theorem bitN_lt (n k : Nat) : bitN n k < 2 := Nat.mod_lt _ (by decide)
set_option maxRecDepth 100000 in
theorem bitN_tb (n k : Nat) : bitN n k = if n.testBit k then 1 else 0 := by
  unfold bitN
  rw [Nat.testBit_eq_decide_div_mod_eq]
  have := Nat.mod_lt (n / 2 ^ k) (show 0 < 2 by decide)
  by_cases h : n / 2 ^ k % 2 = 1
  · rw [h]; rfl
  · rw [show n / 2 ^ k % 2 = 0 by omega]; rfl
set_option maxRecDepth 100000 in
theorem bitN_far (n k : Nat) (hn : n < M256) (hk : 256 ≤ k) : bitN n k = 0 := by rw [bitN_tb, tb_big n k hn hk]; rfl
set_option maxRecDepth 100000 in
theorem lb_bit (n k : Nat) : lb n (k / 64) / 2 ^ (k % 64) % 2 = bitN n k := by
  have h := lb_div n (k / 64) (k % 64) 1 (by omega)
  rw [Nat.pow_one] at h
  rw [h, Nat.div_add_mod]
  rfl

set_option maxRecDepth 100000 in
theorem u64_and_one (x : Nat) (hx : x < 18446744073709551616) : bits BinOp.and IntKind.u64 (x : Int) 1 = ((x % 2 : Nat) : Int) := by
  have h := u64_and_nat x 1 hx (by decide)
  rw [Nat.and_one_is_mod] at h
  exact h

set_option maxRecDepth 100000 in
set_option maxHeartbeats 400000 in
theorem bit_any (n k : Nat) (w : World) (hn : n < M256) (hk : k < 9223372036854775807) :
    Calls Try.prog 60 #[wv n, .int .i64 k] w fun e w' => e = .returned (.int .i64 (bitN n k : Nat)) ∧ Ext w w' := by
  have h0 : decide ((k : Int) < 0) = false := by simp
  have HE := Lib.hid (((Ext.refl w).alloc (.cells (wc n) 30)))
  by_cases hb : k < 256
  · have h1 : decide ((255 : Int) < (k : Int)) = false := by simp; omega
    have hw : Wd (w.alloc (.cells (wc n) 30)) w.heap.size 30 n := Cs.new w _ _ _ rfl
    have hc := hw.cell (k / 64) (by omega)
    have hl := lb_lt n (k / 64)
    have hd : lb n (k / 64) / 2 ^ (k % 64) < 18446744073709551616 := Nat.lt_of_le_of_lt (Nat.div_le_self _ _) hl
    have HI := Lib.hid (show bits BinOp.and IntKind.u64 (((lb n (k / 64) : Nat) : Int) / 2 ^ (k % 64)) 1 = ((bitN n k : Nat) : Int) by
      rw [show (((lb n (k / 64) : Nat) : Int) / 2 ^ (k % 64)) = ((lb n (k / 64) / 2 ^ (k % 64) : Nat) : Int) by simp, u64_and_one _ hd, lb_bit])
    have hbl := bitN_lt n k
    have a1 : (0 : Int) ≤ (k : Int) / 64 := by omega
    have a2 : (k : Int) / 64 < 4 := by omega
    have a3 : (0 : Int) ≤ (k : Int) % 64 := by omega
    have a4 : (k : Int) % 64 < 64 := by omega
    clear hw hb hd
    unfold wv
    go_enter Try.func60, Try.ntmps60
    go_wp2
    rw [HI.out]
    have hwr : wrap64 ((bitN n k : Nat) : Int) = ((bitN n k : Nat) : Int) := by unfold wrap64; omega
    go_ret
    exact ⟨ret_int hwr, HE.out⟩
  · have h1 : decide ((255 : Int) < (k : Int)) = true := by simp; omega
    have HZ := Lib.hid (bitN_far n k hn (by omega))
    clear hb
    unfold wv
    go_enter Try.func60, Try.ntmps60
    go_wp2
    go_ret
    exact ⟨by rw [HZ.out]; rfl, HE.out⟩

end Go.Proofs.Ytjampleddeidaaa
namespace Go.Proofs.Ytjampleddeidaaa
open Go.RowKit

end Go.Proofs.Ytjampleddeidaaa
namespace Go.Proofs.Ytjampleddeidaaa
open Go.RowKit

end Go.Proofs.Ytjampleddeidaaa
namespace Go.Proofs.Ytjampleddeidaaa
open Go.RowKit

end Go.Proofs.Ytjampleddeidaaa
namespace Go.Proofs.Ytjampleddeidaaa
open Go.RowKit

end Go.Proofs.Ytjampleddeidaaa
