/- The document's own answers of layer 2: add, of two rows of bits. -/
import Derived.Test.YtgmmkoahnednfaaRba
import Derived.Deep.RegionHeld3
namespace Go.Proofs.Ytgmmkoahnednfaa
open Go.RowKit

/-- The carry behind k bits. -/
def carN (a b k : Nat) : Nat := (a % 2 ^ k + b % 2 ^ k) / 2 ^ k
/-- What stands at the place k: both bits, and the carry. -/
def sumN (a b k : Nat) : Nat := bitN a k + bitN b k + carN a b k
set_option maxRecDepth 100000 in
theorem carN_zero (a b : Nat) : carN a b 0 = 0 := by simp [carN, Nat.mod_one]
set_option maxRecDepth 100000 in
theorem carN_lt (a b k : Nat) : carN a b k < 2 := by
  unfold carN
  have h1 := Nat.mod_lt a (Nat.two_pow_pos k)
  have h2 := Nat.mod_lt b (Nat.two_pow_pos k)
  exact Nat.div_lt_of_lt_mul (by omega)
set_option maxRecDepth 100000 in
theorem mod_split (a k : Nat) : a % 2 ^ (k + 1) = a % 2 ^ k + 2 ^ k * bitN a k := by
  unfold bitN
  rw [Nat.pow_succ, Nat.mod_mul]
set_option maxRecDepth 100000 in
theorem carN_succ (a b k : Nat) : carN a b (k + 1) = sumN a b k / 2 := by
  unfold carN sumN
  rw [mod_split, mod_split, Nat.pow_succ, ← Nat.div_div_eq_div_mul]
  congr 1
  have h := Nat.two_pow_pos k
  rw [show a % 2 ^ k + 2 ^ k * bitN a k + (b % 2 ^ k + 2 ^ k * bitN b k) = (a % 2 ^ k + b % 2 ^ k) + 2 ^ k * (bitN a k + bitN b k) by rw [Nat.mul_add]; omega, Nat.add_mul_div_left _ _ h]
  unfold carN
  omega
set_option maxRecDepth 100000 in
theorem bitN_add (a b k : Nat) : bitN (a + b) k = sumN a b k % 2 := by
  unfold sumN
  have h := Nat.two_pow_pos k
  have e : (a + b) / 2 ^ k = carN a b k + (a / 2 ^ k + b / 2 ^ k) := by
    unfold carN
    conv => lhs; rw [← Nat.div_add_mod a (2 ^ k), ← Nat.div_add_mod b (2 ^ k)]
    rw [show 2 ^ k * (a / 2 ^ k) + a % 2 ^ k + (2 ^ k * (b / 2 ^ k) + b % 2 ^ k) = (a % 2 ^ k + b % 2 ^ k) + 2 ^ k * (a / 2 ^ k + b / 2 ^ k) by rw [Nat.mul_add]; omega, Nat.add_mul_div_left _ _ h]
  have e2 : bitN (a + b) k = (a + b) / 2 ^ k % 2 := rfl
  rw [e2, e]
  unfold bitN
  omega
set_option maxRecDepth 100000 in
theorem carN_top (a b m : Nat) (ha : a < 2 ^ m) (hb : b < 2 ^ m) : carN a b m = bitN (a + b) m := by
  unfold carN bitN
  rw [Nat.mod_eq_of_lt ha, Nat.mod_eq_of_lt hb, Nat.mod_eq_of_lt (Nat.div_lt_of_lt_mul (by omega))]

set_option maxRecDepth 100000 in
set_option maxHeartbeats 2000000 in
theorem refadd_any (u v : Value) (a b m : Nat) (w : World) (hu : Rs w 1 u m ((bitsL a m).map iv)) (hv : Rs w 1 v m ((bitsL b m).map iv)) (ha : a < 2 ^ m) (hb : b < 2 ^ m) (hm0 : 0 < m) (hm : m ≤ 1000) :
    Calls Try.prog 55 #[u, v] w (RetI w (bitsL (a + b) (m + 1))) := by
  obtain ⟨_, A, c, rfl, hc1, hc2, hcu⟩ := hu
  obtain ⟨_, B, d, rfl, hd1, hd2, hcv⟩ := hv
  obtain ⟨bu, ou, rfl, hcu2⟩ := hcu hm0
  obtain ⟨bv', ov, rfl, hcv2⟩ := hcv hm0
  unfold maxLen at hc2 hd2
  have HU := Lib.hid hcu2
  have HV := Lib.hid hcv2
  have HT := Lib.hid (carN_top a b m ha hb)
  clear hcu hcv hcu2 hcv2 ha hb
  go_enter Try.func55, Try.ntmps55
  go_wp2_with fail
  go_loopw [5, 6, 7, 8, 11, 12, 13, 14, 15, 16, 17, 18, 19, 20, 21, 22, 23, 24, 25, 26, 27, 28, 29, 30, 31, 32] (fun o c _ _ i _ _ _ _ _ _ _ _ _ _ _ _ _ _ _ _ _ _ _ _ _ wr => ∃ k : Nat, k ≤ m ∧ i = .int .i64 k ∧ c = .int .i64 (carN a b k : Nat) ∧ Hid (OwnI wr w.heap.size 3 o (bitsL (a + b) k)) ∧ Hid (Ext w wr)) (fun _ _ _ _ i _ _ _ _ _ _ _ _ _ _ _ _ _ _ _ _ _ _ _ _ _ _ => m - (intOf i).toNat)
  case atStart => exact ⟨0, by omega, rfl, by rw [carN_zero]; rfl, World.ownsRow_nil _ _ _ _, Ext.refl w⟩
  case round =>
    obtain ⟨k, hk, rfl, rfl, HO, HE⟩ := hrel
    by_cases hlt : k < m
    · have g1 : wr.cell? ⟨bu, ou + k, none⟩ = some (.int .i64 (bitN a k : Nat)) := HE.out.cell (HU.out k (iv (bitN a k)) (by simp [bitsL, hlt]))
      have g2 : wr.cell? ⟨bv', ov + k, none⟩ = some (.int .i64 (bitN b k : Nat)) := HE.out.cell (HV.out k (iv (bitN b k)) (by simp [bitsL, hlt]))
      have x1 := bitN_lt a k
      have x2 := bitN_lt b k
      have x3 := carN_lt a b k
      have hm1 : IntKind.i64.wrap ((bitN a k : Int) + (bitN b k : Int)) = (bitN a k : Int) + (bitN b k : Int) := IntWalk.i64_in _ (by omega)
      have hm2 : IntKind.i64.wrap ((bitN a k : Int) + (bitN b k : Int) + (carN a b k : Int)) = ((sumN a b k : Nat) : Int) := by
        rw [IntWalk.i64_in _ (by omega)]
        unfold sumN
        omega
      have hs4 : sumN a b k < 4 := by unfold sumN; omega
      have i1 : (0 : Int) ≤ (k : Int) := by omega
      have i2 : (k : Int) < (m : Int) := by omega
      have HSU := Lib.hid (bitsL_succ (a + b) k)
      have HL := Lib.hid (bitsL_len (a + b) k)
      have HB := Lib.hid (bitN_add a b k)
      have HCS := Lib.hid (carN_succ a b k)
      have hsz : w.heap.size ≤ wr.heap.size := HE.out.size
      clear hlt
      go_wp2_with fail
      go_region_held3 (fun w' => w'.cell? ⟨bu, ou + k, none⟩ = some (.int .i64 (bitN a k : Nat)) ∧ w'.cell? ⟨bv', ov + k, none⟩ = some (.int .i64 (bitN b k : Nat))) (exact ⟨g1, g2⟩) (fail)
      clear g1 g2 hm1 hm2
      have HO := Lib.hid (show OwnI wr.drew _ _ _ _ from own_ext HO.out (Ext.refl wr).drew)
      have HE := Lib.hid HE.out.drew
      have hsz : w.heap.size ≤ wr.drew.heap.size := hsz
      generalize sumN a b k = x at *
      have HW := Lib.hid (show [Value.int .i64 ((x : Int) % 2)] = [iv (bitN (a + b) k)] by unfold iv; rw [HB.out]; simp)
      have HO2 := Lib.hid (World.ownsRow.alloc HO.out (.cells #[.int .i64 ((x : Int) % 2)] 3))
      have HE2 := Lib.hid (HE.out.alloc (.cells #[.int .i64 ((x : Int) % 2)] 3))
      clear HO HE HB
      go_wp2_with (refine wpList_append_row rfl (.tmp 25) (.tmp 28) 84 rfl w.heap.size 3 Try.underlying84 (.int .i64 0) 1 8 iinfo rfl (by decide) u5 _ _ rfl HO2.out _ 1 [.int .i64 ((x : Int) % 2)] rfl (Rs.new _ _ _ _ _ rfl (by decide)) (by rw [HW.out]; exact iv_one [bitN (a + b) k]) (by rw [HL.out]; omega) (by decide) (by simp; omega) ?_; intro v' w3 ho3 hg3 _; rw [HW.out] at ho3; have H3 := Lib.hid (OwnI.snoc ho3); have HE3 := Lib.hid (HE2.out.appendR HO2.out hg3); clear ho3 hg3)
      rw [← HSU.out] at H3
      go_roundw
      case rel => exact ⟨k + 1, by omega, by go_num, by rw [HCS.out]; simp, H3, HE3⟩
      case measure => simp [intOf]; omega
    · obtain rfl : k = m := by omega
      have HW := Lib.hid (show [Value.int .i64 (carN a b k : Nat)] = [iv (bitN (a + b) k)] by unfold iv; rw [HT.out])
      have HO2 := Lib.hid (World.ownsRow.alloc HO.out (.cells #[.int .i64 (carN a b k : Nat)] 3))
      have HE2 := Lib.hid (HE.out.alloc (.cells #[.int .i64 (carN a b k : Nat)] 3))
      have HSU := Lib.hid (bitsL_succ (a + b) k)
      have HL := Lib.hid (bitsL_len (a + b) k)
      have hsz : w.heap.size ≤ wr.heap.size := HE.out.size
      clear HO HE HT
      go_wp2_with (refine wpList_append_row rfl (.tmp 33) (.tmp 35) 84 rfl w.heap.size 3 Try.underlying84 (.int .i64 0) 1 8 iinfo rfl (by decide) u5 _ _ rfl HO2.out _ 1 [.int .i64 (carN a b k : Nat)] rfl (Rs.new _ _ _ _ _ rfl (by decide)) (by rw [HW.out]; exact iv_one [bitN (a + b) k]) (by rw [HL.out]; omega) (by decide) (by simp; omega) ?_; intro v' w3 ho3 hg3 _; rw [HW.out] at ho3; have H3 := Lib.hid (OwnI.snoc ho3); have HE3 := Lib.hid (HE2.out.appendR HO2.out hg3); clear ho3 hg3)
      rw [← HSU.out] at H3
      go_ret
      exact ⟨_, rfl, H3.out, HE3.out⟩
end Go.Proofs.Ytgmmkoahnednfaa
