/- Contracts of package sponge: with, digest, Pad. -/
import Derived.Test.YthjmjccggkejhaaDoorMga
import Derived.Test.YthjmjccggkejhaaDoorSpe
namespace Go.Proofs.YthjmjccggkejhaaDoor
open Go.RowKit Go.Shelf

/-! ### Bytes put into lanes -/
def wiF (f : Nat → Nat) (b : List UInt8) : Nat → Nat → Nat
  | 0 => f
  | k + 1 => fun i => if i = k / 8 then wiF f b k (k / 8) ^^^ (b.getD k 0).toNat * 2 ^ (8 * (k % 8)) else wiF f b k i
set_option maxRecDepth 100000 in
theorem byte_fits (c : UInt8) (k : Nat) : c.toNat * 2 ^ (8 * (k % 8)) < 18446744073709551616 := by
  have hc := c.toNat_lt
  have h2 : (2 : Nat) ^ (8 * (k % 8)) ≤ 2 ^ 56 := Nat.pow_le_pow_right (by decide) (by omega)
  have h3 : c.toNat * 2 ^ (8 * (k % 8)) ≤ 255 * 2 ^ 56 := Nat.mul_le_mul (by omega) h2
  omega
set_option maxRecDepth 100000 in
theorem wiF_lt (f : Nat → Nat) (b : List UInt8) (hf : Lok f) (k : Nat) (hk : k ≤ 200) : Lok (wiF f b k) := by
  induction k with
  | zero => exact hf
  | succ k ih =>
    intro i hi
    unfold wiF
    split
    · exact xor_lt64 _ _ (ih (by omega) _ (by omega)) (byte_fits _ _)
    · exact ih (by omega) i hi

set_option maxRecDepth 100000 in
set_option maxHeartbeats 2000000 in
theorem with_lanes (f : Nat → Nat) (v : Value) (b : List UInt8) (w : World) (hf : Lok f) (hb : Bs w v b) (hl : b.length ≤ 200) :
    Calls Tryd.prog 46 #[lnv f, v] w fun e w' => e = .returned (lnv (wiF f b b.length)) ∧ Ext w w' := by
  obtain ⟨A, c, rfl, hlc, hcm, hcell⟩ := hb
  unfold maxLen at hcm
  have HC := Lib.hid hcell
  have HF := Lib.hid hf
  clear hcell hf
  have HK : Hid (Ln ((w.alloc (.cells (lc f) 35)).alloc (.cells (lc fun _ => 0) 35)) w.heap.size f) := (Cs.new _ _ _ _ rfl).alloc _
  have HZ : Hid (Ln ((w.alloc (.cells (lc f) 35)).alloc (.cells (lc fun _ => 0) 35)) (w.heap.size + 1) (fun _ => 0)) := Cs.new _ _ _ _ (by simp)
  have HE : Hid (Ext w ((w.alloc (.cells (lc f) 35)).alloc (.cells (lc fun _ => 0) 35))) := ((Ext.refl w).alloc _).alloc _
  rw [lc_zero] at HK HZ HE
  unfold lnv
  go_enter Tryd.func46, Tryd.ntmps46
  go_wp2_with fail
  go_loopw [5, 6, 9, 10, 11, 12, 13, 14, 15, 16, 17, 18, 19, 20, 21, 22, 23, 24, 25, 26] (fun _ _ i _ _ _ _ _ _ _ _ _ _ _ _ _ _ _ _ _ wr => ∃ k : Nat, k ≤ b.length ∧ i = .int .i64 k ∧ Hid (Ln wr w.heap.size (wiF f b k)) ∧ Hid (Ln wr (w.heap.size + 1) (fun _ => 0)) ∧ Hid (Ext w wr)) (fun _ _ i _ _ _ _ _ _ _ _ _ _ _ _ _ _ _ _ _ _ => b.length - (intOf i).toNat)
  case atStart => exact ⟨0, by omega, rfl, HK, HZ, HE⟩
  case round =>
    clear HK HZ HE
    obtain ⟨k, hk, rfl, HK, HZ, HE⟩ := hrel
    by_cases hlt : k < b.length
    · obtain ⟨bb, oo, rfl, hc⟩ := HC.out (by omega)
      have hcell := HE.out.cell (hc k hlt)
      unfold bv at hcell
      clear hc
      have HP := Lib.hid (show (fun i => if i = k / 8 then wiF f b k (k / 8) ^^^ (b.getD k 0).toNat * 2 ^ (8 * (k % 8)) else wiF f b k i) = wiF f b (k + 1) from rfl)
      have hz := byte_fits (b.getD k 0) k
      have hcb := (b.getD k 0).toNat_lt
      have hol := wiF_lt f b HF.out k (by omega) (k / 8) (by omega)
      generalize wiF f b k = p at *
      generalize (b.getD k 0).toNat = x at *
      go_wp2_with fail
      have HI := Lib.hid (show bits BinOp.xor IntKind.u64 ((p (k / 8) : Nat) : Int) (IntKind.u64.wrap ((x : Int) * 2 ^ (8 * (k % 8)))) = ((p (k / 8) ^^^ x * 2 ^ (8 * (k % 8)) : Nat) : Int) by
        rw [show ((x : Int) * 2 ^ (8 * (k % 8))) = ((x * 2 ^ (8 * (k % 8)) : Nat) : Int) by simp, IntWalk.u64_in _ (by omega), u64_xor_nat _ _ hol hz])
      have hc := HK.out.cell (k / 8) (by omega)
      have hf := Cs.frozen HK.out (k / 8)
      have a1 : (0 : Int) ≤ (k : Int) / 8 := by omega
      have a2 : (k : Int) / 8 < 25 := by omega
      have a3 : (0 : Int) ≤ (k : Int) % 8 := by omega
      have a4 : (k : Int) % 8 < 8 := by omega
      have hx64 : x < 18446744073709551616 := by omega
      clear hcell
      go_region
      rw [HI.out]
      have K1 := Lib.hid (show Ln (wr.setCell ⟨w.heap.size, k / 8, none⟩ (.int .u64 ((p (k / 8) ^^^ x * 2 ^ (8 * (k % 8)) : Nat) : Int))).drew w.heap.size (wiF f b (k + 1)) by
        rw [← HP.out]
        exact HK.out.set (k / 8) _)
      have Z1 := Lib.hid (Cs.kept HZ.out (grown_drew (grown_set wr w.heap.size (k / 8) (.int .u64 ((p (k / 8) ^^^ x * 2 ^ (8 * (k % 8)) : Nat) : Int)))) (some_ne (by omega)))
      have E1 := Lib.hid (HE.out.grown (grown_drew (grown_set wr w.heap.size (k / 8) (.int .u64 ((p (k / 8) ^^^ x * 2 ^ (8 * (k % 8)) : Nat) : Int)))) (by omega))
      clear hc hf HK HZ HE HP HI
      generalize (wr.setCell ⟨w.heap.size, k / 8, none⟩ (.int .u64 ((p (k / 8) ^^^ x * 2 ^ (8 * (k % 8)) : Nat) : Int))).drew = w2 at *
      go_wp2_with fail
      go_roundw
      case rel => exact ⟨k + 1, by omega, by go_num, K1, Z1, E1⟩
      case measure => simp [intOf]; omega
    · obtain rfl : k = b.length := by omega
      generalize hp : wiF f b b.length = p at *
      have HP := Lib.hid hp
      clear hp hlt hk
      go_wp2_with (first
        | ((with_reducible refine wpList_load_lanes ?_ (.tmp 2) ?_ w.heap.size p ?_ ?_ ?_); (exact rfl); (exact rfl); (exact rfl); (exact HK.out))
        | ((with_reducible refine wpList_store_lanes ?_ ?_ (.tmp 4) (.tmp 27) ?_ (w.heap.size + 1) (lc fun _ => 0) p ?_ ?_ ?_ ?_ ?_); (exact rfl); (exact rfl); (exact rfl); (exact rfl); (exact rfl); (exact HZ.out); (exact lc_size _); intro w7 k7 g7; have K7 := Lib.hid k7; have HE7 := Lib.hid (HE.out.grown g7 (by omega)); clear k7 g7))
      exact bodyPost_ret (results_lanes Tryd.results46 _ _ (w.heap.size + 1) _ rfl K7.out) rfl ⟨by rw [HP.out]; rfl, HE7.out⟩

/-! ### Padded bytes -/
def padN (b : List UInt8) : Nat := (b.length / 136 + 1) * 136
def padL (b : List UInt8) : List UInt8 := ((lay (List.replicate (padN b) 0) 0 b).set b.length 1).set (padN b - 1) (((lay (List.replicate (padN b) 0) 0 b).set b.length 1).getD (padN b - 1) 0 ||| 128)
set_option maxRecDepth 100000 in
theorem padN_gt (b : List UInt8) : b.length < padN b := by unfold padN; omega
set_option maxRecDepth 100000 in
theorem padL_len (b : List UInt8) : (padL b).length = padN b := by simp [padL, lay_length]
/-- A call that answers a row of bytes of its own. -/
def RetP (w : World) (l : List UInt8) (e : Ending) (w' : World) : Prop := ∃ v, e = .returned v ∧ Own w' w.heap.size 5 v l ∧ Ext w w'
set_option maxRecDepth 100000 in
theorem or_byte (c : UInt8) : Value.int .u8 ((c.toNat ||| 128 : Nat) : Int) = bv (c ||| 128) := by
  unfold bv
  simp

set_option maxRecDepth 100000 in
theorem pad_mid {w : World} {g : Nat} (b : List UInt8) (hr : Row w g 5 (lay (List.replicate (padN b) 0) 0 b)) :
    ∃ (x y : UInt8), w.cell? ⟨g, b.length, none⟩ = some (bv x) ∧ w.frozen? ⟨g, b.length, none⟩ = false
      ∧ (w.setCell ⟨g, b.length, none⟩ (.int .u8 1)).cell? ⟨g, padN b - 1, none⟩ = some (.int .u8 (y.toNat : Int))
      ∧ (w.setCell ⟨g, b.length, none⟩ (.int .u8 1)).frozen? ⟨g, padN b - 1, none⟩ = false
      ∧ bits .or .u8 (y.toNat : Int) 128 = ((y.toNat ||| 128 : Nat) : Int)
      ∧ Row ((w.setCell ⟨g, b.length, none⟩ (.int .u8 1)).setCell ⟨g, padN b - 1, none⟩ (.int .u8 ((y.toNat ||| 128 : Nat) : Int))) g 5 (padL b) := by
  have hgt := padN_gt b
  have h3 : Row (w.setCell ⟨g, b.length, none⟩ (.int .u8 1)) g 5 ((lay (List.replicate (padN b) 0) 0 b).set b.length 1) := hr.put b.length 1
  refine ⟨_, ((lay (List.replicate (padN b) 0) 0 b).set b.length 1).getD (padN b - 1) 0, hr.cell b.length (by rw [lay_length, List.length_replicate]; omega), hr.frozen _, h3.cell (padN b - 1) (by rw [List.length_set, lay_length, List.length_replicate]; omega), h3.frozen _, u8_or_nat _ 128 (UInt8.toNat_lt _) (by decide), ?_⟩
  rw [or_byte]
  exact h3.put _ _

set_option maxRecDepth 100000 in
set_option maxHeartbeats 2000000 in
theorem pad_any (v : Value) (b : List UInt8) (w : World) (hb : Bs w v b) (hl : b.length ≤ 1000000000) :
    Calls Tryd.prog 13 #[v] w (RetP w (padL b)) := by
  have HB := Lib.hid hb
  obtain ⟨A, c, rfl, hlc, hcm, hcell⟩ := hb
  unfold maxLen at hcm
  clear hcell
  have hN : padN b ≤ 1000000136 := by unfold padN; omega
  have hgt := padN_gt b
  have hNi : ((b.length : Int) / 136 + 1) * 136 = (padN b : Int) := by unfold padN; omega
  have HNI := Lib.hid hNi
  clear hNi
  go_enter Tryd.func13, Tryd.ntmps13
  go_wp2_with (first
    | (at_make; rw [HNI.out]; refine wpList_make_bytes rfl _ _ _ rfl 5 Tryd.underlying24 u8info .i64 .i64 _ _ (padN b) rfl rfl rfl rfl (by omega) ?_; intro w1 hr1 he1; have HR := Lib.hid hr1; have HE := Lib.hid he1; clear hr1 he1)
    | (with_reducible refine wpList_copy_bytes rfl (.tmp 10) (.tmp 11) _ _ rfl 5 Tryd.underlying24 u8size w.heap.size (padN b) (padN b) (List.replicate (padN b) 0) rfl (by simp) HR.out (.slice A b.length c) b rfl (HB.out.ext HE.out) ?_; intro w2 hr2 hg2; have HE2 := Lib.hid (HE.out.grown hg2 (by omega)); obtain ⟨x0, y0, c3, f3, c4, f4, hor, hrow⟩ := pad_mid b hr2; have HOR := Lib.hid hor; have HROW := Lib.hid hrow; clear hr2 hg2 hor hrow))
  rw [HOR.out]
  go_ret
  have hown := HROW.out.own (base := w.heap.size) (Nat.le_refl _) (by rw [padL_len]; unfold maxLen; omega)
  rw [padL_len] at hown
  exact ⟨_, rfl, hown, (HE2.out.grown (grown_set _ _ _ _) (by omega)).grown (grown_set _ _ _ _) (by omega)⟩
end Go.Proofs.YthjmjccggkejhaaDoor
