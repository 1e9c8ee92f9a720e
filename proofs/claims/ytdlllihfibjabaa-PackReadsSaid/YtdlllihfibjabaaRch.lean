/- The document's own answers of layer 2: Bytes, Read. -/
import Derived.Test.YtdlllihfibjabaaWri
import Derived.Test.YtdlllihfibjabaaWrp
import Derived.RegionTactic
import Derived.OwnWalk
namespace Go.Proofs.Ytdlllihfibjabaa
open Go.RowKit

set_option maxRecDepth 100000 in
theorem lb_byte (n k : Nat) : lb n (k / 8) / 2 ^ (8 * (k % 8)) % 256 = n / 2 ^ (8 * k) % 256 := by
  have h := lb_div n (k / 8) (8 * (k % 8)) 8 (by omega)
  rw [show (2 : Nat) ^ 8 = 256 from rfl] at h
  rw [h]
  congr 3
  omega
set_option maxRecDepth 100000 in
theorem byte_at (n m : Nat) (hm : m < 32) : Value.int .u8 (((lb n (m / 8) : Nat) : Int) / 2 ^ (8 * (m % 8)) % 256) = bv (UInt8.ofNat (dBits n 8 (31 - m))) := by
  have e : (((lb n (m / 8) : Nat) : Int) / 2 ^ (8 * (m % 8)) % 256) = ((dBits n 8 (31 - m) : Nat) : Int) := by
    have h := lb_byte n m
    unfold dBits dAt
    rw [show 256 - 8 * (31 - m + 1) = 8 * m by omega, show (2 : Nat) ^ 8 = 256 from rfl, ← h]
    simp
  have hb := dBits_lt n 8 (31 - m)
  rw [e, bv_of _ (by omega) (by omega)]
  rfl
set_option maxRecDepth 100000 in
/-- A new block of one byte, as a slice. -/
theorem Bs.one (w : World) (t : TypeId) (v : Value) (c : UInt8) (h : v = bv c) : Bs (w.alloc (.cells #[v] t)) (.slice (some ⟨w.heap.size, 0, none⟩) 1 1) [c] := by
  subst h
  refine ⟨_, 1, rfl, Nat.le_refl _, by decide, fun _ => ⟨_, 0, rfl, fun i hi => ?_⟩⟩
  obtain rfl : i = 0 := by simp at hi; omega
  exact Row.cell (l := [c]) (heap_alloc_new _ _) 0 (by simp)

set_option maxRecDepth 100000 in
set_option maxHeartbeats 2000000 in
theorem refBytes_any (n : Nat) (w : World) : Calls Try.prog 66 #[wv n] w (RetB w (bytL n (List.range 32))) := by
  unfold wv
  go_enter Try.func66, Try.ntmps66
  go_wp2_with fail
  have hW : Wd (w.alloc (.cells (wc n) 46)) w.heap.size 46 n := Cs.new w _ _ _ rfl
  have HE0 := Lib.hid ((Ext.refl w).alloc (.cells (wc n) 46))
  have HW := Lib.hid hW
  clear hW
  go_loopw [3, 4, 5, 6, 7, 8, 9, 10, 11, 12, 13, 14, 15, 16, 17, 18, 19, 20] (fun o i _ _ _ _ _ _ _ _ _ _ _ _ _ _ _ _ wr => ∃ k : Nat, k ≤ 32 ∧ i = .int .i64 ((k : Int) - 1) ∧ Hid (Own wr (w.heap.size + 1) 5 o (bytL n (List.range (32 - k)))) ∧ Hid (Wd wr w.heap.size 46 n) ∧ Hid (Ext w wr)) (fun _ i _ _ _ _ _ _ _ _ _ _ _ _ _ _ _ _ _ => (intOf i + 1).toNat)
  case atStart => exact ⟨32, by omega, rfl, World.ownsRow_nil _ _ _ _, HW, HE0⟩
  case round =>
    clear HE0 HW
    obtain ⟨k, hk, rfl, HO, HW, HE⟩ := hrel
    cases k with
    | zero =>
      go_wp2_with fail
      go_ret
      exact ⟨_, rfl, Own.mono HO.out (by omega), HE.out⟩
    | succ m =>
      rw [show (((m + 1 : Nat) : Int) - 1) = (m : Int) by omega]
      have hge : decide ((0 : Int) ≤ (m : Int)) = true := by simp
      have hc := HW.out.cell (m / 8) (by omega)
      have hl := lb_lt n (m / 8)
      have HB := Lib.hid (Bs.one wr 5 _ _ (byte_at n m (by omega)))
      have HS := Lib.hid (show bytL n (List.range (32 - m)) = bytL n (List.range (32 - (m + 1))) ++ [UInt8.ofNat (dBits n 8 (31 - m))] by
        rw [show 32 - m = (31 - m) + 1 by omega, List.range_succ, bytL_snoc, show 32 - (m + 1) = 31 - m by omega])
      have HL := Lib.hid (show (bytL n (List.range (32 - (m + 1)))).length = 31 - m by rw [bytL_len, List.length_range]; omega)
      have HO2 := Lib.hid (World.ownsRow.alloc HO.out (.cells #[.int .u8 (((lb n (m / 8) : Nat) : Int) / 2 ^ (8 * (m % 8)) % 256)] 5))
      have HE2 := Lib.hid (HE.out.alloc (.cells #[.int .u8 (((lb n (m / 8) : Nat) : Int) / 2 ^ (8 * (m % 8)) % 256)] 5))
      have HW2 := Lib.hid (HW.out.ext ((Ext.refl wr).alloc (.cells #[.int .u8 (((lb n (m / 8) : Nat) : Int) / 2 ^ (8 * (m % 8)) % 256)] 5)))
      have hsz := HE.out.size
      clear HO HE HW
      have a1 : (0 : Int) ≤ (m : Int) / 8 := by omega
      have a2 : (m : Int) / 8 < 4 := by omega
      have a3 : (0 : Int) ≤ (m : Int) % 8 := by omega
      have a4 : (m : Int) % 8 < 8 := by omega
      go_wp2_with (refine wpList_append_bytes rfl (.tmp 9) (.tmp 19) 28 rfl (w.heap.size + 1) 5 Try.underlying28 u8info u3 _ rfl HO2.out _ [UInt8.ofNat (dBits n 8 (31 - m))] rfl HB.out (by rw [HL.out]; simp; omega) (by simp; omega) ?_; intro v' w3 ho3 hg3 _; rw [← HS.out] at ho3; have H3 := Lib.hid ho3; have HE3 := Lib.hid (HE2.out.append (Own.mono HO2.out (by omega)) hg3); have HW3 := Lib.hid (HW2.out.kept hg3 (fun e => by have := (World.ownsRow.lt HO2.out w.heap.size e.symm).1; omega)); clear ho3 hg3)
      go_roundw
      case rel => exact ⟨m, by omega, rfl, H3, HW3, HE3⟩
      case measure => simp [intOf]

set_option maxRecDepth 100000 in
theorem shift_fits8 (c m : Nat) (hc : c < 256) : c * 2 ^ (8 * (m % 8)) < 18446744073709551616 := by
  have h2 : (2 : Nat) ^ (8 * (m % 8)) ≤ 2 ^ 56 := Nat.pow_le_pow_right (by decide) (by omega)
  have h3 : c * 2 ^ (8 * (m % 8)) ≤ 255 * 2 ^ 56 := Nat.mul_le_mul (by omega) h2
  omega
set_option maxRecDepth 100000 in
set_option maxHeartbeats 2000000 in
theorem refRead_any (v : Value) (l : List UInt8) (w : World) (h : Bs w v l) (hl : l.length ≤ 32) :
    Calls Try.prog 71 #[v] w fun e w' => e = .returned (wv (beN l)) ∧ Ext w w' := by
  obtain ⟨A, c, rfl, hlc, hcm, hcell⟩ := h
  unfold maxLen at hcm
  have HC := Lib.hid hcell
  clear hcell
  go_enter Try.func71, Try.ntmps71
  go_wp2_with fail
  go_loopw [4, 5, 6, 9, 10, 11, 12, 13, 14, 15, 16, 17, 18, 19, 20, 21, 22, 23, 24, 25, 26, 27, 28, 29, 30, 31] (fun _ _ _ i _ _ _ _ _ _ _ _ _ _ _ _ _ _ _ _ _ _ _ _ _ _ wr => ∃ k : Nat, k ≤ l.length ∧ i = .int .i64 k ∧ Hid (Cs wr w.heap.size 46 (wc 0)) ∧ Hid (Wd wr (w.heap.size + 1) 46 (rdN l k)) ∧ Hid (Ext w wr)) (fun _ _ _ i _ _ _ _ _ _ _ _ _ _ _ _ _ _ _ _ _ _ _ _ _ _ _ => l.length - (intOf i).toNat)
  case atStart =>
    refine ⟨0, by omega, rfl, heap_alloc2_old _ _ _, ?_, ((Ext.refl w).alloc _).alloc _⟩
    rw [rdN_zero]
    exact heap_alloc2_new _ _ _
  case round =>
    obtain ⟨k, hk, rfl, h0, h1, he⟩ := hrel
    by_cases hlt : k < l.length
    · obtain ⟨b, o, rfl, hc⟩ := HC.out (by omega)
      have hcell := he.out.cell (hc k hlt)
      unfold bv at hcell
      clear hc
      have HS := Lib.hid (rdN_step l k hlt)
      have hcb := (l.getD k 0).toNat_lt
      have HL := Lib.hid (rdN_lt l (k + 1) hlt hl)
      generalize (l.getD k 0).toNat = x at *
      go_wp2_with fail
      rw [show ((l.length : Int) - 1 - (k : Int)) = ((l.length - 1 - k : Nat) : Int) by omega]
      obtain ⟨m, hm⟩ : ∃ m, l.length - 1 - k = m := ⟨_, rfl⟩
      have hm32 : m < 32 := by omega
      rw [hm] at HS ⊢
      have HM := Lib.hid hm
      clear hm
      have hz := shift_fits8 x m hcb
      have HA := Lib.hid (show (wc (rdN l k)).setIfInBounds (m / 8) (lv (lb (rdN l k) (m / 8) ||| x * 2 ^ (8 * (m % 8)))) = wc (rdN l (k + 1)) by
        rw [wc_or (rdN l k) (m / 8) _ (by omega) hz, ← HS.out]
        congr 2
        rw [show (18446744073709551616 : Nat) = 2 ^ 64 from rfl, ← Nat.pow_mul, Nat.mul_assoc, ← Nat.pow_add]
        congr 2
        omega)
      have HI := Lib.hid (show bits BinOp.or IntKind.u64 ((lb (rdN l k) (m / 8) : Nat) : Int) (IntKind.u64.wrap ((x : Int) * 2 ^ (8 * (m % 8)))) = ((lb (rdN l k) (m / 8) ||| x * 2 ^ (8 * (m % 8)) : Nat) : Int) by
        rw [show ((x : Int) * 2 ^ (8 * (m % 8))) = ((x * 2 ^ (8 * (m % 8)) : Nat) : Int) by simp, IntWalk.u64_in _ (by omega), u64_or_nat _ _ (lb_lt _ _) hz])
      have hc := h1.out.cell (m / 8) (by omega)
      have hf := h1.out.frozen (m / 8)
      have a1 : (0 : Int) ≤ (m : Int) / 8 := by omega
      have a2 : (m : Int) / 8 < 4 := by omega
      have a3 : (0 : Int) ≤ (m : Int) % 8 := by omega
      have a4 : (m : Int) % 8 < 8 := by omega
      have hx64 : x < 18446744073709551616 := by omega
      have hll := lb_lt (rdN l k) (m / 8)
      clear hcell
      go_region
      rw [HI.out]
      have K1 := Lib.hid (show Wd (wr.setCell ⟨w.heap.size + 1, m / 8, none⟩ (.int .u64 ((lb (rdN l k) (m / 8) ||| x * 2 ^ (8 * (m % 8)) : Nat) : Int))).drew (w.heap.size + 1) 46 (rdN l (k + 1)) by
        have := (show Cs wr (w.heap.size + 1) 46 (wc (rdN l k)) from h1.out).set (m / 8) (lv (lb (rdN l k) (m / 8) ||| x * 2 ^ (8 * (m % 8))))
        rw [HA.out] at this
        exact this)
      have K0 := Lib.hid (Cs.kept h0.out (grown_drew (grown_set wr (w.heap.size + 1) (m / 8) (.int .u64 ((lb (rdN l k) (m / 8) ||| x * 2 ^ (8 * (m % 8)) : Nat) : Int)))) (some_ne (by omega)))
      have KE := Lib.hid (he.out.grown (grown_drew (grown_set wr (w.heap.size + 1) (m / 8) (.int .u64 ((lb (rdN l k) (m / 8) ||| x * 2 ^ (8 * (m % 8)) : Nat) : Int)))) (by omega))
      clear hc hf h0 h1 he
      generalize (wr.setCell ⟨w.heap.size + 1, m / 8, none⟩ (.int .u64 ((lb (rdN l k) (m / 8) ||| x * 2 ^ (8 * (m % 8)) : Nat) : Int))).drew = w2 at *
      go_wp2_with fail
      go_roundw
      case rel => exact ⟨k + 1, by omega, by go_num, K0, K1, KE⟩
      case measure => simp [intOf]; omega
    · obtain rfl : k = l.length := by omega
      rw [rdN_all] at h1
      clear hlt hk
      go_wp2_with (first
        | ((with_reducible refine wpList_load_wordG ?_ 46 44 (.tmp 3) rfl Try.underlying46 winfo (w.heap.size + 1) (beN l) ?_ ?_ ?_); (exact rfl); (exact rfl); (exact h1.out))
        | (refine wpList_store_word rfl rfl 46 (.tmp 2) (.tmp 32) rfl winfo w.heap.size (wc 0) _ rfl rfl h0.out rfl ?_; intro w4 k4 g4; have K4 := Lib.hid k4; have HE4 := Lib.hid (he.out.grown g4 (by omega)); clear k4 g4))
      exact bodyPost_ret (results_word Try.results71 _ _ w.heap.size _ rfl K4.out Try.underlying46 winfo) rfl ⟨rfl, HE4.out⟩
end Go.Proofs.Ytdlllihfibjabaa
