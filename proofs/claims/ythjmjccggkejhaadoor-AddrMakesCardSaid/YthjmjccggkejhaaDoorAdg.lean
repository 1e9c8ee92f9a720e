/- Bytes and Read of addresses, of the document. -/
import Derived.Test.YthjmjccggkejhaaDoorAdc
namespace Go.Proofs.YthjmjccggkejhaaDoor
open Go.RowKit

set_option maxRecDepth 100000 in
theorem own_nil (w : World) (b : Nat) (t : TypeId) : Own w b t (.slice none 0 0) [] := World.ownsRow_nil w b t 1
set_option maxRecDepth 100000 in
theorem hi8_step (a k : Nat) (hk : k < 8) : (hi8 a).take k ++ [UInt8.ofNat (a / 256 ^ (7 - k))] = (hi8 a).take (k + 1) := by
  have hl : (hi8 a).length = 8 := hiK_length a 8
  apply ext_getD (by simp [hl]; omega)
  intro i hi
  have hi' : i < k + 1 := by simpa [hl, Nat.min_eq_left (show k ≤ 8 by omega)] using hi
  rw [getD_take _ _ _ hi', getD_append_if]
  have hlk : ((hi8 a).take k).length = k := by simp [hl]; omega
  rw [hlk]
  by_cases h : i < k
  · rw [if_pos h, getD_take _ _ _ h]
  · obtain rfl : i = k := by omega
    rw [if_neg h, Nat.sub_self]
    unfold hi8
    rw [hiK_getD a 8 i (by omega), if_pos (by omega)]
    rfl

set_option maxRecDepth 100000 in
set_option maxHeartbeats 2000000 in
theorem refAdrBytes_any (a : Nat) (w : World) : Calls Tryd.prog 62 #[.int .u64 (a : Int)] w (RetB w (hi8 a)) := by
  have HO := Lib.hid (own_nil w w.heap.size 5)
  go_enter Tryd.func62, Tryd.ntmps62
  go_wp2_with fail
  go_loopw [3, 4, 5, 6, 7, 8, 9, 10, 11, 12, 13, 14, 15, 16] (fun v u _ _ _ _ _ _ _ _ _ _ _ _ wr => ∃ k : Nat, k ≤ 8 ∧ u = .int .i64 (7 - (k : Int)) ∧ Hid (Own wr w.heap.size 5 v ((hi8 a).take k)) ∧ Hid (Ext w wr)) (fun _ u _ _ _ _ _ _ _ _ _ _ _ _ _ => (intOf u + 1).toNat)
  case atStart => exact ⟨0, by omega, rfl, HO, Lib.hid (Ext.refl w)⟩
  case round =>
    clear HO
    obtain ⟨k, hk, rfl, HO, HE⟩ := hrel
    by_cases hlt : k < 8
    · have hd : decide (0 ≤ (7 - (k : Int))) = true := by simp; omega
      have hd2 : decide ((7 - (k : Int)) < 0) = false := by simp; omega
      have ha1 : (0 : Int) ≤ 7 - (k : Int) := by omega
      have ha2 : (0 : Int) ≤ 8 * (7 - (k : Int)) := by omega
      have hsh : (8 * (7 - (k : Int))).toNat = 8 * (7 - k) := by omega
      have HB := Lib.hid (shr_byte a (7 - k))
      have HST := Lib.hid (hi8_step a k hlt)
      have hlen : ((hi8 a).take k).length ≤ 8 := by simp; omega
      generalize (hi8 a).take k = l at *
      go_wp2_with (at_builtin; refine wpList_append_bytes rfl (.tmp 9) (.tmp 15) _ rfl w.heap.size 5 Tryd.underlying24 u8info _ l rfl (HO.out.ext ((Ext.refl wr).alloc _)) _ [UInt8.ofNat (a / 256 ^ (7 - k))] rfl (bs_lit _ _ 5 [UInt8.ofNat (a / 256 ^ (7 - k))] _ _ (heap_alloc_new _ _) (by rw [HB.out]; rfl) rfl (by simp [maxLen])) (by simp; omega) (HE.out.alloc _).size ?_; intro v' w' ho hg hat; have HE' := Lib.hid ((HE.out.alloc _).append (HO.out.ext ((Ext.refl wr).alloc _)) hg); rw [HST.out] at ho; have HO' := Lib.hid ho; clear ho hg hat)
      exact ⟨⟨k + 1, by omega, by congr 1; omega, HO', HE'⟩, by simp [intOf]; omega⟩
    · obtain rfl : k = 8 := by omega
      have hf : (hi8 a).take 8 = hi8 a := List.take_of_length_le (by rw [show (hi8 a).length = 8 from hiK_length a 8]; exact Nat.le_refl _)
      rw [hf] at HO
      go_wp2_with fail
      go_ret
      exact ⟨_, rfl, HO.out, HE.out⟩

set_option maxRecDepth 100000 in
set_option maxHeartbeats 2000000 in
theorem refAdrRead_any (v : Value) (l : List UInt8) (w : World) (hb : Bs w v l) (h8 : 8 ≤ l.length) : Calls Tryd.prog 64 #[v] w fun e w' => e = .returned (.int .u64 (num (last8 (l.take 8)) : Nat)) ∧ Ext w w' := by
  obtain ⟨A, c, rfl, h1, h2, h3⟩ := hb
  unfold maxLen at h2
  obtain ⟨b, o, rfl, hc⟩ := h3 (by omega)
  have hl8 : last8 (l.take 8) = l.take 8 := by unfold last8; rw [show (l.take 8).length - 8 = 0 by simp; omega]; rfl
  rw [hl8]
  have HC := Lib.hid hc
  clear hc h3 hl8
  go_enter Tryd.func64, Tryd.ntmps64
  go_wp2_with fail
  go_loopw [3, 4, 5, 6, 7, 8, 9, 10, 11, 12, 13, 14, 15, 16] (fun x u _ _ _ _ _ _ _ _ _ _ _ _ wr => ∃ k : Nat, k ≤ 8 ∧ u = .int .i64 k ∧ x = .int .u64 (num (l.take k) : Nat) ∧ Hid (Ext w wr)) (fun _ u _ _ _ _ _ _ _ _ _ _ _ _ _ => 8 - (intOf u).toNat)
  case atStart => exact ⟨0, by omega, rfl, rfl, Lib.hid (Ext.refl w)⟩
  case round =>
    obtain ⟨k, hk, rfl, rfl, HE⟩ := hrel
    by_cases hlt : k < 8
    · have hd : decide ((k : Int) < 8) = true := by simp; omega
      have hcell := HE.out.cell (HC.out k (by omega))
      unfold bv at hcell
      have HN := Lib.hid (num_snoc l k (by omega))
      have hk2 : k < l.length := by omega
      have hcb := (l.getD k 0).toNat_lt
      have HS := Lib.hid (shl8_or (num (l.take k)) (l.getD k 0).toNat hcb)
      generalize num (l.take k) = x at *
      generalize (l.getD k 0).toNat = y at *
      go_wp2_with fail
      rw [HS.out, ← HN.out]
      exact ⟨⟨k + 1, by omega, by go_num, rfl, HE⟩, by simp [intOf]; omega⟩
    · obtain rfl : k = 8 := by omega
      go_wp2_with fail
      go_ret
      exact ⟨rfl, HE.out⟩
end Go.Proofs.YthjmjccggkejhaaDoor
