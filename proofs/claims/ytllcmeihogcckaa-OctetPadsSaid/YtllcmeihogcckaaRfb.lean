/- Contracts of the document's answers for layer 1 (sheaferref01): those that make rows. -/
import Derived.Test.YtllcmeihogcckaaRfa
namespace Go.Proofs.Ytllcmeihogcckaa
open Go.RowKit

theorem own_cap {w w' : World} {n : Nat} {t : TypeId} (h : w'.ownsRow w.heap.size t 1 (.slice (some ⟨w.heap.size, 0, none⟩) 0 n) 0 []) : Own w' w.heap.size t (.slice (some ⟨w.heap.size, 0, none⟩) 0 n) [] := h

set_option maxHeartbeats 400000 in
theorem both_any (v1 v2 : Value) (a b : List UInt8) (w : World) (h1 : Bs w v1 a) (h2 : Bs w v2 b) (hl : a.length + b.length ≤ 4294967296) :
    Calls Try.prog 26 #[v1, v2] w (RetB w (a ++ b)) := by
  have H1 := Lib.hid h1
  have H2 := Lib.hid h2
  obtain ⟨i0, hi, hz0, hz1, hz2⟩ := info_parts u8info
  obtain ⟨A, c, rfl, g1, g2, g3⟩ := h1
  obtain ⟨A', c', rfl, k1, k2, k3⟩ := h2
  clear g3 k3
  unfold maxLen at g2 k2
  go_enter Try.func26, Try.ntmps26
  go_wp2_with (first
    | (at_make; refine wpList_make_own _ rfl _ _ _ rfl w.heap.size 5 i0 (.int .u8 0) 1 Try.underlying22 hi hz0 hz1 .i64 .i64 _ (a.length + b.length) rfl rfl (by omega) (by rw [hz2]; omega) (by unfold maxLen; omega) (Nat.le_refl _) ?_; intro w1 ho hg; have HO := Lib.hid (own_cap ho); have HE := Lib.hid (show Ext w w1 from ⟨hg.os, hg.tape, hg.output, hg.size, fun k hk => hg.block k hk (by simp)⟩); clear ho hg)
    | (at_builtin; refine wpList_append_bytes rfl (.tmp 12) (.tmp 13) _ rfl w.heap.size 5 Try.underlying22 u8info _ [] rfl HO.out _ a rfl (H1.out.ext HE.out) (by simp; omega) HE.out.size ?_; intro v2 w2 ho hg hat; have HO2 := Lib.hid ho; have HE2 := Lib.hid (HE.out.append HO.out hg); clear ho hg hat)
    | (at_builtin; refine wpList_append_bytes rfl (.tmp 14) (.tmp 15) _ rfl w.heap.size 5 Try.underlying22 u8info _ ([] ++ a) rfl HO2.out _ b rfl (H2.out.ext HE2.out) (by simp; omega) HE2.out.size ?_; intro v3 w3 ho hg hat; have HO3 := Lib.hid ho; have HE3 := Lib.hid (HE2.out.append HO2.out hg); clear ho hg hat))
  go_ret
  exact ⟨v3, rfl, HO3.out, HE3.out⟩

theorem byte_mod (q : Nat) : Value.int .u8 ((q : Int) % 256) = bv (UInt8.ofNat q) := by
  unfold bv
  rw [UInt8.toNat_ofNat', Int.natCast_emod]
  rfl

set_option maxHeartbeats 400000 in
theorem high8_any (x : Nat) (xi : Int) (hxi : xi = (x : Int)) (w : World) (hx : x < 18446744073709551616) :
    Calls Try.prog 27 #[.int .u64 xi, .int .i64 8] w (RetB w (hi8 x)) := by
  subst hxi
  go_enter Try.func27, Try.ntmps27
  go_wp2_with (at_make; refine wpList_make_bytes rfl _ _ _ rfl 5 Try.underlying22 u8info .i64 .i64 _ _ 8 rfl rfl rfl rfl (by omega) ?_; intro w1 hr1 he1; have HR := Lib.hid hr1; have HE := Lib.hid he1; clear hr1 he1)
  go_loopw [0, 6] (fun y i wr => ∃ k : Nat, k ≤ 8 ∧ i = .int .i64 (7 - (k : Int)) ∧ y = .int .u64 (x / 256 ^ k : Nat) ∧ Row wr w.heap.size 5 (hiK x k) ∧ w1.grownBy wr (some w.heap.size)) (fun _ i _ => (intOf i + 1).toNat)
  case atStart => exact ⟨0, Nat.zero_le _, rfl, by simp, by rw [hiK_zero]; exact HR.out, World.grownBy.refl _ _⟩
  case round =>
    obtain ⟨k, hk, rfl, rfl, hrow, hgr⟩ := hrel
    have HG := Lib.hid hgr
    clear hgr
    have hq : x / 256 ^ k ≤ x := Nat.div_le_self _ _
    by_cases hlt : k < 8
    · have HS := Lib.hid (hiK_step x k hlt)
      have HD := Lib.hid (show x / 256 ^ (k + 1) = x / 256 ^ k / 256 by rw [Nat.pow_succ, Nat.div_div_eq_div_mul])
      have hcell := hrow.cell (7 - k) (by rw [hiK_length]; omega)
      have hfz := hrow.frozen (7 - k)
      unfold bv at hcell
      generalize x / 256 ^ k = q at *
      have hq0 : (0 : Int) ≤ (q : Int) := by omega
      go_wp2
      go_roundw
      case rel => exact ⟨k + 1, by omega, by congr 1; omega, by rw [HD.out]; congr 1, by rw [HS.out, byte_mod]; exact hrow.put (7 - k) _, grown_trans HG.out (grown_set _ _ _ _)⟩
      case measure => simp [intOf]; omega
    · obtain rfl : k = 8 := by omega
      have HROW := Lib.hid hrow
      clear hrow
      go_wp2
      go_ret
      have hown := HROW.out.own (base := w.heap.size) (Nat.le_refl _) (by rw [hiK_length]; simp [maxLen])
      rw [hiK_length] at hown
      exact ⟨_, rfl, hown, HE.out.grown HG.out (Nat.le_refl _)⟩

set_option maxHeartbeats 400000 in
theorem at_any (v : Value) (l : List UInt8) (fr : Nat) (fi : Int) (hfi : fi = (fr : Int)) (w : World) (hb : Bs w v l) :
    Calls Try.prog 37 #[v, .int .u64 fi] w fun e w' => e = .returned (bv (l.getD fr 0)) ∧ w = w' := by
  subst hfi
  obtain ⟨A, c, rfl, h1, h2, h3⟩ := hb
  unfold maxLen at h2
  by_cases hlt : fr < l.length
  · obtain ⟨b, o, rfl, hc⟩ := h3 (by omega)
    have hck := hc fr hlt
    clear hc h3
    generalize l.getD fr 0 = x at *
    unfold bv at hck ⊢
    have hd : decide (l.length ≤ fr) = false := by simp; omega
    go_enter Try.func37, Try.ntmps37
    go_wp2
    go_ret
    exact ⟨rfl, rfl⟩
  · rw [getD_past _ _ (by omega)]
    clear h3
    have hd : decide (l.length ≤ fr) = true := by simp; omega
    go_enter Try.func37, Try.ntmps37
    go_wp2
    go_ret
    exact ⟨rfl, rfl⟩
end Go.Proofs.Ytllcmeihogcckaa
