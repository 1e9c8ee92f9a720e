/- Package pack: the document's same. -/
import Derived.Test.YtdlllihfibjabaaPkl
namespace Go.Proofs.Ytdlllihfibjabaa
open Go.RowKit Go.Shelf

set_option maxRecDepth 100000 in
theorem ne_at (a b : List UInt8) (k : Nat) (hn : a.getD k 0 ≠ b.getD k 0) : (a == b) = false := by
  simp
  rintro rfl
  exact hn rfl
set_option maxRecDepth 100000 in
set_option maxHeartbeats 1000000 in
theorem refSame4_any (v1 v2 : Value) (a b : List UInt8) (w : World) (h1 : Bs w v1 a) (h2 : Bs w v2 b) : Calls Try.prog 64 #[v1, v2] w fun e w' => e = .returned (.bool (a == b)) ∧ Ext w w' := by
  obtain ⟨A, c, rfl, p1, p2, p3⟩ := h1
  obtain ⟨A', c', rfl, q1, q2, q3⟩ := h2
  unfold maxLen at p2 q2
  have HP := Lib.hid p3
  have HQ := Lib.hid q3
  clear p3 q3
  by_cases hl : a.length = b.length
  · have hd : ((a.length : Int) == (b.length : Int)) = true := by simp [hl]
    go_enter Try.func64, Try.ntmps64
    go_wp2_with fail
    go_loopw [13] (fun u wr => ∃ k : Nat, k ≤ a.length ∧ u = .int .i64 k ∧ Hid (∀ i, i < k → a.getD i 0 = b.getD i 0) ∧ Hid (Ext w wr)) (fun u _ => a.length - (intOf u).toNat)
    case atStart => exact ⟨0, by omega, rfl, Lib.hid fun i hi => absurd hi (by omega), Lib.hid (Ext.refl w)⟩
    case round =>
      obtain ⟨k, hk, rfl, HS, HE⟩ := hrel
      by_cases hlt : k < a.length
      · have hdk : decide (k < a.length) = true := decide_eq_true hlt
        obtain ⟨b1, o1, rfl, hc1⟩ := HP.out (by omega)
        obtain ⟨b2, o2, rfl, hc2⟩ := HQ.out (by omega)
        have hx := HE.out.cell (hc1 k hlt)
        have hy := HE.out.cell (hc2 k (by omega))
        unfold bv at hx hy
        clear hc1 hc2
        have HE2 := Lib.hid (HE.out.trans (Ext.refl wr).drew)
        have hmx : Try.prog.follows .mixedOrders = true := by kernel_rfl
        have hkb : k < b.length := by omega
        by_cases h0 : a.getD k 0 = b.getD k 0
        · have HN : Hid (∀ i, i < k + 1 → a.getD i 0 = b.getD i 0) := Lib.hid fun i hi => by
            by_cases h : i = k
            · rw [h]; exact h0
            · exact HS.out i (by omega)
          rw [h0] at hx
          clear h0
          generalize (b.getD k 0).toNat = y at *
          go_wp2_with fail
          go_region
          go_wp2_with fail
          exact ⟨⟨k + 1, by omega, by go_num, HN, HE2⟩, by simp [intOf]; omega⟩
        · have HF := Lib.hid (ne_at a b k h0)
          have hz : (((a.getD k 0).toNat : Int) == ((b.getD k 0).toNat : Int)) = false := by
            refine beq_eq_false_iff_ne.2 fun e => h0 (UInt8.toNat_inj.1 (by omega))
          clear h0
          generalize (a.getD k 0).toNat = x at *
          generalize (b.getD k 0).toNat = y at *
          go_wp2_with fail
          go_region
          go_wp2_with fail
          go_ret
          exact ⟨by rw [HF.out]; rfl, HE2.out⟩
      · obtain rfl : k = a.length := by omega
        have HF := Lib.hid (show (a == b) = true from by
          simp
          exact ext_getD hl HS.out)
        go_wp2_with fail
        go_ret
        exact ⟨by rw [HF.out]; rfl, HE.out⟩
  · have hd : ((a.length : Int) == (b.length : Int)) = false := by simp; omega
    have HF := Lib.hid (show (a == b) = false from by
      simp
      rintro rfl
      exact hl rfl)
    go_enter Try.func64, Try.ntmps64
    go_wp2_with fail
    go_ret
    exact ⟨by rw [HF.out]; rfl, Ext.refl _⟩
end Go.Proofs.Ytdlllihfibjabaa
