/- Contracts of the document's answers for layer 1 (sheaferref01). -/
import Derived.Test.YtllcmeihogcckaaLaa
import Derived.Test.YtllcmeihogcckaaMau
import Derived.BigQuiet
import Derived.Deep.QuietTactic
namespace Go.Proofs.Ytllcmeihogcckaa
open Go.RowKit

/-- A call that answers a plain value, and leaves what was there. -/
def RetV (w : World) (r : Value) (e : Ending) (w' : World) : Prop := e = .returned r ∧ Ext w w'

theorem Ext.drewN {a w : World} (h : Ext a w) (n : Nat) : Ext a (w.drewN n) := h.trans ⟨rfl, rfl, rfl, Nat.le_refl _, fun _ _ => rfl⟩

theorem take_step (a b : List UInt8) (k : Nat) (ha : k < a.length) (hb : k < b.length) (h : a.take k = b.take k) (hx : a.getD k 0 = b.getD k 0) : a.take (k + 1) = b.take (k + 1) := by
  rw [List.take_succ_eq_append_getElem ha, List.take_succ_eq_append_getElem hb, h]
  simp [List.getD, List.getElem?_eq_getElem ha, List.getElem?_eq_getElem hb] at hx
  rw [hx]

set_option maxHeartbeats 800000 in
theorem same_any (v1 v2 : Value) (a b : List UInt8) (w : World) (h1 : Bs w v1 a) (h2 : Bs w v2 b) :
    Calls Try.prog 14 #[v1, v2] w (RetV w (.bool (a == b))) := by
  obtain ⟨A, c, rfl, g1, g2, g3⟩ := h1
  obtain ⟨A', c', rfl, k1, k2, k3⟩ := h2
  unfold maxLen at g2 k2
  by_cases hn : a.length = b.length
  · have HN := Lib.hid hn
    have hne : ((a.length : Int) != (b.length : Int)) = false := by simp [hn]
    have hle1 : a.length ≤ b.length := by omega
    have hle2 : b.length ≤ a.length := by omega
    clear hn
    go_enter Try.func14, Try.ntmps14
    go_wp2
    go_loopw [13] (fun i wr => ∃ k : Nat, k ≤ a.length ∧ i = .int .i64 k ∧ Hid (a.take k = b.take k) ∧ Hid (Ext w wr)) (fun i _ => a.length - (intOf i).toNat)
    case atStart => exact ⟨0, Nat.zero_le _, rfl, by show _ = _; simp, Ext.refl _⟩
    case round =>
      obtain ⟨k, hk, rfl, HT, HE⟩ := hrel
      by_cases hlt : k < a.length
      · obtain ⟨b1, o1, rfl, hc1⟩ := g3 (by omega)
        obtain ⟨b2, o2, rfl, hc2⟩ := k3 (by omega)
        have hx1 := HE.out.cell (hc1 k hlt)
        have hx2 := HE.out.cell (hc2 k (by omega))
        unfold bv at hx1 hx2
        have hlt2 : k < b.length := by omega
        clear hc1 hc2 g3 k3
        have HSt := Lib.hid (take_step a b k hlt hlt2 HT.out)
        have HNe := Lib.hid (show a.getD k 0 ≠ b.getD k 0 → (a == b) = false by
          intro hh
          rw [beq_eq_false_iff_ne]
          intro e
          exact hh (by rw [e]))
        generalize a.getD k 0 = x at *
        generalize b.getD k 0 = y at *
        by_cases hxy : x = y
        · subst hxy
          have HSt2 := Lib.hid (HSt.out rfl)
          clear HSt
          have hd : ((x.toNat : Int) != (x.toNat : Int)) = false := by simp
          go_wp2
          go_quiet (fail)
          go_wp2
          go_roundw
          case rel => exact ⟨k + 1, by omega, by go_num, HSt2.out, HE.out.drewN _⟩
          case measure => simp [intOf]; omega
        · have hd : ((x.toNat : Int) != (y.toNat : Int)) = true := by
            rw [bne_iff_ne]
            intro h
            exact hxy (UInt8.toNat_inj.1 (by omega))
          go_wp2
          go_quiet (fail)
          go_wp2
          go_ret
          rw [HNe.out hxy]
          exact ⟨rfl, HE.out.drewN _⟩
      · go_wp2
        go_ret
        have : (a == b) = true := by
          rw [beq_iff_eq]
          have h := HT.out
          rwa [List.take_of_length_le (by omega), List.take_of_length_le (by omega)] at h
        rw [this]
        exact ⟨rfl, HE.out⟩
  · have hne : ((a.length : Int) != (b.length : Int)) = true := by rw [bne_iff_ne]; omega
    have hf : (a == b) = false := by
      rw [beq_eq_false_iff_ne]
      intro e
      exact hn (by rw [e])
    rw [hf]
    clear hf g3 k3
    go_enter Try.func14, Try.ntmps14
    go_wp2
    go_ret
    exact ⟨rfl, Ext.refl _⟩

set_option maxHeartbeats 400000 in
theorem refNoughts_any (v : Value) (l : List UInt8) (w : World) (hb : Bs w v l) :
    Calls Try.prog 18 #[v] w fun e w' => e = .returned (.int .i64 (zeros l)) ∧ w = w' := by
  obtain ⟨A, c, rfl, h1, h2, h3⟩ := hb
  unfold maxLen at h2
  go_enter Try.func18, Try.ntmps18
  go_wp2
  go_loop [3, 8] (fun t i => ∃ k : Nat, k ≤ l.length ∧ i = .int .i64 k ∧ t = .int .i64 (zeros (l.take k))) (fun _ i => l.length - (intOf i).toNat)
  case atStart => exact ⟨0, Nat.zero_le _, rfl, rfl⟩
  case round =>
    obtain ⟨k, hk, rfl, rfl⟩ := hrel
    have hz := zeros_le (l.take k)
    have hzl : (l.take k).length ≤ k := List.length_take_le _ _
    by_cases hlt : k < l.length
    · have HS := Lib.hid (zeros_snoc l k hlt)
      obtain ⟨b, o, rfl, hc⟩ := h3 (by omega)
      have hck := hc k hlt
      unfold bv at hck
      clear hc h3
      generalize l.getD k 0 = x at *
      by_cases hx0 : x = 0
      · subst hx0
        go_wp2
        go_round
        case rel => exact ⟨k + 1, by omega, by go_num, by rw [HS.out]; simp⟩
        case measure => simp [intOf]; omega
      · have hn : ((x.toNat : Int) == 0) = false := by
          rw [beq_eq_false_iff_ne]
          intro h
          exact hx0 (UInt8.toNat_inj.1 (by simpa using h))
        go_wp2
        go_round
        case rel => exact ⟨k + 1, by omega, by go_num, by rw [HS.out]; simp [hx0]⟩
        case measure => simp [intOf]; omega
    · go_wp2
      have hz2 : (l.take k) = l := List.take_of_length_le (by omega)
      go_ret
      rw [hz2]
      exact ⟨rfl, rfl⟩

theorem mul_add_u64 (x y : Nat) : IntKind.u64.wrap (IntKind.u64.wrap (256 * (x : Int)) + (y : Int)) = (((x * 256 + y) % 18446744073709551616 : Nat) : Int) := by
  rw [IntKind.wrap_u64, IntKind.wrap_u64]
  omega

set_option maxHeartbeats 400000 in
theorem number_any (v : Value) (l : List UInt8) (w : World) (hb : Bs w v l) :
    Calls Try.prog 24 #[v] w fun e w' => e = .returned (.int .u64 (num l)) ∧ w = w' := by
  obtain ⟨A, c, rfl, h1, h2, h3⟩ := hb
  unfold maxLen at h2
  go_enter Try.func24, Try.ntmps24
  go_wp2
  go_loop [3, 8] (fun x i => ∃ k : Nat, k ≤ l.length ∧ i = .int .i64 k ∧ x = .int .u64 (num (l.take k))) (fun _ i => l.length - (intOf i).toNat)
  case atStart => exact ⟨0, Nat.zero_le _, rfl, rfl⟩
  case round =>
    obtain ⟨k, hk, rfl, rfl⟩ := hrel
    by_cases hlt : k < l.length
    · obtain ⟨b, o, rfl, hc⟩ := h3 (by omega)
      have hck := hc k hlt
      unfold bv at hck
      clear hc h3
      have HS := Lib.hid (num_snoc l k hlt)
      have hnl := num_lt (l.take k)
      generalize num (l.take k) = x at *
      generalize l.getD k 0 = y at *
      have hy := y.toNat_lt
      go_wp2
      go_round
      case rel => exact ⟨k + 1, by omega, by go_num, by rw [HS.out, mul_add_u64]⟩
      case measure => simp [intOf]; omega
    · go_wp2
      go_ret
      rw [List.take_of_length_le (by omega)]
      exact ⟨rfl, rfl⟩
end Go.Proofs.Ytllcmeihogcckaa
