/- Contracts of the document's answers for layer 1 (sheaferref01): Bare, Padded. -/
import Derived.Test.YtllcmeihogcckaaRfb
namespace Go.Proofs.Ytllcmeihogcckaa
open Go.RowKit

def lenV : Value → Nat | .slice _ n _ => n | _ => 0

set_option maxHeartbeats 1000000 in
theorem refBare_any (v : Value) (l : List UInt8) (w : World) (hb : Bs w v l) (hl : l.length ≤ 4294967296) :
    Calls Try.prog 17 #[v] w (RetB w (bare l)) := by
  have HB := Lib.hid hb
  obtain ⟨A0, c0, rfl, -, -, -⟩ := hb
  go_enter Try.func17, Try.ntmps17
  go_wp2
  go_loop [0] (fun u => ∃ k : Nat, k ≤ l.length ∧ Hid (Bs w u (l.drop k)) ∧ Hid (bare l = bare (l.drop k))) (fun u => lenV u)
  case atStart => exact ⟨0, Nat.zero_le _, HB.out, rfl⟩
  case round =>
    obtain ⟨k, hk, HU, HF⟩ := hrel
    obtain ⟨A, c, rfl, h1, h2, h3⟩ := id HU.out
    unfold maxLen at h2
    have hlen : (l.drop k).length = l.length - k := by simp
    by_cases hlt : k < l.length
    · have HS := Lib.hid (bare_step l k hlt)
      obtain ⟨b, o, rfl, hc⟩ := h3 (by omega)
      have hck := hc 0 (by omega)
      rw [getD_drop, Nat.add_zero, Nat.add_zero] at hck
      unfold bv at hck
      have hpos : 0 < (l.drop k).length := by omega
      have HLen := Lib.hid hlen
      have HDr := Lib.hid (show l.drop (k + 1) = (l.drop k).drop 1 by rw [List.drop_drop, Nat.add_comm])
      clear hc h3 hlen
      generalize l.getD k 0 = x at *
      by_cases hx0 : x = 0
      · subst hx0
        by_cases hc1 : c = 1
        · have HD := Lib.hid (HU.out.drop 1 (by omega))
          rw [if_pos hc1] at HD
          subst hc1
          go_wp2
          go_round
          case rel => exact ⟨k + 1, by omega, by show Bs _ _ _; rw [HDr.out]; simpa using HD.out, by show _ = _; rw [HF.out, HS.out]; rfl⟩
          case measure => simp [lenV]; omega
        · have HD := Lib.hid (HU.out.dropLt 1 (by omega) (by omega))
          go_wp2
          go_round
          case rel => exact ⟨k + 1, by omega, by show Bs _ _ _; rw [HDr.out]; simpa [Go.WideShapes.add_plain] using HD.out, by show _ = _; rw [HF.out, HS.out]; rfl⟩
          case measure => simp [lenV]; omega
      · have hn : ((x.toNat : Int) == 0) = false := by
          rw [beq_eq_false_iff_ne]
          intro h
          exact hx0 (UInt8.toNat_inj.1 (by simpa using h))
        have HBK := Lib.hid (show bare l = l.drop k by rw [HF.out, HS.out]; simp [hx0])
        go_wp2_with fail
        refine (both_any _ _ (l.drop k) [] _ (by rw [← HLen.out]; exact HU.out) (Bs.nil _) (by have := HLen.out; simp; omega)).mono ?_
        rintro e w2 ⟨v2, rfl, ho, he⟩
        rw [List.append_nil, ← HBK.out] at ho
        have HO := Lib.hid ho
        have HE := Lib.hid he
        clear ho he
        go_wp2_with fail
        go_ret
        exact ⟨_, rfl, HO.out, HE.out⟩
    · have hz : (l.drop k).length = 0 := by omega
      have HLen := Lib.hid hlen
      have HBK := Lib.hid (show bare l = l.drop k by rw [HF.out, List.eq_nil_of_length_eq_zero hz]; rfl)
      clear hlen
      go_wp2_with fail
      refine (both_any _ _ (l.drop k) [] _ (by have h := HU.out; rw [hz] at h; exact h) (Bs.nil _) (by have := HLen.out; simp; omega)).mono ?_
      rintro e w2 ⟨v2, rfl, ho, he⟩
      rw [List.append_nil, ← HBK.out] at ho
      have HO := Lib.hid ho
      have HE := Lib.hid he
      clear ho he
      go_wp2_with fail
      go_ret
      exact ⟨_, rfl, HO.out, HE.out⟩
end Go.Proofs.Ytllcmeihogcckaa
