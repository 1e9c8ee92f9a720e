/- Package gas: Spend; the document's Times, Create, Spend, in. -/
import Derived.Test.YtjefbfabigkeiaaDoorGso
import Derived.Test.YtjefbfabigkeiaaDoorCdd
import Derived.WalkMore
namespace Go.Proofs.YtjefbfabigkeiaaDoor
open Go.ChangeShapes Go.WideShapes Go.ChangeAt Go.RowKit

/-- The slice v reads as the numbers l. -/
def Gs (W : World) (v : Value) (l : List Nat) : Prop :=
  ∃ A c, v = .slice A l.length c ∧ l.length ≤ c ∧ c ≤ maxLen ∧ (0 < l.length → ∃ b o, A = some ⟨b, o, none⟩ ∧ ∀ i, i < l.length → W.cell? ⟨b, o + i, none⟩ = some (.int .u64 (l.getD i 0 : Nat)) ∧ l.getD i 0 < 18446744073709551616)
set_option maxRecDepth 100000 in
theorem Gs.ext {W W' : World} {v : Value} {l : List Nat} (h : Gs W v l) (he : Ext W W') : Gs W' v l := by
  obtain ⟨A, c, e, h1, h2, h3⟩ := h
  refine ⟨A, c, e, h1, h2, fun hp => ?_⟩
  obtain ⟨b, o, ea, hc⟩ := h3 hp
  exact ⟨b, o, ea, fun i hi => ⟨he.cell (hc i hi).1, (hc i hi).2⟩⟩
set_option maxRecDepth 100000 in
theorem spend_step (left k : Nat) (l : List Nat) (hk : k < l.length) : spendG left (l.take (k + 1)) = (spendG left (l.take k)).bind fun m => if m < l.getD k 0 then none else some (m - l.getD k 0) := by
  rw [List.take_succ_eq_append_getElem hk, spendG_append]
  congr 1
  funext m
  simp [spendG, List.getD, List.getElem?_eq_getElem hk]
set_option maxRecDepth 100000 in
theorem spend_none (left k : Nat) (l : List Nat) (h : spendG left (l.take k) = none) : spendG left l = none := by
  rw [← List.take_append_drop k l, spendG_append, h]
  rfl
set_option maxRecDepth 100000 in
theorem spendG_any (left : Nat) (v : Value) (l : List Nat) (w : World) (hv : Gs w v l) (hl : left < 18446744073709551616) : Calls Tryd.prog 36 #[.int .u64 (left : Nat), v] w fun e w' => e = .returned (.tuple #[.int .u64 (leftG left l : Nat), .bool (okG left l)]) ∧ w' = w := by
  obtain ⟨A, c, rfl, h1, h2, h3⟩ := hv
  have HC := Lib.hid h3
  have hlen : l.length ≤ 9223372036854775807 := by unfold maxLen at h2; omega
  clear h3 h1 h2
  go_enter Tryd.func36, Tryd.ntmps36
  go_wp2_with fail
  go_step3
  go_wp2_with fail
  go_step3
  go_wp2_with fail
  go_loopw [0, 6, 11] (fun xv ev iv wr => ∃ k m : Nat, k ≤ l.length ∧ iv = .int .i64 k ∧ xv = .int .u64 m ∧ m < 18446744073709551616 ∧ ev = .bool true ∧ Hid (spendG left (l.take k) = some m) ∧ wr = w) (fun _ _ iv _ => l.length - (intOf iv).toNat)
  case atStart => exact ⟨0, left, Nat.zero_le _, rfl, rfl, hl, rfl, Lib.hid (by simp [spendG]), rfl⟩
  case round =>
    obtain ⟨k, m, hk, rfl, rfl, hm, rfl, HS, rfl⟩ := hrel
    by_cases hlt : k < l.length
    · obtain ⟨b, o, rfl, hc⟩ := HC.out (by omega)
      obtain ⟨hck, hcb⟩ := hc k hlt
      have HN := Lib.hid (spend_step left k l hlt)
      rw [HS.out, Option.bind_some] at HN
      clear hc
      have hd : decide ((k : Int) < l.length) = true := decide_eq_true (by omega)
      generalize l.getD k 0 = x at *
      go_wp2
      · rw [Exit.noGoto_ret]; go_ret2
        refine ⟨?_, rfl⟩
        have hz : spendG left l = none := spend_none left (k + 1) l (by rw [HN.out, if_pos (by assumption)])
        unfold leftG okG
        rw [hz]
        rfl
      · exact ⟨⟨k + 1, m - x, by omega, rfl, by congr 1; omega, by omega, rfl, by rw [Hid, HN.out, if_neg (by assumption)], trivial⟩, by simp [intOf]; omega⟩
    · have hd : decide ((k : Int) < l.length) = false := decide_eq_false (by omega)
      go_wp2
      rw [Exit.noGoto_ret]; go_ret2
      refine ⟨?_, rfl⟩
      have hz : spendG left l = some m := by rw [← HS.out, List.take_of_length_le (by omega)]
      unfold leftG okG
      rw [hz]
      rfl
set_option maxRecDepth 100000 in
theorem refSpendG_any (left : Nat) (v : Value) (l : List Nat) (w : World) (hv : Gs w v l) (hl : left < 18446744073709551616) : Calls Tryd.prog 37 #[.int .u64 (left : Nat), v] w fun e w' => e = .returned (.tuple #[.int .u64 (leftG left l : Nat), .bool (okG left l)]) ∧ w' = w := by
  obtain ⟨A, c, rfl, h1, h2, h3⟩ := hv
  have HC := Lib.hid h3
  have hlen : l.length ≤ 9223372036854775807 := by unfold maxLen at h2; omega
  clear h3 h1 h2
  go_enter Tryd.func37, Tryd.ntmps37
  go_wp2_with fail
  go_loopw [0, 10] (fun xv iv wr => ∃ k m : Nat, k ≤ l.length ∧ iv = .int .i64 k ∧ xv = .int .u64 m ∧ m < 18446744073709551616 ∧ Hid (spendG left (l.take k) = some m) ∧ wr = w) (fun _ iv _ => l.length - (intOf iv).toNat)
  case atStart => exact ⟨0, left, Nat.zero_le _, rfl, rfl, hl, Lib.hid (by simp [spendG]), rfl⟩
  case round =>
    obtain ⟨k, m, hk, rfl, rfl, hm, HS, rfl⟩ := hrel
    by_cases hlt : k < l.length
    · obtain ⟨b, o, rfl, hc⟩ := HC.out (by omega)
      obtain ⟨hck, hcb⟩ := hc k hlt
      have HN := Lib.hid (spend_step left k l hlt)
      rw [HS.out, Option.bind_some] at HN
      clear hc
      have hd : decide ((k : Int) < l.length) = true := decide_eq_true (by omega)
      generalize l.getD k 0 = x at *
      go_wp2
      · go_ret2
        refine ⟨?_, rfl⟩
        have hz : spendG left l = none := spend_none left (k + 1) l (by rw [HN.out, if_pos (by assumption)])
        unfold leftG okG
        rw [hz]
        rfl
      · exact ⟨⟨k + 1, m - x, by omega, rfl, by congr 1; omega, by omega, by rw [Hid, HN.out, if_neg (by assumption)], trivial⟩, by simp [intOf]; omega⟩
    · have hd : decide ((k : Int) < l.length) = false := decide_eq_false (by omega)
      go_wp2
      go_ret2
      refine ⟨?_, rfl⟩
      have hz : spendG left l = some m := by rw [← HS.out, List.take_of_length_le (by omega)]
      unfold leftG okG
      rw [hz]
      rfl
set_option maxRecDepth 100000 in
theorem eachG_kind' (n c : Nat) (hn : n < noGas) (hc : c ≤ 1000) : IntKind.u64.wrap ((n : Int) * (c : Int)) = ((n * c : Nat) : Int) := by
  have h : n * c ≤ noGas * 1000 := Nat.mul_le_mul (Nat.le_of_lt hn) hc
  rw [← Int.natCast_mul]
  generalize n * c = k at h
  unfold noGas at h
  rw [IntKind.wrap_u64]
  omega
set_option maxRecDepth 100000 in
theorem timesG_any (n c : Nat) (w : World) (hn : n < 18446744073709551616) (hc1 : 1 ≤ c) (hc : c ≤ 1000) : Calls Tryd.prog 17 #[.int .u64 (n : Nat), .int .u64 (c : Nat)] w fun e w' => e = .returned (.int .u64 (eachG n c : Nat)) ∧ w' = w := by
  rcases Nat.lt_or_ge n noGas with hlt | hge
  · have HK := Lib.hid (eachG_kind' n c hlt hc)
    have HLE := Lib.hid (show n * c ≤ 1099511627776000 from Nat.mul_le_mul (Nat.le_of_lt hlt) hc)
    have HV := Lib.hid (show min (n * c) 1099511627776 = eachG n c by unfold eachG; rw [Nat.min_eq_left (Nat.le_of_lt hlt)]; rfl)
    have hd : decide ((1099511627776 : Int) ≤ n) = false := decide_eq_false (by unfold noGas at hlt; omega)
    clear hlt hn
    go_enter Tryd.func17, Tryd.ntmps17
    go_upto_region 3 with fail
    generalize hm : n * c = m at *
    have hk := HK.out
    have hle := HLE.out
    have hv := HV.out
    go_wp2
    go_ret
    exact ⟨ret_int (by rw [← hv]; omega), rfl⟩
  · unfold noGas at hge
    go_enter Tryd.func17, Tryd.ntmps17
    have hd : decide ((1099511627776 : Int) ≤ n) = true := decide_eq_true (by omega)
    go_wp2
    go_ret
    have h1 : 1 * 1099511627776 ≤ c * 1099511627776 := Nat.mul_le_mul_right _ hc1
    exact ⟨ret_int (by unfold eachG noGas; rw [Nat.min_eq_right hge, Nat.mul_comm]; omega), rfl⟩
set_option maxRecDepth 100000 in
theorem refCreateG_any (n : Nat) (w : World) (hn : n < 18446744073709551616) : Calls Tryd.prog 20 #[.int .u64 (n : Nat)] w fun e w' => e = .returned (.int .u64 (createG n : Nat)) ∧ w' = w := by
  have hwd := wordsG_lt hn
  have hle : eachG (wordsG n) 6 ≤ 1099511627776 := eachG_le _ _
  go_enter Tryd.func20, Tryd.ntmps20
  go_wp2_with fail
  refine (refWordsG_any n w hn).mono ?_
  rintro e w ⟨rfl, rfl⟩
  go_wp2_with fail
  refine (timesG_any (wordsG n) 6 w hwd (by decide) (by decide)).mono ?_
  rintro e w ⟨rfl, rfl⟩
  go_wp2
  go_ret
  exact ⟨ret_int (by unfold createG hashG noGas; omega), rfl⟩
set_option maxRecDepth 100000 in
theorem inG_any (c : Nat) (v : Value) (l : List UInt8) (w : World) (hv : Bs w v l) (_hc : c < 256) : Calls Tryd.prog 44 #[.int .u8 (c : Nat), v] w fun e w' => e = .returned (.bool (l.any fun x => x.toNat == c)) ∧ w' = w := by
  obtain ⟨A, cp, rfl, h1, h2, h3⟩ := hv
  have HC := Lib.hid h3
  have hlen : l.length ≤ 9223372036854775807 := by unfold maxLen at h2; omega
  clear h3 h1 h2
  go_enter Tryd.func44, Tryd.ntmps44
  go_wp2_with fail
  go_loopw [9] (fun iv wr => ∃ k : Nat, k ≤ l.length ∧ iv = .int .i64 k ∧ Hid (((l.take k).any fun x => x.toNat == c) = false) ∧ wr = w) (fun iv _ => l.length - (intOf iv).toNat)
  case atStart => exact ⟨0, Nat.zero_le _, rfl, Lib.hid (by simp), rfl⟩
  case round =>
    obtain ⟨k, hk, rfl, HS, rfl⟩ := hrel
    by_cases hlt : k < l.length
    · obtain ⟨b, o, rfl, hcl⟩ := HC.out (by omega)
      have hck := hcl k hlt
      have HN := Lib.hid (show ((l.take (k + 1)).any fun x => x.toNat == c) = ((l.getD k 0).toNat == c) by
        rw [List.take_succ_eq_append_getElem hlt, List.any_append, HS.out]
        simp [List.getD, List.getElem?_eq_getElem hlt])
      have HM := Lib.hid (show ((l.take (k + 1)).any fun x => x.toNat == c) = true → (l.any fun x => x.toNat == c) = true from fun h => by
        rw [← List.take_append_drop (k + 1) l, List.any_append, h]
        rfl)
      clear hcl
      have hd : decide ((k : Int) < l.length) = true := decide_eq_true (by omega)
      generalize l.getD k 0 = x at *
      unfold bv at hck
      go_wp2
      · go_ret
        have he : (x.toNat == c) = true := by
          have h : ((x.toNat : Int) == (c : Int)) = true := by assumption
          simp at h ⊢
          omega
        refine ⟨?_, rfl⟩
        rw [HM.out (by rw [HN.out, he])]
        rfl
      · have he : (x.toNat == c) = false := by
          have h : ((x.toNat : Int) == (c : Int)) = false := by assumption
          simp at h ⊢
          omega
        exact ⟨⟨k + 1, by omega, rfl, by rw [Hid, HN.out, he], trivial⟩, by simp [intOf]; omega⟩
    · have hd : decide ((k : Int) < l.length) = false := decide_eq_false (by omega)
      go_wp2
      go_ret
      rw [List.take_of_length_le (by omega)] at HS
      refine ⟨?_, rfl⟩
      rw [HS.out]
      rfl
end Go.Proofs.YtjefbfabigkeiaaDoor
