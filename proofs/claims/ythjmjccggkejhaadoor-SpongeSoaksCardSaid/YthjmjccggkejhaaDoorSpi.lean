/- Contracts of Less, digit; of the program and of the document. -/
import Derived.Test.YthjmjccggkejhaaDoorSph
namespace Go.Proofs.YthjmjccggkejhaaDoor
open Go.RowKit Go.Shelf

/-- Which of two digests stands ahead, from place k on. -/
def lsR (f g : Nat → Nat) : Nat → Nat → Bool
  | 0, _ => false
  | n + 1, k => if f k ≠ g k then decide (f k < g k) else lsR f g n (k + 1)
set_option maxRecDepth 100000 in
theorem lsR_step (f g : Nat → Nat) (k : Nat) (h : k < 32) : lsR f g (32 - k) k = if f k ≠ g k then decide (f k < g k) else lsR f g (32 - (k + 1)) (k + 1) := by
  obtain ⟨m, hm⟩ : ∃ m, 32 - k = m + 1 := ⟨31 - k, by omega⟩
  rw [hm, show 32 - (k + 1) = m by omega]
  rfl

/-- A digit's number; 16: it is none. -/
def dgN (c : Nat) : Nat := if 48 ≤ c ∧ c ≤ 57 then c - 48 else if 97 ≤ c ∧ c ≤ 102 then c - 87 else 16
set_option maxRecDepth 100000 in
theorem dgN_le (c : Nat) : dgN c ≤ 16 := by unfold dgN; split <;> (try split) <;> omega
/-- What digit answers. -/
def digV (n : Nat) : Value := if n < 16 then .tuple #[.int .u8 (n : Int), .bool true] else .tuple #[.int .u8 0, .bool false]
/-- What Digit of the document answers. -/
def rdigV (n : Nat) : Value := if n < 16 then .int .i64 (n : Int) else .int .i64 (-1)

set_option maxRecDepth 100000 in
theorem digit_any (c : Nat) (w : World) (hc : c < 256) :
    Calls Tryd.prog 53 #[.int .u8 (c : Nat)] w fun e w' => e = .returned (digV (dgN c)) ∧ Ext w w' := by
  by_cases h1 : 48 ≤ c ∧ c ≤ 57
  · obtain ⟨p, q⟩ := h1
    have b1 : decide ((48 : Int) ≤ (c : Int)) = true := by simp; omega
    have b2 : decide ((c : Int) ≤ 57) = true := by simp; omega
    have hv : digV (dgN c) = .tuple #[.int .u8 ((c : Int) - 48), .bool true] := by
      rw [show dgN c = c - 48 by unfold dgN; rw [if_pos ⟨p, q⟩]]
      unfold digV
      rw [if_pos (by omega), show ((c - 48 : Nat) : Int) = (c : Int) - 48 by omega]
    have HV := Lib.hid hv
    clear hv
    go_enter Tryd.func53, Tryd.ntmps53
    go_wp2_with fail
    go_ret2
    exact ⟨by rw [HV.out]; rfl, Ext.refl _⟩
  · by_cases h2 : 97 ≤ c ∧ c ≤ 102
    · obtain ⟨p, q⟩ := h2
      have b1 : decide ((48 : Int) ≤ (c : Int)) = true := by simp; omega
      have b2 : decide ((c : Int) ≤ 57) = false := by simp; omega
      have b3 : decide ((97 : Int) ≤ (c : Int)) = true := by simp; omega
      have b4 : decide ((c : Int) ≤ 102) = true := by simp; omega
      have hv : digV (dgN c) = .tuple #[.int .u8 ((c : Int) - 97 + 10), .bool true] := by
        rw [show dgN c = c - 87 by unfold dgN; rw [if_neg h1, if_pos ⟨p, q⟩]]
        unfold digV
        rw [if_pos (by omega), show ((c - 87 : Nat) : Int) = (c : Int) - 97 + 10 by omega]
      have HV := Lib.hid hv
      clear hv h1
      go_enter Tryd.func53, Tryd.ntmps53
      go_wp2_with fail
      go_ret2
      exact ⟨by rw [HV.out]; rfl, Ext.refl _⟩
    · have hv : digV (dgN c) = .tuple #[.int .u8 0, .bool false] := by
        rw [show dgN c = 16 by unfold dgN; rw [if_neg h1, if_neg h2]]
        rfl
      have HV := Lib.hid hv
      have hk : (decide ((48 : Int) ≤ (c : Int)) = true ∧ decide ((c : Int) ≤ 57) = false ∨ decide ((48 : Int) ≤ (c : Int)) = false) ∧ (decide ((97 : Int) ≤ (c : Int)) = true ∧ decide ((c : Int) ≤ 102) = false ∨ decide ((97 : Int) ≤ (c : Int)) = false) := by
        simp only [decide_eq_true_eq, decide_eq_false_iff_not]
        omega
      clear hv h1 h2
      rcases hk with ⟨⟨b1, b2⟩ | b1, ⟨b3, b4⟩ | b3⟩
      all_goals
        go_enter Tryd.func53, Tryd.ntmps53
        go_wp2_with fail
        go_ret2
        exact ⟨by rw [HV.out]; rfl, Ext.refl _⟩

set_option maxRecDepth 100000 in
theorem refDigit_any (c : Nat) (w : World) (hc : c < 256) :
    Calls Tryd.prog 54 #[.int .u8 (c : Nat)] w fun e w' => e = .returned (rdigV (dgN c)) ∧ w = w' := by
  by_cases h1 : 48 ≤ c ∧ c ≤ 57
  · obtain ⟨p, q⟩ := h1
    have b1 : decide ((48 : Int) ≤ (c : Int)) = true := by simp; omega
    have b2 : decide ((c : Int) ≤ 57) = true := by simp; omega
    have hv : rdigV (dgN c) = .int .i64 ((c : Int) - 48) := by
      rw [show dgN c = c - 48 by unfold dgN; rw [if_pos ⟨p, q⟩]]
      unfold rdigV
      rw [if_pos (by omega), show ((c - 48 : Nat) : Int) = (c : Int) - 48 by omega]
    have HV := Lib.hid hv
    clear hv
    go_enter Tryd.func54, Tryd.ntmps54
    go_wp2_with fail
    go_ret
    exact ⟨by rw [HV.out]; rfl, rfl⟩
  · by_cases h2 : 97 ≤ c ∧ c ≤ 102
    · obtain ⟨p, q⟩ := h2
      have b1 : decide ((48 : Int) ≤ (c : Int)) = true := by simp; omega
      have b2 : decide ((c : Int) ≤ 57) = false := by simp; omega
      have b3 : decide ((97 : Int) ≤ (c : Int)) = true := by simp; omega
      have b4 : decide ((c : Int) ≤ 102) = true := by simp; omega
      have hv : rdigV (dgN c) = .int .i64 ((c : Int) - 97 + 10) := by
        rw [show dgN c = c - 87 by unfold dgN; rw [if_neg h1, if_pos ⟨p, q⟩]]
        unfold rdigV
        rw [if_pos (by omega), show ((c - 87 : Nat) : Int) = (c : Int) - 97 + 10 by omega]
      have HV := Lib.hid hv
      clear hv h1
      go_enter Tryd.func54, Tryd.ntmps54
      go_wp2_with fail
      go_ret
      exact ⟨by rw [HV.out]; rfl, rfl⟩
    · have hv : rdigV (dgN c) = .int .i64 (-1) := by
        rw [show dgN c = 16 by unfold dgN; rw [if_neg h1, if_neg h2]]
        rfl
      have HV := Lib.hid hv
      have hk : (decide ((48 : Int) ≤ (c : Int)) = true ∧ decide ((c : Int) ≤ 57) = false ∨ decide ((48 : Int) ≤ (c : Int)) = false) ∧ (decide ((97 : Int) ≤ (c : Int)) = true ∧ decide ((c : Int) ≤ 102) = false ∨ decide ((97 : Int) ≤ (c : Int)) = false) := by
        simp only [decide_eq_true_eq, decide_eq_false_iff_not]
        omega
      clear hv h1 h2
      rcases hk with ⟨⟨b1, b2⟩ | b1, ⟨b3, b4⟩ | b3⟩
      all_goals
        go_enter Tryd.func54, Tryd.ntmps54
        go_wp2_with fail
        go_ret
        exact ⟨by rw [HV.out]; rfl, rfl⟩

set_option maxRecDepth 100000 in
set_option maxHeartbeats 2000000 in
theorem less_any (f g : Nat → Nat) (w : World) :
    Calls Tryd.prog 28 #[idv f, idv g] w fun e w' => e = .returned (.bool (lsR f g 32 0)) ∧ Ext w w' := by
  have HA : Hid (Ib ((w.alloc (.cells (ic f) 27)).alloc (.cells (ic g) 27)) w.heap.size f) := (Cs.new _ _ _ _ rfl).alloc _
  have HB : Hid (Ib ((w.alloc (.cells (ic f) 27)).alloc (.cells (ic g) 27)) (w.heap.size + 1) g) := Cs.new _ _ _ _ (by simp)
  have HE : Hid (Ext w ((w.alloc (.cells (ic f) 27)).alloc (.cells (ic g) 27))) := ((Ext.refl w).alloc _).alloc _
  unfold idv
  go_enter Tryd.func28, Tryd.ntmps28
  go_wp2_with fail
  go_loopw [5, 6, 7, 8, 9, 10, 11, 12, 13, 14, 15, 23] (fun _ i _ _ _ _ _ _ _ _ _ _ wr => ∃ k : Nat, k ≤ 32 ∧ i = .int .i64 k ∧ Hid (lsR f g 32 0 = lsR f g (32 - k) k) ∧ Hid (Ib wr w.heap.size f) ∧ Hid (Ib wr (w.heap.size + 1) g) ∧ Hid (Ext w wr)) (fun _ i _ _ _ _ _ _ _ _ _ _ _ => 32 - (intOf i).toNat)
  case atStart => exact ⟨0, by omega, rfl, rfl, HA, HB, HE⟩
  case round =>
    clear HA HB HE
    obtain ⟨k, hk, rfl, HL, HA, HB, HE⟩ := hrel
    by_cases hlt : k < 32
    · have hca := HA.out.cell k hlt
      have hcb := HB.out.cell k hlt
      have a1 : (0 : Int) ≤ (k : Int) := by omega
      have a2 : (k : Int) < 32 := by omega
      have HS := Lib.hid (lsR_step f g k hlt)
      by_cases heq : f k = g k
      · have hd : ((f k : Int) != (g k : Int)) = false := by simp [heq]
        rw [if_neg (by simpa using heq)] at HS
        generalize f k = x at *
        generalize g k = y at *
        go_wp2_with fail
        go_region
        have A2 := Lib.hid (Cs.kept (row := none) HA.out (grown_drew (World.grownBy.refl _ _)) (by simp))
        have B2 := Lib.hid (Cs.kept (row := none) HB.out (grown_drew (World.grownBy.refl _ _)) (by simp))
        have E2 := Lib.hid (HE.out.trans (ext_of_grown (grown_drew (World.grownBy.refl wr none))))
        go_wp2_with fail
        refine ⟨⟨k + 1, by omega, by go_num, Lib.hid (HL.out.trans HS.out), A2, B2, E2⟩, by simp [intOf]; omega⟩
      · have hd : ((f k : Int) != (g k : Int)) = true := by simp; omega
        rw [if_pos heq] at HS
        have HD : Hid (decide (f k < g k) = lsR f g 32 0) := (HL.out.trans HS.out).symm
        generalize f k = x at *
        generalize g k = y at *
        go_wp2_with fail
        go_region
        have E2 := Lib.hid (HE.out.trans (ext_of_grown (grown_drew (World.grownBy.refl wr none))))
        go_wp2_with fail
        go_region
        go_wp2_with fail
        rw [HD.out]
        go_ret
        exact ⟨rfl, E2.out.trans (ext_of_grown (grown_drew (World.grownBy.refl _ none)))⟩
    · obtain rfl : k = 32 := by omega
      have HV : Hid (lsR f g 32 0 = false) := HL
      go_wp2_with fail
      go_ret
      exact ⟨by rw [HV.out]; rfl, HE.out⟩

set_option maxRecDepth 100000 in
set_option maxHeartbeats 2000000 in
theorem refLess_any (f g : Nat → Nat) (w : World) :
    Calls Tryd.prog 29 #[idv f, idv g] w fun e w' => e = .returned (.bool (lsR f g 32 0)) ∧ Ext w w' := by
  have HA : Hid (Ib ((w.alloc (.cells (ic f) 27)).alloc (.cells (ic g) 27)) w.heap.size f) := (Cs.new _ _ _ _ rfl).alloc _
  have HB : Hid (Ib ((w.alloc (.cells (ic f) 27)).alloc (.cells (ic g) 27)) (w.heap.size + 1) g) := Cs.new _ _ _ _ (by simp)
  have HE : Hid (Ext w ((w.alloc (.cells (ic f) 27)).alloc (.cells (ic g) 27))) := ((Ext.refl w).alloc _).alloc _
  unfold idv
  go_enter Tryd.func29, Tryd.ntmps29
  go_wp2_with fail
  go_loopw [5, 6, 7, 8, 9, 10, 11, 12, 13, 14, 15, 23] (fun _ i _ _ _ _ _ _ _ _ _ _ wr => ∃ k : Nat, k ≤ 32 ∧ i = .int .i64 k ∧ Hid (lsR f g 32 0 = lsR f g (32 - k) k) ∧ Hid (Ib wr w.heap.size f) ∧ Hid (Ib wr (w.heap.size + 1) g) ∧ Hid (Ext w wr)) (fun _ i _ _ _ _ _ _ _ _ _ _ _ => 32 - (intOf i).toNat)
  case atStart => exact ⟨0, by omega, rfl, rfl, HA, HB, HE⟩
  case round =>
    clear HA HB HE
    obtain ⟨k, hk, rfl, HL, HA, HB, HE⟩ := hrel
    by_cases hlt : k < 32
    · have hca := HA.out.cell k hlt
      have hcb := HB.out.cell k hlt
      have a1 : (0 : Int) ≤ (k : Int) := by omega
      have a2 : (k : Int) < 32 := by omega
      have HS := Lib.hid (lsR_step f g k hlt)
      by_cases heq : f k = g k
      · have hd : ((f k : Int) != (g k : Int)) = false := by simp [heq]
        rw [if_neg (by simpa using heq)] at HS
        generalize f k = x at *
        generalize g k = y at *
        go_wp2_with fail
        go_region
        have A2 := Lib.hid (Cs.kept (row := none) HA.out (grown_drew (World.grownBy.refl _ _)) (by simp))
        have B2 := Lib.hid (Cs.kept (row := none) HB.out (grown_drew (World.grownBy.refl _ _)) (by simp))
        have E2 := Lib.hid (HE.out.trans (ext_of_grown (grown_drew (World.grownBy.refl wr none))))
        go_wp2_with fail
        refine ⟨⟨k + 1, by omega, by go_num, Lib.hid (HL.out.trans HS.out), A2, B2, E2⟩, by simp [intOf]; omega⟩
      · have hd : ((f k : Int) != (g k : Int)) = true := by simp; omega
        rw [if_pos heq] at HS
        have HD : Hid (decide (f k < g k) = lsR f g 32 0) := (HL.out.trans HS.out).symm
        generalize f k = x at *
        generalize g k = y at *
        go_wp2_with fail
        go_region
        have E2 := Lib.hid (HE.out.trans (ext_of_grown (grown_drew (World.grownBy.refl wr none))))
        go_wp2_with fail
        go_region
        go_wp2_with fail
        rw [HD.out]
        go_ret
        exact ⟨rfl, E2.out.trans (ext_of_grown (grown_drew (World.grownBy.refl _ none)))⟩
    · obtain rfl : k = 32 := by omega
      have HV : Hid (lsR f g 32 0 = false) := HL
      go_wp2_with fail
      go_ret
      exact ⟨by rw [HV.out]; rfl, HE.out⟩

end Go.Proofs.YthjmjccggkejhaaDoor
