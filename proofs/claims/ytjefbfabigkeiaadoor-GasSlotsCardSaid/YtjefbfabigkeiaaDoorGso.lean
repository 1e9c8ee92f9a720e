/- Package gas: Words, Part, held, upTo, each, Hash, Copy, Lay, Create, Memory, Load, Far, and the document's of these. -/
import Derived.Test.YtjefbfabigkeiaaDoorGsm
namespace Go.Proofs.YtjefbfabigkeiaaDoor
open Go.ChangeShapes Go.WideShapes Go.ChangeAt Go.RowKit

set_option maxRecDepth 100000 in
theorem heldG_kind : ∀ n : Nat, n < 33 → IntKind.u64.wrap (3 * (n : Int) + IntKind.u64.wrap ((IntKind.u64.wrap ((n : Int) * n)).tdiv 512)) = (heldG n : Nat) := by decide +kernel
set_option maxRecDepth 100000 in
theorem wordsG_any (n : Nat) (w : World) (hn : n < 18446744073709551616) :
    Calls Tryd.prog 14 #[.int .u64 (n : Nat)] w fun e w' => e = .returned (.int .u64 (wordsG n : Nat)) ∧ w' = w := by
  go_enter Tryd.func14, Tryd.ntmps14
  go_wp2
  all_goals
    go_ret
    exact ⟨ret_int (by unfold wordsG; split <;> omega), rfl⟩
set_option maxRecDepth 100000 in
theorem refWordsG_any (n : Nat) (w : World) (hn : n < 18446744073709551616) :
    Calls Tryd.prog 15 #[.int .u64 (n : Nat)] w fun e w' => e = .returned (.int .u64 (wordsG n : Nat)) ∧ w' = w := by
  go_enter Tryd.func15, Tryd.ntmps15
  go_wp2
  all_goals
    go_ret
    exact ⟨ret_int (by unfold wordsG; split <;> omega), rfl⟩
set_option maxRecDepth 100000 in
theorem partG_any (n : Nat) (w : World) (hn : n < 18446744073709551616) :
    Calls Tryd.prog 22 #[.int .u64 (n : Nat)] w fun e w' => e = .returned (.int .u64 (partG n : Nat)) ∧ w' = w := by
  go_enter Tryd.func22, Tryd.ntmps22
  go_wp2
  all_goals
    go_ret
    exact ⟨ret_int (by unfold partG; omega), rfl⟩
set_option maxRecDepth 100000 in
theorem refPartG_any (n : Nat) (w : World) (hn : n < 18446744073709551616) :
    Calls Tryd.prog 23 #[.int .u64 (n : Nat)] w fun e w' => e = .returned (.int .u64 (partG n : Nat)) ∧ w' = w := by
  go_enter Tryd.func23, Tryd.ntmps23
  go_wp2
  all_goals
    go_ret
    exact ⟨ret_int (by unfold partG; omega), rfl⟩
set_option maxRecDepth 100000 in
theorem heldG_any (n : Nat) (w : World) (hn : n ≤ 32) :
    Calls Tryd.prog 47 #[.int .u64 (n : Nat)] w fun e w' => e = .returned (.int .u64 (heldG n : Nat)) ∧ w' = w := by
  go_enter Tryd.func47, Tryd.ntmps47
  go_wp2
  all_goals
    go_ret
    exact ⟨ret_int (by exact heldG_kind n (by omega)), rfl⟩
set_option maxRecDepth 100000 in
theorem refHeldG_any (n : Nat) (w : World) (hn : n ≤ 32) :
    Calls Tryd.prog 48 #[.int .u64 (n : Nat)] w fun e w' => e = .returned (.int .u64 (heldG n : Nat)) ∧ w' = w := by
  go_enter Tryd.func48, Tryd.ntmps48
  go_wp2
  all_goals
    go_ret
    exact ⟨ret_int (by exact heldG_kind n (by omega)), rfl⟩
set_option maxRecDepth 100000 in
theorem cutG_any (n l g : Nat) (w : World) (_hn : n < 18446744073709551616) (_hl : l < 18446744073709551616) (hg : w.cell? ⟨g, 0, none⟩ = some (.int .u64 (l : Nat))) :
    Calls Tryd.prog 61 #[.int .u64 (n : Nat), .pointer (some ⟨g, 0, none⟩)] w fun e w' => e = .returned (.int .u64 (min n l : Nat)) ∧ w' = w := by
  go_enter Tryd.func61, Tryd.ntmps61
  go_wp2
  all_goals
    go_ret
    exact ⟨ret_int (by omega), rfl⟩
set_option maxRecDepth 100000 in
theorem loadG_any (c : Bool) (w : World)  :
    Calls Tryd.prog 32 #[.bool c] w fun e w' => e = .returned (.int .u64 (loadG c : Nat)) ∧ w' = w := by
  go_enter Tryd.func32, Tryd.ntmps32
  go_wp2
  all_goals
    go_ret
    exact ⟨ret_int (by simp [loadG, *]), rfl⟩
set_option maxRecDepth 100000 in
theorem farG_any (c : Bool) (w : World)  :
    Calls Tryd.prog 35 #[.bool c] w fun e w' => e = .returned (.int .u64 (farG c : Nat)) ∧ w' = w := by
  go_enter Tryd.func35, Tryd.ntmps35
  go_wp2
  all_goals
    go_ret
    exact ⟨ret_int (by simp [farG, *]), rfl⟩
/-- The function that cuts what is above what block g holds. -/
def cloG (g : Nat) : Value := .func (Fn.func 61) #[] #[.pointer (some ⟨g, 0, none⟩)]
set_option maxRecDepth 100000 in
theorem upG_any (w : World) : Calls Tryd.prog 46 #[.int .u64 1099511627776] w fun e w' => e = .returned (cloG w.heap.size) ∧ w'.cell? ⟨w.heap.size, 0, none⟩ = some (.int .u64 (noGas : Nat)) ∧ Ext w w' := by
  go_enter Tryd.func46, Tryd.ntmps46
  go_wp2
  go_ret
  exact ⟨rfl, by rw [World.cell?_alloc_new]; rfl, (Ext.refl w).alloc _⟩
set_option maxRecDepth 100000 in
theorem eachG_kind (n c : Nat) (hc : c ≤ 1000) : IntKind.u64.wrap ((min n noGas : Nat) * (c : Int)) = ((min n noGas * c : Nat) : Int) := by
  have h : min n noGas * c ≤ noGas * 1000 := Nat.mul_le_mul (Nat.min_le_right _ _) hc
  rw [← Int.natCast_mul]
  generalize min n noGas * c = k at h
  unfold noGas at h
  rw [IntKind.wrap_u64]; omega
set_option maxRecDepth 100000 in
theorem eachG_any (n c : Nat) (w : World) (hn : n < 18446744073709551616) (hc : c ≤ 1000) : Calls Tryd.prog 45 #[.int .u64 (n : Nat), .int .u64 (c : Nat)] w fun e w' => e = .returned (.int .u64 (eachG n c : Nat)) ∧ Ext w w' := by
  go_enter Tryd.func45, Tryd.ntmps45
  go_wp2_with fail
  refine (upG_any w).mono ?_
  rintro e w1 ⟨rfl, h1, HE⟩
  unfold cloG
  go_wp2_with fail
  refine (cutG_any n noGas _ w1 hn (by decide) h1).mono ?_
  rintro e w2 ⟨rfl, rfl⟩
  go_wp2_with fail
  rw [eachG_kind n c hc]
  have h2 : min n noGas * c < 18446744073709551616 := Nat.lt_of_le_of_lt (Nat.mul_le_mul (Nat.min_le_right _ _) hc) (by decide)
  refine (cutG_any (min n noGas * c) noGas _ w2 h2 (by decide) h1).mono ?_
  rintro e w3 ⟨rfl, rfl⟩
  go_wp2
  go_ret
  exact ⟨rfl, HE⟩
set_option maxRecDepth 100000 in
theorem hashG_any (n : Nat) (w : World) (hn : n < 18446744073709551616) : Calls Tryd.prog 16 #[.int .u64 (n : Nat)] w fun e w' => e = .returned (.int .u64 (hashG n : Nat)) ∧ Ext w w' := by
  have hwd := wordsG_lt hn
  go_enter Tryd.func16, Tryd.ntmps16
  go_wp2_with fail
  refine (wordsG_any n w hn).mono ?_
  rintro e w ⟨rfl, rfl⟩
  go_wp2_with fail
  refine (eachG_any (wordsG n) 6 w hwd (by decide)).mono ?_
  rintro e w1 ⟨rfl, HE⟩
  go_wp2
  go_ret
  exact ⟨rfl, HE⟩
set_option maxRecDepth 100000 in
theorem copyG_any (n : Nat) (w : World) (hn : n < 18446744073709551616) : Calls Tryd.prog 18 #[.int .u64 (n : Nat)] w fun e w' => e = .returned (.int .u64 (copyG n : Nat)) ∧ Ext w w' := by
  have hwd := wordsG_lt hn
  go_enter Tryd.func18, Tryd.ntmps18
  go_wp2_with fail
  refine (wordsG_any n w hn).mono ?_
  rintro e w ⟨rfl, rfl⟩
  go_wp2_with fail
  refine (eachG_any (wordsG n) 3 w hwd (by decide)).mono ?_
  rintro e w1 ⟨rfl, HE⟩
  go_wp2
  go_ret
  exact ⟨rfl, HE⟩
set_option maxRecDepth 100000 in
theorem layG_any (n : Nat) (w : World) (hn : n < 18446744073709551616) : Calls Tryd.prog 21 #[.int .u64 (n : Nat)] w fun e w' => e = .returned (.int .u64 (layG n : Nat)) ∧ Ext w w' := by
  have hwd := wordsG_lt hn
  go_enter Tryd.func21, Tryd.ntmps21
  go_wp2_with fail
  refine (eachG_any (n) 20 w hn (by decide)).mono ?_
  rintro e w1 ⟨rfl, HE⟩
  go_wp2
  go_ret
  exact ⟨rfl, HE⟩
set_option maxRecDepth 100000 in
theorem createG_any (n : Nat) (w : World) (hn : n < 18446744073709551616) : Calls Tryd.prog 19 #[.int .u64 (n : Nat)] w fun e w' => e = .returned (.int .u64 (createG n : Nat)) ∧ Ext w w' := by
  have hle : hashG n ≤ 1099511627776 := eachG_le _ _
  go_enter Tryd.func19, Tryd.ntmps19
  go_wp2_with fail
  refine (upG_any w).mono ?_
  rintro e w1 ⟨rfl, h1, HE⟩
  unfold cloG
  go_wp2_with fail
  refine (hashG_any n w1 hn).mono ?_
  rintro e w2 ⟨rfl, HE2⟩
  have h2 := HE2.cell h1
  go_wp2_with fail
  refine (cutG_any (3200 + hashG n) noGas _ w2 (by omega) (by decide) h2).mono ?_
  rintro e w3 ⟨rfl, rfl⟩
  go_wp2
  go_ret
  exact ⟨rfl, HE.trans HE2⟩
set_option maxRecDepth 100000 in
theorem memG_any (f t : Nat) (w : World) (hf : f < 18446744073709551616) (ht : t < 18446744073709551616) : Calls Tryd.prog 24 #[.int .u64 (f : Nat), .int .u64 (t : Nat)] w fun e w' => e = .returned (.int .u64 (memG f t : Nat)) ∧ w' = w := by
  go_enter Tryd.func24, Tryd.ntmps24
  go_wp2_with fail
  · go_ret
    exact ⟨ret_int (by unfold memG; rw [if_pos (by omega)]; rfl), rfl⟩
  · go_ret
    exact ⟨ret_int (by unfold memG; rw [if_neg (by omega), if_pos (by omega)]; rfl), rfl⟩
  · have h1 : t ≤ 1024 := by omega
    have h2 : f ≤ t := by omega
    have hw := wordsG_mono h2
    have hm := heldG_mono hw
    have hb := heldG_lt (wordsG_mem h1)
    refine (wordsG_any t w ht).mono ?_
    rintro e w ⟨rfl, rfl⟩
    go_wp2_with fail
    refine (heldG_any (wordsG t) w (wordsG_mem h1)).mono ?_
    rintro e w ⟨rfl, rfl⟩
    go_wp2_with fail
    refine (wordsG_any f w hf).mono ?_
    rintro e w ⟨rfl, rfl⟩
    go_wp2_with fail
    refine (heldG_any (wordsG f) w (wordsG_mem (by omega))).mono ?_
    rintro e w ⟨rfl, rfl⟩
    go_wp2
    go_ret
    exact ⟨ret_int (by unfold memG; rw [if_neg (by omega), if_neg (by omega)]; omega), rfl⟩
set_option maxRecDepth 100000 in
theorem refMemG_any (f t : Nat) (w : World) (hf : f < 18446744073709551616) (ht : t < 18446744073709551616) : Calls Tryd.prog 25 #[.int .u64 (f : Nat), .int .u64 (t : Nat)] w fun e w' => e = .returned (.int .u64 (memG f t : Nat)) ∧ w' = w := by
  go_enter Tryd.func25, Tryd.ntmps25
  go_wp2_with fail
  · go_ret
    exact ⟨ret_int (by unfold memG; rw [if_pos (by omega)]; rfl), rfl⟩
  · go_ret
    exact ⟨ret_int (by unfold memG; rw [if_neg (by omega), if_pos (by omega)]; rfl), rfl⟩
  · have h1 : t ≤ 1024 := by omega
    have h2 : f ≤ t := by omega
    have hw := wordsG_mono h2
    have hm := heldG_mono hw
    have hb := heldG_lt (wordsG_mem h1)
    refine (refWordsG_any t w ht).mono ?_
    rintro e w ⟨rfl, rfl⟩
    go_wp2_with fail
    refine (refHeldG_any (wordsG t) w (wordsG_mem h1)).mono ?_
    rintro e w ⟨rfl, rfl⟩
    go_wp2_with fail
    refine (refWordsG_any f w hf).mono ?_
    rintro e w ⟨rfl, rfl⟩
    go_wp2_with fail
    refine (refHeldG_any (wordsG f) w (wordsG_mem (by omega))).mono ?_
    rintro e w ⟨rfl, rfl⟩
    go_wp2
    go_ret
    exact ⟨ret_int (by unfold memG; rw [if_neg (by omega), if_neg (by omega)]; omega), rfl⟩
end Go.Proofs.YtjefbfabigkeiaaDoor
