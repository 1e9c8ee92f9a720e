/- Digests, and lanes, held against one another. -/
import Derived.Test.YthjmjccggkejhaaDoorSpl
import Derived.ChangeKeysEq
import Derived.Laws.StructEq
namespace Go.Proofs.YthjmjccggkejhaaDoor
open Go.RowKit Go.Shelf

/-- Do the first places hold the same? -/
def same32 (f g : Nat → Nat) : Bool := (List.range 32).all fun i => f i == g i
def same25 (f g : Nat → Nat) : Bool := (List.range 25).all fun i => f i == g i
set_option maxRecDepth 100000 in
theorem same32_iff (f g : Nat → Nat) : same32 f g = true ↔ ∀ i, i < 32 → f i = g i := by simp [same32]
set_option maxRecDepth 100000 in
theorem same25_iff (f g : Nat → Nat) : same25 f g = true ↔ ∀ i, i < 25 → f i = g i := by simp [same25]

set_option maxRecDepth 100000 in
theorem id_info : ∃ i, Tryd.prog.info? 5 = some i := ⟨_, rfl⟩
set_option maxRecDepth 100000 in
theorem id_cells : Tryd.prog.cellsOf 5 = 1 := by kernel_rfl
set_option maxRecDepth 100000 in
theorem id_plain : Tryd.prog.plainKey 5 = true := by kernel_rfl
set_option maxRecDepth 100000 in
theorem run_part_id (f : Nat → Nat) (i : Nat) (hi : i < 32) (w : World) : (part 5 (ic f) (i * 1)).run Tryd.prog w = .ok (bn (f i)) w := by
  rw [Nat.mul_one]
  exact run_part_plain w id_plain (ic_get f i hi)
set_option maxRecDepth 100000 in
theorem run_eqItems_id (f g : Nat → Nat) (w : World) : ∀ is : List Nat, (∀ i ∈ is, i < 32) → (Op.eqItems 9999 5 1 (ic f) (ic g) is).run Tryd.prog w = .ok (is.all fun i => f i == g i) w
  | [], _ => by simp [Op.eqItems]
  | i :: is, h => by
    have ih := run_eqItems_id f g w is (fun j hj => h j (List.mem_cons_of_mem _ hj))
    simp only [Op.eqItems, Sem.run_bind, run_part_id f i (h i List.mem_cons_self), run_part_id g i (h i List.mem_cons_self), Result.andThen_ok, bn, run_equalIn_int w 9998 _ _ _ _ _ Tryd.underlying5]
    by_cases hb : f i = g i
    · have : ((f i : Int) == (g i : Int)) = true := by simp [hb]
      rw [this]
      simp [ih, hb]
    · have : ((f i : Int) == (g i : Int)) = false := by simp; omega
      rw [this]
      simp [hb]
set_option maxRecDepth 100000 in
theorem run_eql_id (f g : Nat → Nat) (w : World) : (binOp .eql 27 (idv f) (idv g)).run Tryd.prog w = .ok (.bool (same32 f g)) w := by
  obtain ⟨i, hi⟩ := id_info
  have h := run_equalIn_array w 9999 (ic f) (ic g) Tryd.underlying27 hi
  rw [id_cells, run_eqItems_id f g w (List.range 32) (fun i hi => List.mem_range.1 hi)] at h
  unfold idv same32
  simp only [binOp]
  simp [Op.equal, Op.maxDepth, h]
set_option maxRecDepth 100000 in
theorem run_neq_id (f g : Nat → Nat) (w : World) : (binOp .neq 27 (idv f) (idv g)).run Tryd.prog w = .ok (.bool (!same32 f g)) w := by
  obtain ⟨i, hi⟩ := id_info
  have h := run_equalIn_array w 9999 (ic f) (ic g) Tryd.underlying27 hi
  rw [id_cells, run_eqItems_id f g w (List.range 32) (fun i hi => List.mem_range.1 hi)] at h
  unfold idv same32
  simp only [binOp]
  simp [Op.equal, Op.maxDepth, h]
set_option maxRecDepth 100000 in
theorem id_guard : Tryd.prog.eqGuardType Tryd.prog.depth 27 = false := by kernel_rfl
set_option maxRecDepth 100000 in
theorem run_guard_eql_id (x y : Operand) (f g : Nat → Nat) (w : World) : (eqGuard .eql 27 x y (idv f) (idv g)).run Tryd.prog w = .ok () w := by
  unfold eqGuard idv
  simp
set_option maxRecDepth 100000 in
theorem run_guard_neq_id (x y : Operand) (f g : Nat → Nat) (w : World) : (eqGuard .neq 27 x y (idv f) (idv g)).run Tryd.prog w = .ok () w := by
  unfold eqGuard idv
  simp

set_option maxRecDepth 100000 in
theorem lanes_info : ∃ i, Tryd.prog.info? 33 = some i := ⟨_, rfl⟩
set_option maxRecDepth 100000 in
theorem lanes_cells : Tryd.prog.cellsOf 33 = 1 := by kernel_rfl
set_option maxRecDepth 100000 in
theorem lanes_plain : Tryd.prog.plainKey 33 = true := by kernel_rfl
set_option maxRecDepth 100000 in
theorem run_part_lanes (f : Nat → Nat) (i : Nat) (hi : i < 25) (w : World) : (part 33 (lc f) (i * 1)).run Tryd.prog w = .ok (lv (f i)) w := by
  rw [Nat.mul_one]
  exact run_part_plain w lanes_plain (lc_get f i hi)
set_option maxRecDepth 100000 in
theorem run_eqItems_lanes (f g : Nat → Nat) (w : World) : ∀ is : List Nat, (∀ i ∈ is, i < 25) → (Op.eqItems 9999 33 1 (lc f) (lc g) is).run Tryd.prog w = .ok (is.all fun i => f i == g i) w
  | [], _ => by simp [Op.eqItems]
  | i :: is, h => by
    have ih := run_eqItems_lanes f g w is (fun j hj => h j (List.mem_cons_of_mem _ hj))
    simp only [Op.eqItems, Sem.run_bind, run_part_lanes f i (h i List.mem_cons_self), run_part_lanes g i (h i List.mem_cons_self), Result.andThen_ok, lv, run_equalIn_int w 9998 _ _ _ _ _ Tryd.underlying33]
    by_cases hb : f i = g i
    · have : ((f i : Int) == (g i : Int)) = true := by simp [hb]
      rw [this]
      simp [ih, hb]
    · have : ((f i : Int) == (g i : Int)) = false := by simp; omega
      rw [this]
      simp [hb]
set_option maxRecDepth 100000 in
theorem run_eql_lanes (f g : Nat → Nat) (w : World) : (binOp .eql 35 (lnv f) (lnv g)).run Tryd.prog w = .ok (.bool (same25 f g)) w := by
  obtain ⟨i, hi⟩ := lanes_info
  have h := run_equalIn_array w 9999 (lc f) (lc g) Tryd.underlying35 hi
  rw [lanes_cells, run_eqItems_lanes f g w (List.range 25) (fun i hi => List.mem_range.1 hi)] at h
  unfold lnv same25
  simp only [binOp]
  simp [Op.equal, Op.maxDepth, h]
set_option maxRecDepth 100000 in
theorem run_neq_lanes (f g : Nat → Nat) (w : World) : (binOp .neq 35 (lnv f) (lnv g)).run Tryd.prog w = .ok (.bool (!same25 f g)) w := by
  obtain ⟨i, hi⟩ := lanes_info
  have h := run_equalIn_array w 9999 (lc f) (lc g) Tryd.underlying35 hi
  rw [lanes_cells, run_eqItems_lanes f g w (List.range 25) (fun i hi => List.mem_range.1 hi)] at h
  unfold lnv same25
  simp only [binOp]
  simp [Op.equal, Op.maxDepth, h]
set_option maxRecDepth 100000 in
theorem lanes_guard : Tryd.prog.eqGuardType Tryd.prog.depth 35 = false := by kernel_rfl
set_option maxRecDepth 100000 in
theorem run_guard_eql_lanes (x y : Operand) (f g : Nat → Nat) (w : World) : (eqGuard .eql 35 x y (lnv f) (lnv g)).run Tryd.prog w = .ok () w := by
  unfold eqGuard lnv
  simp
set_option maxRecDepth 100000 in
theorem run_guard_neq_lanes (x y : Operand) (f g : Nat → Nat) (w : World) : (eqGuard .neq 35 x y (lnv f) (lnv g)).run Tryd.prog w = .ok () w := by
  unfold eqGuard lnv
  simp

end Go.Proofs.YthjmjccggkejhaaDoor
