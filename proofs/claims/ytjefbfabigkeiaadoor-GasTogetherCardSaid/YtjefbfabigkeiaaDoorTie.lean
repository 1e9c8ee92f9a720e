/-
  DERIVED. GIVEN WITH THE SEED: THE PROGRAM's TIES (one call each: nine closed facts by the kernel) AND EACH ROW's TIE, after the 31st guide's Derived/Test/Toyas{Tie, Card}.lean. No idea stands in it: it is a product of the set-up. Laid BY PROGRAM, IN A SANDBOX (cutbox-door.mjs). By AI agents, Wed Nov 11 2026. No macro, syntax, notation, axiom, sorry.
-/
import Derived.Test.YtjefbfabigkeiaaDoorRows
import Derived.LaidByTextLater
import Derived.SevenTiedAt
import Derived.LaidSub
import Derived.LaidOnce
namespace Go.Proofs.YtjefbfabigkeiaaDoor
open Go
set_option maxRecDepth 100000
theorem seatTie1 : Tryd.prog.laidByTextLater [("math/bits.deBruijn32tab", Rows.laid_math_bits_deBruijn32tab), ("math/bits.deBruijn64tab", Rows.laid_math_bits_deBruijn64tab), ("internal/strconv.uint64pow10", Rows.laid_internal_strconv_uint64pow10), ("sheafer/code.rows", Rows.laid_sheafer_code_rows), ("sheafer/code.families", Rows.laid_sheafer_code_families)] [.data, .data, .data, .wider, .data] true :=
  Program.laidByTextLater_by_one 87 8 201 (by kernel_rfl) (by kernel_rfl) (by kernel_rfl) (by kernel_rfl) (by kernel_rfl) (by kernel_rfl) (fun _ _ => by kernel_rfl)
theorem noOwnUnsafe : Tryd.pinned.checked.prog.headLifts.contains "ownunsafe" = false := by kernel_rfl
theorem tie : Tryd.prog.laidByTextLater [("math/bits.deBruijn32tab", Rows.laid_math_bits_deBruijn32tab), ("math/bits.deBruijn64tab", Rows.laid_math_bits_deBruijn64tab), ("internal/strconv.uint64pow10", Rows.laid_internal_strconv_uint64pow10), ("sheafer/code.rows", Rows.laid_sheafer_code_rows), ("sheafer/code.families", Rows.laid_sheafer_code_families)] [.data, .data, .data, .wider, .data] true :=
  Program.laidByTextLater.sub seatTie1 ["math/bits.deBruijn32tab", "math/bits.deBruijn64tab", "internal/strconv.uint64pow10", "sheafer/code.rows", "sheafer/code.families"] (by kernel_rfl) (by kernel_rfl)
theorem gasBases_row_tie : Rows.gasBasesRow.laidByTextAt .later Tryd.pinned [.data, .data, .data, .wider, .data] true :=
  OpenClaim.laidByTextAt_later rfl rfl tie noOwnUnsafe
theorem gasBytes_row_tie : Rows.gasBytesRow.laidByTextAt .later Tryd.pinned [.data, .data, .data, .wider, .data] true :=
  OpenClaim.laidByTextAt_later rfl rfl tie noOwnUnsafe
theorem gasSlots_row_tie : Rows.gasSlotsRow.laidByTextAt .later Tryd.pinned [.data, .data, .data, .wider, .data] true :=
  OpenClaim.laidByTextAt_later rfl rfl tie noOwnUnsafe
theorem gasSpends_row_tie : Rows.gasSpendsRow.laidByTextAt .later Tryd.pinned [.data, .data, .data, .wider, .data] true :=
  OpenClaim.laidByTextAt_later rfl rfl tie noOwnUnsafe
theorem gasGrows_row_tie : Rows.gasGrowsRow.laidByTextAt .later Tryd.pinned [.data, .data, .data, .wider, .data] true :=
  OpenClaim.laidByTextAt_later rfl rfl tie noOwnUnsafe
theorem gasLent_row_tie : Rows.gasLentRow.laidByTextAt .later Tryd.pinned [.data, .data, .data, .wider, .data] true :=
  OpenClaim.laidByTextAt_later rfl rfl tie noOwnUnsafe
theorem gasTogether_row_tie : Rows.gasTogetherRow.laidByTextAt .later Tryd.pinned [.data, .data, .data, .wider, .data] true :=
  OpenClaim.laidByTextAt_later rfl rfl tie noOwnUnsafe
theorem gasReaches_row_tie : Rows.gasReachesRow.laidByTextAt .later Tryd.pinned [.data, .data, .data, .wider, .data] true :=
  OpenClaim.laidByTextAt_later rfl rfl tie noOwnUnsafe
theorem gasBasesUpto_row_tie : Rows.gasBasesUptoRow.laidByTextAt .later Tryd.pinned [.data, .data, .data, .wider, .data] true :=
  OpenClaim.laidByTextAt_later rfl rfl tie noOwnUnsafe
theorem gasBytesUpto_row_tie : Rows.gasBytesUptoRow.laidByTextAt .later Tryd.pinned [.data, .data, .data, .wider, .data] true :=
  OpenClaim.laidByTextAt_later rfl rfl tie noOwnUnsafe
theorem gasSlotsUpto_row_tie : Rows.gasSlotsUptoRow.laidByTextAt .later Tryd.pinned [.data, .data, .data, .wider, .data] true :=
  OpenClaim.laidByTextAt_later rfl rfl tie noOwnUnsafe
theorem gasSpendsUpto_row_tie : Rows.gasSpendsUptoRow.laidByTextAt .later Tryd.pinned [.data, .data, .data, .wider, .data] true :=
  OpenClaim.laidByTextAt_later rfl rfl tie noOwnUnsafe
theorem gasGrowsUpto_row_tie : Rows.gasGrowsUptoRow.laidByTextAt .later Tryd.pinned [.data, .data, .data, .wider, .data] true :=
  OpenClaim.laidByTextAt_later rfl rfl tie noOwnUnsafe
theorem gasLentUpto_row_tie : Rows.gasLentUptoRow.laidByTextAt .later Tryd.pinned [.data, .data, .data, .wider, .data] true :=
  OpenClaim.laidByTextAt_later rfl rfl tie noOwnUnsafe
theorem gasTogetherUpto_row_tie : Rows.gasTogetherUptoRow.laidByTextAt .later Tryd.pinned [.data, .data, .data, .wider, .data] true :=
  OpenClaim.laidByTextAt_later rfl rfl tie noOwnUnsafe
theorem gasReachesUpto_row_tie : Rows.gasReachesUptoRow.laidByTextAt .later Tryd.pinned [.data, .data, .data, .wider, .data] true :=
  OpenClaim.laidByTextAt_later rfl rfl tie noOwnUnsafe
end Go.Proofs.YtjefbfabigkeiaaDoor
