/-
  NARROWER THAN 'FOR EVERY INPUT', by the rows' own cells (each row's printed sentence says how): GasBases: laid · GasBytes: laid · GasSlots: laid · GasSpends: laid · GasGrows: laid · GasLent: laid · GasTogether: laid · GasReaches: laid.
  DERIVED. THE GIVEN ROWS OF THIS SEAT. 8 by the template 'for every input the law returns true; each argument reads behind the call as it read before'; 0 by the template 'total and deterministic' (their statements: YtjefbfabigkeiaaDoorTotals.lean).
  GIVEN WITH THE SEED: the statements are not yours to turn. If you find one false, say at which input.
  Laid BY PROGRAM, IN A SANDBOX (cutbox-rows.mjs): the forced cells as the released guide's own fill.sh prints them over the translation 394ced8f9d610849… (all of the seat's roots in one cut). By AI agents, Wed Nov 11 2026. No macro, syntax, notation, axiom, sorry.
-/
import Derived.Test.YtjefbfabigkeiaaDoorChecked
import GoSem.Claim
import GoSem.ClaimJoined
import GoSem.ClaimMapViews
import Derived.JoinedTies
import Derived.KernelRfl
namespace Go.Proofs.YtjefbfabigkeiaaDoor
/- THE CELL 'sum', in the pinned program and in every row, IS THE sha256 OF THE DUMP (.gsa) THAT YtjefbfabigkeiaaDoorProg.lean LOADS. Nothing in Lean hashes anything: it is a label: what it is worth is what the hold of that sum in a sandbox is worth. -/
noncomputable def Tryd.pinned : Pinned := { name := "ytjefbfabigkeiaadoor", sum := "394ced8f9d6108494b4c346f1f7b6d795305739019a0815941bd735fdd40911f", checked := Tryd.checked }
namespace Rows
def none {H : Type} : Left H := { results := [], args := [] }

/- WHAT THE LISTED PACKAGE-LEVEL VARIABLES READ AS WHEN THE CALL BEGINS. Each datum BY PROGRAM (the guide's laid-datum.mjs) off the statement by which the dump's own 'gosem.cut.vars' lays the variable. In a bare row this is a premise. The card (YtjefbfabigkeiaaDoorCards.lean) ties it to the program's text. -/
def laid_math_bits_deBruijn32tab {H : Type} : DataW H := .agg [.lit (.int .u8 0), .lit (.int .u8 1), .lit (.int .u8 28), .lit (.int .u8 2), .lit (.int .u8 29), .lit (.int .u8 14), .lit (.int .u8 24), .lit (.int .u8 3), .lit (.int .u8 30), .lit (.int .u8 22), .lit (.int .u8 20), .lit (.int .u8 15), .lit (.int .u8 25), .lit (.int .u8 17), .lit (.int .u8 4), .lit (.int .u8 8), .lit (.int .u8 31), .lit (.int .u8 27), .lit (.int .u8 13), .lit (.int .u8 23), .lit (.int .u8 21), .lit (.int .u8 19), .lit (.int .u8 16), .lit (.int .u8 7), .lit (.int .u8 26), .lit (.int .u8 12), .lit (.int .u8 18), .lit (.int .u8 6), .lit (.int .u8 11), .lit (.int .u8 5), .lit (.int .u8 10), .lit (.int .u8 9)]
def laid_math_bits_deBruijn64tab {H : Type} : DataW H := .agg [.lit (.int .u8 0), .lit (.int .u8 1), .lit (.int .u8 56), .lit (.int .u8 2), .lit (.int .u8 57), .lit (.int .u8 49), .lit (.int .u8 28), .lit (.int .u8 3), .lit (.int .u8 61), .lit (.int .u8 58), .lit (.int .u8 42), .lit (.int .u8 50), .lit (.int .u8 38), .lit (.int .u8 29), .lit (.int .u8 17), .lit (.int .u8 4), .lit (.int .u8 62), .lit (.int .u8 47), .lit (.int .u8 59), .lit (.int .u8 36), .lit (.int .u8 45), .lit (.int .u8 43), .lit (.int .u8 51), .lit (.int .u8 22), .lit (.int .u8 53), .lit (.int .u8 39), .lit (.int .u8 33), .lit (.int .u8 30), .lit (.int .u8 24), .lit (.int .u8 18), .lit (.int .u8 12), .lit (.int .u8 5), .lit (.int .u8 63), .lit (.int .u8 55), .lit (.int .u8 48), .lit (.int .u8 27), .lit (.int .u8 60), .lit (.int .u8 41), .lit (.int .u8 37), .lit (.int .u8 16), .lit (.int .u8 46), .lit (.int .u8 35), .lit (.int .u8 44), .lit (.int .u8 21), .lit (.int .u8 52), .lit (.int .u8 32), .lit (.int .u8 23), .lit (.int .u8 11), .lit (.int .u8 54), .lit (.int .u8 26), .lit (.int .u8 40), .lit (.int .u8 15), .lit (.int .u8 34), .lit (.int .u8 20), .lit (.int .u8 31), .lit (.int .u8 10), .lit (.int .u8 25), .lit (.int .u8 14), .lit (.int .u8 19), .lit (.int .u8 9), .lit (.int .u8 13), .lit (.int .u8 8), .lit (.int .u8 7), .lit (.int .u8 6)]
def laid_internal_strconv_uint64pow10 {H : Type} : DataW H := .agg [.lit (.int .u64 1), .lit (.int .u64 10), .lit (.int .u64 100), .lit (.int .u64 1000), .lit (.int .u64 10000), .lit (.int .u64 100000), .lit (.int .u64 1000000), .lit (.int .u64 10000000), .lit (.int .u64 100000000), .lit (.int .u64 1000000000), .lit (.int .u64 10000000000), .lit (.int .u64 100000000000), .lit (.int .u64 1000000000000), .lit (.int .u64 10000000000000), .lit (.int .u64 100000000000000), .lit (.int .u64 1000000000000000), .lit (.int .u64 10000000000000000), .lit (.int .u64 100000000000000000), .lit (.int .u64 1000000000000000000), .lit (.int .u64 10000000000000000000)]
def laid_sheafer_code_rows {H : Type} : DataW H := .agg [.agg [.lit (.int .u8 0), .lit (.string [83, 84, 79, 80]), .lit (.int .i64 0), .lit (.int .i64 0)], .agg [.lit (.int .u8 1), .lit (.string [65, 68, 68]), .lit (.int .i64 2), .lit (.int .i64 1)], .agg [.lit (.int .u8 2), .lit (.string [77, 85, 76]), .lit (.int .i64 2), .lit (.int .i64 1)], .agg [.lit (.int .u8 3), .lit (.string [83, 85, 66]), .lit (.int .i64 2), .lit (.int .i64 1)], .agg [.lit (.int .u8 4), .lit (.string [68, 73, 86]), .lit (.int .i64 2), .lit (.int .i64 1)], .agg [.lit (.int .u8 6), .lit (.string [77, 79, 68]), .lit (.int .i64 2), .lit (.int .i64 1)], .agg [.lit (.int .u8 16), .lit (.string [76, 84]), .lit (.int .i64 2), .lit (.int .i64 1)], .agg [.lit (.int .u8 17), .lit (.string [71, 84]), .lit (.int .i64 2), .lit (.int .i64 1)], .agg [.lit (.int .u8 20), .lit (.string [69, 81]), .lit (.int .i64 2), .lit (.int .i64 1)], .agg [.lit (.int .u8 21), .lit (.string [73, 83, 90, 69, 82, 79]), .lit (.int .i64 1), .lit (.int .i64 1)], .agg [.lit (.int .u8 22), .lit (.string [65, 78, 68]), .lit (.int .i64 2), .lit (.int .i64 1)], .agg [.lit (.int .u8 23), .lit (.string [79, 82]), .lit (.int .i64 2), .lit (.int .i64 1)], .agg [.lit (.int .u8 24), .lit (.string [88, 79, 82]), .lit (.int .i64 2), .lit (.int .i64 1)], .agg [.lit (.int .u8 25), .lit (.string [78, 79, 84]), .lit (.int .i64 1), .lit (.int .i64 1)], .agg [.lit (.int .u8 27), .lit (.string [83, 72, 76]), .lit (.int .i64 2), .lit (.int .i64 1)], .agg [.lit (.int .u8 28), .lit (.string [83, 72, 82]), .lit (.int .i64 2), .lit (.int .i64 1)], .agg [.lit (.int .u8 32), .lit (.string [72, 65, 83, 72]), .lit (.int .i64 2), .lit (.int .i64 1)], .agg [.lit (.int .u8 48), .lit (.string [65, 68, 68, 82, 69, 83, 83]), .lit (.int .i64 0), .lit (.int .i64 1)], .agg [.lit (.int .u8 49), .lit (.string [66, 65, 76, 65, 78, 67, 69]), .lit (.int .i64 1), .lit (.int .i64 1)], .agg [.lit (.int .u8 50), .lit (.string [79, 82, 73, 71, 73, 78]), .lit (.int .i64 0), .lit (.int .i64 1)], .agg [.lit (.int .u8 51), .lit (.string [67, 65, 76, 76, 69, 82]), .lit (.int .i64 0), .lit (.int .i64 1)], .agg [.lit (.int .u8 52), .lit (.string [67, 65, 76, 76, 86, 65, 76, 85, 69]), .lit (.int .i64 0), .lit (.int .i64 1)], .agg [.lit (.int .u8 53), .lit (.string [68, 65, 84, 65, 76, 79, 65, 68]), .lit (.int .i64 1), .lit (.int .i64 1)], .agg [.lit (.int .u8 54), .lit (.string [68, 65, 84, 65, 83, 73, 90, 69]), .lit (.int .i64 0), .lit (.int .i64 1)], .agg [.lit (.int .u8 55), .lit (.string [68, 65, 84, 65, 67, 79, 80, 89]), .lit (.int .i64 3), .lit (.int .i64 0)], .agg [.lit (.int .u8 61), .lit (.string [82, 69, 84, 85, 82, 78, 83, 73, 90, 69]), .lit (.int .i64 0), .lit (.int .i64 1)], .agg [.lit (.int .u8 62), .lit (.string [82, 69, 84, 85, 82, 78, 67, 79, 80, 89]), .lit (.int .i64 3), .lit (.int .i64 0)], .agg [.lit (.int .u8 66), .lit (.string [84, 73, 77, 69]), .lit (.int .i64 0), .lit (.int .i64 1)], .agg [.lit (.int .u8 67), .lit (.string [78, 85, 77, 66, 69, 82]), .lit (.int .i64 0), .lit (.int .i64 1)], .agg [.lit (.int .u8 71), .lit (.string [83, 69, 76, 70, 66, 65, 76, 65, 78, 67, 69]), .lit (.int .i64 0), .lit (.int .i64 1)], .agg [.lit (.int .u8 72), .lit (.string [66, 65, 83, 69, 70, 69, 69]), .lit (.int .i64 0), .lit (.int .i64 1)], .agg [.lit (.int .u8 80), .lit (.string [80, 79, 80]), .lit (.int .i64 1), .lit (.int .i64 0)], .agg [.lit (.int .u8 81), .lit (.string [77, 76, 79, 65, 68]), .lit (.int .i64 1), .lit (.int .i64 1)], .agg [.lit (.int .u8 82), .lit (.string [77, 83, 84, 79, 82, 69]), .lit (.int .i64 2), .lit (.int .i64 0)], .agg [.lit (.int .u8 83), .lit (.string [77, 83, 84, 79, 82, 69, 56]), .lit (.int .i64 2), .lit (.int .i64 0)], .agg [.lit (.int .u8 84), .lit (.string [83, 76, 79, 65, 68]), .lit (.int .i64 1), .lit (.int .i64 1)], .agg [.lit (.int .u8 85), .lit (.string [83, 83, 84, 79, 82, 69]), .lit (.int .i64 2), .lit (.int .i64 0)], .agg [.lit (.int .u8 86), .lit (.string [74, 85, 77, 80]), .lit (.int .i64 1), .lit (.int .i64 0)], .agg [.lit (.int .u8 87), .lit (.string [74, 85, 77, 80, 73]), .lit (.int .i64 2), .lit (.int .i64 0)], .agg [.lit (.int .u8 90), .lit (.string [71, 65, 83]), .lit (.int .i64 0), .lit (.int .i64 1)], .agg [.lit (.int .u8 91), .lit (.string [74, 85, 77, 80, 68, 69, 83, 84]), .lit (.int .i64 0), .lit (.int .i64 0)], .agg [.lit (.int .u8 92), .lit (.string [84, 76, 79, 65, 68]), .lit (.int .i64 1), .lit (.int .i64 1)], .agg [.lit (.int .u8 93), .lit (.string [84, 83, 84, 79, 82, 69]), .lit (.int .i64 2), .lit (.int .i64 0)], .agg [.lit (.int .u8 241), .lit (.string [67, 65, 76, 76]), .lit (.int .i64 7), .lit (.int .i64 1)], .agg [.lit (.int .u8 243), .lit (.string [82, 69, 84, 85, 82, 78]), .lit (.int .i64 2), .lit (.int .i64 0)], .agg [.lit (.int .u8 244), .lit (.string [68, 69, 76, 69, 71, 65, 84, 69, 67, 65, 76, 76]), .lit (.int .i64 6), .lit (.int .i64 1)], .agg [.lit (.int .u8 245), .lit (.string [67, 82, 69, 65, 84, 69, 50]), .lit (.int .i64 4), .lit (.int .i64 1)], .agg [.lit (.int .u8 250), .lit (.string [83, 84, 65, 84, 73, 67, 67, 65, 76, 76]), .lit (.int .i64 6), .lit (.int .i64 1)], .agg [.lit (.int .u8 253), .lit (.string [82, 69, 86, 69, 82, 84]), .lit (.int .i64 2), .lit (.int .i64 0)], .agg [.lit (.int .u8 254), .lit (.string [73, 78, 86, 65, 76, 73, 68]), .lit (.int .i64 0), .lit (.int .i64 0)]]
def laid_sheafer_code_families {H : Type} : DataW H := .agg [.agg [.lit (.int .u8 96), .lit (.int .u8 127), .lit (.string [80, 85, 83, 72]), .lit (.int .i64 0), .lit (.int .i64 1), .lit (.int .i64 0), .lit (.int .i64 1)], .agg [.lit (.int .u8 128), .lit (.int .u8 143), .lit (.string [68, 85, 80]), .lit (.int .i64 0), .lit (.int .i64 1), .lit (.int .i64 1), .lit (.int .i64 0)], .agg [.lit (.int .u8 144), .lit (.int .u8 159), .lit (.string [83, 87, 65, 80]), .lit (.int .i64 1), .lit (.int .i64 1), .lit (.int .i64 1), .lit (.int .i64 0)]]

/-- 'sheaferlaw12.GasBases': WHATEVER THE INPUT: true; the input reads as it did. -/
def gasBasesSpec : ChangeSpec := { name := "gasBases", fn := fun _ => fun
  | [d] => { results := [.lit (.bool true)], args := [d] }
  | _ => none }
def gasBasesRow : OpenClaim := { program := "ytjefbfabigkeiaadoor", sum := "394ced8f9d6108494b4c346f1f7b6d795305739019a0815941bd735fdd40911f", func := "sheafer/sheaferlaw12.GasBases", spec := "gasBases", unfollowed := true, recurses := true, named := ["sheafer/code.families", "sheafer/code.rows", "internal/strconv.uint64pow10", "math/bits.deBruijn32tab", "math/bits.deBruijn64tab"], apart := false, laid := [("math/bits.deBruijn32tab", laid_math_bits_deBruijn32tab), ("math/bits.deBruijn64tab", laid_math_bits_deBruijn64tab), ("internal/strconv.uint64pow10", laid_internal_strconv_uint64pow10), ("sheafer/code.rows", laid_sheafer_code_rows), ("sheafer/code.families", laid_sheafer_code_families)] }
def GasBasesSaid : Prop := gasBasesRow.holds Tryd.pinned (OpenSpec.ofChange gasBasesSpec)

/-- ITS FALSE NEIGHBOUR: 'it returns false'. Refute it at one input. -/
def gasBasesWrong : ChangeSpec := { name := "gasBases", fn := fun _ => fun
  | [d] => { results := [.lit (.bool false)], args := [d] }
  | _ => none }
def GasBasesWrongFalsely : Prop := gasBasesRow.holds Tryd.pinned (OpenSpec.ofChange gasBasesWrong)

/-- 'sheaferlaw12.GasBytes': WHATEVER THE INPUT: true; the input reads as it did. -/
def gasBytesSpec : ChangeSpec := { name := "gasBytes", fn := fun _ => fun
  | [d1, d2] => { results := [.lit (.bool true)], args := [d1, d2] }
  | _ => none }
def gasBytesRow : OpenClaim := { program := "ytjefbfabigkeiaadoor", sum := "394ced8f9d6108494b4c346f1f7b6d795305739019a0815941bd735fdd40911f", func := "sheafer/sheaferlaw12.GasBytes", spec := "gasBytes", inPlace := ["math/bits.Add64"], unfollowed := true, recurses := true, named := ["sheafer/code.families", "sheafer/code.rows", "internal/strconv.uint64pow10", "math/bits.deBruijn32tab", "math/bits.deBruijn64tab"], apart := false, laid := [("math/bits.deBruijn32tab", laid_math_bits_deBruijn32tab), ("math/bits.deBruijn64tab", laid_math_bits_deBruijn64tab), ("internal/strconv.uint64pow10", laid_internal_strconv_uint64pow10), ("sheafer/code.rows", laid_sheafer_code_rows), ("sheafer/code.families", laid_sheafer_code_families)] }
def GasBytesSaid : Prop := gasBytesRow.holds Tryd.pinned (OpenSpec.ofChange gasBytesSpec)

/-- ITS FALSE NEIGHBOUR: 'it returns false'. Refute it at one input. -/
def gasBytesWrong : ChangeSpec := { name := "gasBytes", fn := fun _ => fun
  | [d1, d2] => { results := [.lit (.bool false)], args := [d1, d2] }
  | _ => none }
def GasBytesWrongFalsely : Prop := gasBytesRow.holds Tryd.pinned (OpenSpec.ofChange gasBytesWrong)

/-- 'sheaferlaw12.GasSlots': WHATEVER THE INPUT: true; the input reads as it did. -/
def gasSlotsSpec : ChangeSpec := { name := "gasSlots", fn := fun _ => fun
  | [d1, d2] => { results := [.lit (.bool true)], args := [d1, d2] }
  | _ => none }
def gasSlotsRow : OpenClaim := { program := "ytjefbfabigkeiaadoor", sum := "394ced8f9d6108494b4c346f1f7b6d795305739019a0815941bd735fdd40911f", func := "sheafer/sheaferlaw12.GasSlots", spec := "gasSlots", unfollowed := true, recurses := true, named := ["sheafer/code.families", "sheafer/code.rows", "internal/strconv.uint64pow10", "math/bits.deBruijn32tab", "math/bits.deBruijn64tab"], apart := false, laid := [("math/bits.deBruijn32tab", laid_math_bits_deBruijn32tab), ("math/bits.deBruijn64tab", laid_math_bits_deBruijn64tab), ("internal/strconv.uint64pow10", laid_internal_strconv_uint64pow10), ("sheafer/code.rows", laid_sheafer_code_rows), ("sheafer/code.families", laid_sheafer_code_families)] }
def GasSlotsSaid : Prop := gasSlotsRow.holds Tryd.pinned (OpenSpec.ofChange gasSlotsSpec)

/-- ITS FALSE NEIGHBOUR: 'it returns false'. Refute it at one input. -/
def gasSlotsWrong : ChangeSpec := { name := "gasSlots", fn := fun _ => fun
  | [d1, d2] => { results := [.lit (.bool false)], args := [d1, d2] }
  | _ => none }
def GasSlotsWrongFalsely : Prop := gasSlotsRow.holds Tryd.pinned (OpenSpec.ofChange gasSlotsWrong)

/-- 'sheaferlaw12.GasSpends': WHATEVER THE INPUT: true; the input reads as it did. -/
def gasSpendsSpec : ChangeSpec := { name := "gasSpends", fn := fun _ => fun
  | [d1, d2] => { results := [.lit (.bool true)], args := [d1, d2] }
  | _ => none }
def gasSpendsRow : OpenClaim := { program := "ytjefbfabigkeiaadoor", sum := "394ced8f9d6108494b4c346f1f7b6d795305739019a0815941bd735fdd40911f", func := "sheafer/sheaferlaw12.GasSpends", spec := "gasSpends", unfollowed := true, recurses := true, named := ["sheafer/code.families", "sheafer/code.rows", "internal/strconv.uint64pow10", "math/bits.deBruijn32tab", "math/bits.deBruijn64tab"], apart := false, laid := [("math/bits.deBruijn32tab", laid_math_bits_deBruijn32tab), ("math/bits.deBruijn64tab", laid_math_bits_deBruijn64tab), ("internal/strconv.uint64pow10", laid_internal_strconv_uint64pow10), ("sheafer/code.rows", laid_sheafer_code_rows), ("sheafer/code.families", laid_sheafer_code_families)] }
def GasSpendsSaid : Prop := gasSpendsRow.holds Tryd.pinned (OpenSpec.ofChange gasSpendsSpec)

/-- ITS FALSE NEIGHBOUR: 'it returns false'. Refute it at one input. -/
def gasSpendsWrong : ChangeSpec := { name := "gasSpends", fn := fun _ => fun
  | [d1, d2] => { results := [.lit (.bool false)], args := [d1, d2] }
  | _ => none }
def GasSpendsWrongFalsely : Prop := gasSpendsRow.holds Tryd.pinned (OpenSpec.ofChange gasSpendsWrong)

/-- 'sheaferlaw12.GasGrows': WHATEVER THE INPUT: true; the input reads as it did. -/
def gasGrowsSpec : ChangeSpec := { name := "gasGrows", fn := fun _ => fun
  | [d1, d2, d3] => { results := [.lit (.bool true)], args := [d1, d2, d3] }
  | _ => none }
def gasGrowsRow : OpenClaim := { program := "ytjefbfabigkeiaadoor", sum := "394ced8f9d6108494b4c346f1f7b6d795305739019a0815941bd735fdd40911f", func := "sheafer/sheaferlaw12.GasGrows", spec := "gasGrows", unfollowed := true, recurses := true, named := ["sheafer/code.families", "sheafer/code.rows", "internal/strconv.uint64pow10", "math/bits.deBruijn32tab", "math/bits.deBruijn64tab"], apart := false, laid := [("math/bits.deBruijn32tab", laid_math_bits_deBruijn32tab), ("math/bits.deBruijn64tab", laid_math_bits_deBruijn64tab), ("internal/strconv.uint64pow10", laid_internal_strconv_uint64pow10), ("sheafer/code.rows", laid_sheafer_code_rows), ("sheafer/code.families", laid_sheafer_code_families)] }
def GasGrowsSaid : Prop := gasGrowsRow.holds Tryd.pinned (OpenSpec.ofChange gasGrowsSpec)

/-- ITS FALSE NEIGHBOUR: 'it returns false'. Refute it at one input. -/
def gasGrowsWrong : ChangeSpec := { name := "gasGrows", fn := fun _ => fun
  | [d1, d2, d3] => { results := [.lit (.bool false)], args := [d1, d2, d3] }
  | _ => none }
def GasGrowsWrongFalsely : Prop := gasGrowsRow.holds Tryd.pinned (OpenSpec.ofChange gasGrowsWrong)

/-- 'sheaferlaw12.GasLent': WHATEVER THE INPUT: true; the input reads as it did. -/
def gasLentSpec : ChangeSpec := { name := "gasLent", fn := fun _ => fun
  | [d1, d2] => { results := [.lit (.bool true)], args := [d1, d2] }
  | _ => none }
def gasLentRow : OpenClaim := { program := "ytjefbfabigkeiaadoor", sum := "394ced8f9d6108494b4c346f1f7b6d795305739019a0815941bd735fdd40911f", func := "sheafer/sheaferlaw12.GasLent", spec := "gasLent", unfollowed := true, recurses := true, named := ["sheafer/code.families", "sheafer/code.rows", "internal/strconv.uint64pow10", "math/bits.deBruijn32tab", "math/bits.deBruijn64tab"], apart := false, laid := [("math/bits.deBruijn32tab", laid_math_bits_deBruijn32tab), ("math/bits.deBruijn64tab", laid_math_bits_deBruijn64tab), ("internal/strconv.uint64pow10", laid_internal_strconv_uint64pow10), ("sheafer/code.rows", laid_sheafer_code_rows), ("sheafer/code.families", laid_sheafer_code_families)] }
def GasLentSaid : Prop := gasLentRow.holds Tryd.pinned (OpenSpec.ofChange gasLentSpec)

/-- ITS FALSE NEIGHBOUR: 'it returns false'. Refute it at one input. -/
def gasLentWrong : ChangeSpec := { name := "gasLent", fn := fun _ => fun
  | [d1, d2] => { results := [.lit (.bool false)], args := [d1, d2] }
  | _ => none }
def GasLentWrongFalsely : Prop := gasLentRow.holds Tryd.pinned (OpenSpec.ofChange gasLentWrong)

/-- 'sheaferlaw12.GasTogether': WHATEVER THE INPUT: true; the input reads as it did. -/
def gasTogetherSpec : ChangeSpec := { name := "gasTogether", fn := fun _ => fun
  | [d1, d2, d3] => { results := [.lit (.bool true)], args := [d1, d2, d3] }
  | _ => none }
def gasTogetherRow : OpenClaim := { program := "ytjefbfabigkeiaadoor", sum := "394ced8f9d6108494b4c346f1f7b6d795305739019a0815941bd735fdd40911f", func := "sheafer/sheaferlaw12.GasTogether", spec := "gasTogether", inPlace := ["math/bits.Add64"], unfollowed := true, recurses := true, named := ["sheafer/code.families", "sheafer/code.rows", "internal/strconv.uint64pow10", "math/bits.deBruijn32tab", "math/bits.deBruijn64tab"], apart := false, laid := [("math/bits.deBruijn32tab", laid_math_bits_deBruijn32tab), ("math/bits.deBruijn64tab", laid_math_bits_deBruijn64tab), ("internal/strconv.uint64pow10", laid_internal_strconv_uint64pow10), ("sheafer/code.rows", laid_sheafer_code_rows), ("sheafer/code.families", laid_sheafer_code_families)] }
def GasTogetherSaid : Prop := gasTogetherRow.holds Tryd.pinned (OpenSpec.ofChange gasTogetherSpec)

/-- ITS FALSE NEIGHBOUR: 'it returns false'. Refute it at one input. -/
def gasTogetherWrong : ChangeSpec := { name := "gasTogether", fn := fun _ => fun
  | [d1, d2, d3] => { results := [.lit (.bool false)], args := [d1, d2, d3] }
  | _ => none }
def GasTogetherWrongFalsely : Prop := gasTogetherRow.holds Tryd.pinned (OpenSpec.ofChange gasTogetherWrong)

/-- 'sheaferlaw12.GasReaches': WHATEVER THE INPUT: true; the input reads as it did. -/
def gasReachesSpec : ChangeSpec := { name := "gasReaches", fn := fun _ => fun
  | [d1, d2, d3] => { results := [.lit (.bool true)], args := [d1, d2, d3] }
  | _ => none }
def gasReachesRow : OpenClaim := { program := "ytjefbfabigkeiaadoor", sum := "394ced8f9d6108494b4c346f1f7b6d795305739019a0815941bd735fdd40911f", func := "sheafer/sheaferlaw12.GasReaches", spec := "gasReaches", inPlace := ["math/bits.Add64"], unfollowed := true, recurses := true, named := ["sheafer/code.families", "sheafer/code.rows", "internal/strconv.uint64pow10", "math/bits.deBruijn32tab", "math/bits.deBruijn64tab"], apart := false, laid := [("math/bits.deBruijn32tab", laid_math_bits_deBruijn32tab), ("math/bits.deBruijn64tab", laid_math_bits_deBruijn64tab), ("internal/strconv.uint64pow10", laid_internal_strconv_uint64pow10), ("sheafer/code.rows", laid_sheafer_code_rows), ("sheafer/code.families", laid_sheafer_code_families)] }
def GasReachesSaid : Prop := gasReachesRow.holds Tryd.pinned (OpenSpec.ofChange gasReachesSpec)

/-- ITS FALSE NEIGHBOUR: 'it returns false'. Refute it at one input. -/
def gasReachesWrong : ChangeSpec := { name := "gasReaches", fn := fun _ => fun
  | [d1, d2, d3] => { results := [.lit (.bool false)], args := [d1, d2, d3] }
  | _ => none }
def GasReachesWrongFalsely : Prop := gasReachesRow.holds Tryd.pinned (OpenSpec.ofChange gasReachesWrong)

/- THE SECOND FORM. 'bulk': how many values and letters a reading holds, each counted each time it is reached (what is shared counts as often as it is met; a slice's spare places count too). A statement '..UptoSaid' is the law's where the arguments, and the package variables that the reading takes, are together of bulk at most 1048576: NARROWER than '..Said'. Prove '..Said' where nothing that the law and all that it calls make is longer than what came in: it says more and counts as full. Else prove '..UptoSaid'. A law counts once. -/
mutual
def uptoBulk {H : Type} : DataW H → Nat
  | .lit (.string bytes) => bytes.length + 1
  | .lit _ => 1
  | .nil => 1
  | .ptr d => uptoBulk d + 1
  | .slice elems spare => uptoBulkAll elems + uptoBulkAll spare + 1
  | .agg parts => uptoBulkAll parts + 1
  | .iface _ d => uptoBulk d + 1
  | .map entries => uptoBulkEntries entries + 1
  | .held _ => 1
def uptoBulkAll {H : Type} : List (DataW H) → Nat
  | [] => 0
  | d :: r => uptoBulk d + uptoBulkAll r
def uptoBulkEntries {H : Type} : List (Lit × DataW H) → Nat
  | [] => 0
  | x :: r => uptoBulkEntry x + uptoBulkEntries r
def uptoBulkEntry {H : Type} : Lit × DataW H → Nat
  | (.string bytes, d) => bytes.length + uptoBulk d + 1
  | (_, d) => uptoBulk d + 1
 end
def uptoSmall : (H : Type) → List (DataW H) → Bool := fun _ ds => decide (uptoBulkAll ds ≤ 1048576)
def OpenSpec.upto (s : _root_.Go.ChangeSpec) : _root_.Go.OpenSpec := { _root_.Go.OpenSpec.ofChange s with cond := some uptoSmall }

/-- 'sheaferlaw12.GasBases', WHERE WHAT IT READS IS OF BULK AT MOST 1048576: true; the input reads as it did. -/
def gasBasesUptoRow : OpenClaim := { program := "ytjefbfabigkeiaadoor", sum := "394ced8f9d6108494b4c346f1f7b6d795305739019a0815941bd735fdd40911f", func := "sheafer/sheaferlaw12.GasBases", spec := "gasBases", unfollowed := true, recurses := true, named := ["sheafer/code.families", "sheafer/code.rows", "internal/strconv.uint64pow10", "math/bits.deBruijn32tab", "math/bits.deBruijn64tab"], apart := false, laid := [("math/bits.deBruijn32tab", laid_math_bits_deBruijn32tab), ("math/bits.deBruijn64tab", laid_math_bits_deBruijn64tab), ("internal/strconv.uint64pow10", laid_internal_strconv_uint64pow10), ("sheafer/code.rows", laid_sheafer_code_rows), ("sheafer/code.families", laid_sheafer_code_families)], narrowed := true }
def GasBasesUptoSaid : Prop := gasBasesUptoRow.holds Tryd.pinned (OpenSpec.upto gasBasesSpec)

/-- 'sheaferlaw12.GasBytes', WHERE WHAT IT READS IS OF BULK AT MOST 1048576: true; the input reads as it did. -/
def gasBytesUptoRow : OpenClaim := { program := "ytjefbfabigkeiaadoor", sum := "394ced8f9d6108494b4c346f1f7b6d795305739019a0815941bd735fdd40911f", func := "sheafer/sheaferlaw12.GasBytes", spec := "gasBytes", inPlace := ["math/bits.Add64"], unfollowed := true, recurses := true, named := ["sheafer/code.families", "sheafer/code.rows", "internal/strconv.uint64pow10", "math/bits.deBruijn32tab", "math/bits.deBruijn64tab"], apart := false, laid := [("math/bits.deBruijn32tab", laid_math_bits_deBruijn32tab), ("math/bits.deBruijn64tab", laid_math_bits_deBruijn64tab), ("internal/strconv.uint64pow10", laid_internal_strconv_uint64pow10), ("sheafer/code.rows", laid_sheafer_code_rows), ("sheafer/code.families", laid_sheafer_code_families)], narrowed := true }
def GasBytesUptoSaid : Prop := gasBytesUptoRow.holds Tryd.pinned (OpenSpec.upto gasBytesSpec)

/-- 'sheaferlaw12.GasSlots', WHERE WHAT IT READS IS OF BULK AT MOST 1048576: true; the input reads as it did. -/
def gasSlotsUptoRow : OpenClaim := { program := "ytjefbfabigkeiaadoor", sum := "394ced8f9d6108494b4c346f1f7b6d795305739019a0815941bd735fdd40911f", func := "sheafer/sheaferlaw12.GasSlots", spec := "gasSlots", unfollowed := true, recurses := true, named := ["sheafer/code.families", "sheafer/code.rows", "internal/strconv.uint64pow10", "math/bits.deBruijn32tab", "math/bits.deBruijn64tab"], apart := false, laid := [("math/bits.deBruijn32tab", laid_math_bits_deBruijn32tab), ("math/bits.deBruijn64tab", laid_math_bits_deBruijn64tab), ("internal/strconv.uint64pow10", laid_internal_strconv_uint64pow10), ("sheafer/code.rows", laid_sheafer_code_rows), ("sheafer/code.families", laid_sheafer_code_families)], narrowed := true }
def GasSlotsUptoSaid : Prop := gasSlotsUptoRow.holds Tryd.pinned (OpenSpec.upto gasSlotsSpec)

/-- 'sheaferlaw12.GasSpends', WHERE WHAT IT READS IS OF BULK AT MOST 1048576: true; the input reads as it did. -/
def gasSpendsUptoRow : OpenClaim := { program := "ytjefbfabigkeiaadoor", sum := "394ced8f9d6108494b4c346f1f7b6d795305739019a0815941bd735fdd40911f", func := "sheafer/sheaferlaw12.GasSpends", spec := "gasSpends", unfollowed := true, recurses := true, named := ["sheafer/code.families", "sheafer/code.rows", "internal/strconv.uint64pow10", "math/bits.deBruijn32tab", "math/bits.deBruijn64tab"], apart := false, laid := [("math/bits.deBruijn32tab", laid_math_bits_deBruijn32tab), ("math/bits.deBruijn64tab", laid_math_bits_deBruijn64tab), ("internal/strconv.uint64pow10", laid_internal_strconv_uint64pow10), ("sheafer/code.rows", laid_sheafer_code_rows), ("sheafer/code.families", laid_sheafer_code_families)], narrowed := true }
def GasSpendsUptoSaid : Prop := gasSpendsUptoRow.holds Tryd.pinned (OpenSpec.upto gasSpendsSpec)

/-- 'sheaferlaw12.GasGrows', WHERE WHAT IT READS IS OF BULK AT MOST 1048576: true; the input reads as it did. -/
def gasGrowsUptoRow : OpenClaim := { program := "ytjefbfabigkeiaadoor", sum := "394ced8f9d6108494b4c346f1f7b6d795305739019a0815941bd735fdd40911f", func := "sheafer/sheaferlaw12.GasGrows", spec := "gasGrows", unfollowed := true, recurses := true, named := ["sheafer/code.families", "sheafer/code.rows", "internal/strconv.uint64pow10", "math/bits.deBruijn32tab", "math/bits.deBruijn64tab"], apart := false, laid := [("math/bits.deBruijn32tab", laid_math_bits_deBruijn32tab), ("math/bits.deBruijn64tab", laid_math_bits_deBruijn64tab), ("internal/strconv.uint64pow10", laid_internal_strconv_uint64pow10), ("sheafer/code.rows", laid_sheafer_code_rows), ("sheafer/code.families", laid_sheafer_code_families)], narrowed := true }
def GasGrowsUptoSaid : Prop := gasGrowsUptoRow.holds Tryd.pinned (OpenSpec.upto gasGrowsSpec)

/-- 'sheaferlaw12.GasLent', WHERE WHAT IT READS IS OF BULK AT MOST 1048576: true; the input reads as it did. -/
def gasLentUptoRow : OpenClaim := { program := "ytjefbfabigkeiaadoor", sum := "394ced8f9d6108494b4c346f1f7b6d795305739019a0815941bd735fdd40911f", func := "sheafer/sheaferlaw12.GasLent", spec := "gasLent", unfollowed := true, recurses := true, named := ["sheafer/code.families", "sheafer/code.rows", "internal/strconv.uint64pow10", "math/bits.deBruijn32tab", "math/bits.deBruijn64tab"], apart := false, laid := [("math/bits.deBruijn32tab", laid_math_bits_deBruijn32tab), ("math/bits.deBruijn64tab", laid_math_bits_deBruijn64tab), ("internal/strconv.uint64pow10", laid_internal_strconv_uint64pow10), ("sheafer/code.rows", laid_sheafer_code_rows), ("sheafer/code.families", laid_sheafer_code_families)], narrowed := true }
def GasLentUptoSaid : Prop := gasLentUptoRow.holds Tryd.pinned (OpenSpec.upto gasLentSpec)

/-- 'sheaferlaw12.GasTogether', WHERE WHAT IT READS IS OF BULK AT MOST 1048576: true; the input reads as it did. -/
def gasTogetherUptoRow : OpenClaim := { program := "ytjefbfabigkeiaadoor", sum := "394ced8f9d6108494b4c346f1f7b6d795305739019a0815941bd735fdd40911f", func := "sheafer/sheaferlaw12.GasTogether", spec := "gasTogether", inPlace := ["math/bits.Add64"], unfollowed := true, recurses := true, named := ["sheafer/code.families", "sheafer/code.rows", "internal/strconv.uint64pow10", "math/bits.deBruijn32tab", "math/bits.deBruijn64tab"], apart := false, laid := [("math/bits.deBruijn32tab", laid_math_bits_deBruijn32tab), ("math/bits.deBruijn64tab", laid_math_bits_deBruijn64tab), ("internal/strconv.uint64pow10", laid_internal_strconv_uint64pow10), ("sheafer/code.rows", laid_sheafer_code_rows), ("sheafer/code.families", laid_sheafer_code_families)], narrowed := true }
def GasTogetherUptoSaid : Prop := gasTogetherUptoRow.holds Tryd.pinned (OpenSpec.upto gasTogetherSpec)

/-- 'sheaferlaw12.GasReaches', WHERE WHAT IT READS IS OF BULK AT MOST 1048576: true; the input reads as it did. -/
def gasReachesUptoRow : OpenClaim := { program := "ytjefbfabigkeiaadoor", sum := "394ced8f9d6108494b4c346f1f7b6d795305739019a0815941bd735fdd40911f", func := "sheafer/sheaferlaw12.GasReaches", spec := "gasReaches", inPlace := ["math/bits.Add64"], unfollowed := true, recurses := true, named := ["sheafer/code.families", "sheafer/code.rows", "internal/strconv.uint64pow10", "math/bits.deBruijn32tab", "math/bits.deBruijn64tab"], apart := false, laid := [("math/bits.deBruijn32tab", laid_math_bits_deBruijn32tab), ("math/bits.deBruijn64tab", laid_math_bits_deBruijn64tab), ("internal/strconv.uint64pow10", laid_internal_strconv_uint64pow10), ("sheafer/code.rows", laid_sheafer_code_rows), ("sheafer/code.families", laid_sheafer_code_families)], narrowed := true }
def GasReachesUptoSaid : Prop := gasReachesUptoRow.holds Tryd.pinned (OpenSpec.upto gasReachesSpec)

end Rows
end Go.Proofs.YtjefbfabigkeiaaDoor
