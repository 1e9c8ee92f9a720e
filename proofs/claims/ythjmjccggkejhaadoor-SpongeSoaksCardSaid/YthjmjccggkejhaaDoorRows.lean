/-
  NARROWER THAN 'FOR EVERY INPUT', by the rows' own cells (each row's printed sentence says how): SpongeSums: laid · SpongeSteps: laid · SpongeTexts: laid · SpongeSoaks: laid · SpongeLinear: laid · SpongeRows: laid · SpongePads: laid · AddrMakes: laid.
  DERIVED. THE GIVEN ROWS OF THIS SEAT. 8 by the template 'for every input the law returns true; each argument reads behind the call as it read before'; 0 by the template 'total and deterministic' (their statements: YthjmjccggkejhaaDoorTotals.lean).
  GIVEN WITH THE SEED: the statements are not yours to turn. If you find one false, say at which input.
  Laid BY PROGRAM, IN A SANDBOX (cutbox-rows.mjs): the forced cells as the released guide's own fill.sh prints them over the translation dd37601ef768147b… (all of the seat's roots in one cut). By AI agents, Wed Nov 11 2026. No macro, syntax, notation, axiom, sorry.
-/
import Derived.Test.YthjmjccggkejhaaDoorChecked
import GoSem.Claim
import GoSem.ClaimJoined
import GoSem.ClaimMapViews
import Derived.JoinedTies
import Derived.KernelRfl
namespace Go.Proofs.YthjmjccggkejhaaDoor
/- THE CELL 'sum', in the pinned program and in every row, IS THE sha256 OF THE DUMP (.gsa) THAT YthjmjccggkejhaaDoorProg.lean LOADS. Nothing in Lean hashes anything: it is a label: what it is worth is what the hold of that sum in a sandbox is worth. -/
noncomputable def Tryd.pinned : Pinned := { name := "ythjmjccggkejhaadoor", sum := "dd37601ef768147b154a8ce2dbb2e0100af2ebd552390e6b91f1151c2c20d09e", checked := Tryd.checked }
namespace Rows
def none {H : Type} : Left H := { results := [], args := [] }

/- WHAT THE LISTED PACKAGE-LEVEL VARIABLES READ AS WHEN THE CALL BEGINS. Each datum BY PROGRAM (the guide's laid-datum.mjs) off the statement by which the dump's own 'gosem.cut.vars' lays the variable. In a bare row this is a premise. The card (YthjmjccggkejhaaDoorCards.lean) ties it to the program's text. -/
def laid_sheafer_sponge_turns {H : Type} : DataW H := .agg [.lit (.int .u64 0), .lit (.int .u64 1), .lit (.int .u64 62), .lit (.int .u64 28), .lit (.int .u64 27), .lit (.int .u64 36), .lit (.int .u64 44), .lit (.int .u64 6), .lit (.int .u64 55), .lit (.int .u64 20), .lit (.int .u64 3), .lit (.int .u64 10), .lit (.int .u64 43), .lit (.int .u64 25), .lit (.int .u64 39), .lit (.int .u64 41), .lit (.int .u64 45), .lit (.int .u64 15), .lit (.int .u64 21), .lit (.int .u64 8), .lit (.int .u64 18), .lit (.int .u64 2), .lit (.int .u64 61), .lit (.int .u64 56), .lit (.int .u64 14)]
def laid_sheafer_sponge_roundNumbers {H : Type} : DataW H := .agg [.lit (.int .u64 1), .lit (.int .u64 32898), .lit (.int .u64 9223372036854808714), .lit (.int .u64 9223372039002292224), .lit (.int .u64 32907), .lit (.int .u64 2147483649), .lit (.int .u64 9223372039002292353), .lit (.int .u64 9223372036854808585), .lit (.int .u64 138), .lit (.int .u64 136), .lit (.int .u64 2147516425), .lit (.int .u64 2147483658), .lit (.int .u64 2147516555), .lit (.int .u64 9223372036854775947), .lit (.int .u64 9223372036854808713), .lit (.int .u64 9223372036854808579), .lit (.int .u64 9223372036854808578), .lit (.int .u64 9223372036854775936), .lit (.int .u64 32778), .lit (.int .u64 9223372039002259466), .lit (.int .u64 9223372039002292353), .lit (.int .u64 9223372036854808704), .lit (.int .u64 2147483649), .lit (.int .u64 9223372039002292232)]

/-- 'sheaferlaw03.SpongeSums': WHATEVER THE INPUT: true; the input reads as it did. -/
def spongeSumsSpec : ChangeSpec := { name := "spongeSums", fn := fun _ => fun
  | [d] => { results := [.lit (.bool true)], args := [d] }
  | _ => none }
def spongeSumsRow : OpenClaim := { program := "ythjmjccggkejhaadoor", sum := "dd37601ef768147b154a8ce2dbb2e0100af2ebd552390e6b91f1151c2c20d09e", func := "sheafer/sheaferlaw03.SpongeSums", spec := "spongeSums", unfollowed := true, recurses := true, named := ["sheafer/sponge.roundNumbers", "sheafer/sponge.turns"], apart := false, laid := [("sheafer/sponge.turns", laid_sheafer_sponge_turns), ("sheafer/sponge.roundNumbers", laid_sheafer_sponge_roundNumbers)] }
def SpongeSumsSaid : Prop := spongeSumsRow.holds Tryd.pinned (OpenSpec.ofChange spongeSumsSpec)

/-- ITS FALSE NEIGHBOUR: 'it returns false'. Refute it at one input. -/
def spongeSumsWrong : ChangeSpec := { name := "spongeSums", fn := fun _ => fun
  | [d] => { results := [.lit (.bool false)], args := [d] }
  | _ => none }
def SpongeSumsWrongFalsely : Prop := spongeSumsRow.holds Tryd.pinned (OpenSpec.ofChange spongeSumsWrong)

/-- 'sheaferlaw03.SpongeSteps': WHATEVER THE INPUT: true; the input reads as it did. -/
def spongeStepsSpec : ChangeSpec := { name := "spongeSteps", fn := fun _ => fun
  | [d1, d2] => { results := [.lit (.bool true)], args := [d1, d2] }
  | _ => none }
def spongeStepsRow : OpenClaim := { program := "ythjmjccggkejhaadoor", sum := "dd37601ef768147b154a8ce2dbb2e0100af2ebd552390e6b91f1151c2c20d09e", func := "sheafer/sheaferlaw03.SpongeSteps", spec := "spongeSteps", unfollowed := true, recurses := true, named := ["sheafer/sponge.roundNumbers", "sheafer/sponge.turns"], apart := false, laid := [("sheafer/sponge.turns", laid_sheafer_sponge_turns), ("sheafer/sponge.roundNumbers", laid_sheafer_sponge_roundNumbers)] }
def SpongeStepsSaid : Prop := spongeStepsRow.holds Tryd.pinned (OpenSpec.ofChange spongeStepsSpec)

/-- ITS FALSE NEIGHBOUR: 'it returns false'. Refute it at one input. -/
def spongeStepsWrong : ChangeSpec := { name := "spongeSteps", fn := fun _ => fun
  | [d1, d2] => { results := [.lit (.bool false)], args := [d1, d2] }
  | _ => none }
def SpongeStepsWrongFalsely : Prop := spongeStepsRow.holds Tryd.pinned (OpenSpec.ofChange spongeStepsWrong)

/-- 'sheaferlaw03.SpongeTexts': WHATEVER THE INPUT: true; the input reads as it did. -/
def spongeTextsSpec : ChangeSpec := { name := "spongeTexts", fn := fun _ => fun
  | [d1, d2] => { results := [.lit (.bool true)], args := [d1, d2] }
  | _ => none }
def spongeTextsRow : OpenClaim := { program := "ythjmjccggkejhaadoor", sum := "dd37601ef768147b154a8ce2dbb2e0100af2ebd552390e6b91f1151c2c20d09e", func := "sheafer/sheaferlaw03.SpongeTexts", spec := "spongeTexts", unfollowed := true, recurses := true, named := ["sheafer/sponge.roundNumbers", "sheafer/sponge.turns"], apart := false, laid := [("sheafer/sponge.turns", laid_sheafer_sponge_turns), ("sheafer/sponge.roundNumbers", laid_sheafer_sponge_roundNumbers)] }
def SpongeTextsSaid : Prop := spongeTextsRow.holds Tryd.pinned (OpenSpec.ofChange spongeTextsSpec)

/-- ITS FALSE NEIGHBOUR: 'it returns false'. Refute it at one input. -/
def spongeTextsWrong : ChangeSpec := { name := "spongeTexts", fn := fun _ => fun
  | [d1, d2] => { results := [.lit (.bool false)], args := [d1, d2] }
  | _ => none }
def SpongeTextsWrongFalsely : Prop := spongeTextsRow.holds Tryd.pinned (OpenSpec.ofChange spongeTextsWrong)

/-- 'sheaferlaw03.SpongeSoaks': WHATEVER THE INPUT: true; the input reads as it did. -/
def spongeSoaksSpec : ChangeSpec := { name := "spongeSoaks", fn := fun _ => fun
  | [d] => { results := [.lit (.bool true)], args := [d] }
  | _ => none }
def spongeSoaksRow : OpenClaim := { program := "ythjmjccggkejhaadoor", sum := "dd37601ef768147b154a8ce2dbb2e0100af2ebd552390e6b91f1151c2c20d09e", func := "sheafer/sheaferlaw03.SpongeSoaks", spec := "spongeSoaks", unfollowed := true, recurses := true, named := ["sheafer/sponge.roundNumbers", "sheafer/sponge.turns"], apart := false, laid := [("sheafer/sponge.turns", laid_sheafer_sponge_turns), ("sheafer/sponge.roundNumbers", laid_sheafer_sponge_roundNumbers)] }
def SpongeSoaksSaid : Prop := spongeSoaksRow.holds Tryd.pinned (OpenSpec.ofChange spongeSoaksSpec)

/-- ITS FALSE NEIGHBOUR: 'it returns false'. Refute it at one input. -/
def spongeSoaksWrong : ChangeSpec := { name := "spongeSoaks", fn := fun _ => fun
  | [d] => { results := [.lit (.bool false)], args := [d] }
  | _ => none }
def SpongeSoaksWrongFalsely : Prop := spongeSoaksRow.holds Tryd.pinned (OpenSpec.ofChange spongeSoaksWrong)

/-- 'sheaferlaw03.SpongeLinear': WHATEVER THE INPUT: true; the input reads as it did. -/
def spongeLinearSpec : ChangeSpec := { name := "spongeLinear", fn := fun _ => fun
  | [d1, d2] => { results := [.lit (.bool true)], args := [d1, d2] }
  | _ => none }
def spongeLinearRow : OpenClaim := { program := "ythjmjccggkejhaadoor", sum := "dd37601ef768147b154a8ce2dbb2e0100af2ebd552390e6b91f1151c2c20d09e", func := "sheafer/sheaferlaw03.SpongeLinear", spec := "spongeLinear", unfollowed := true, recurses := true, named := ["sheafer/sponge.roundNumbers", "sheafer/sponge.turns"], apart := false, laid := [("sheafer/sponge.turns", laid_sheafer_sponge_turns), ("sheafer/sponge.roundNumbers", laid_sheafer_sponge_roundNumbers)] }
def SpongeLinearSaid : Prop := spongeLinearRow.holds Tryd.pinned (OpenSpec.ofChange spongeLinearSpec)

/-- ITS FALSE NEIGHBOUR: 'it returns false'. Refute it at one input. -/
def spongeLinearWrong : ChangeSpec := { name := "spongeLinear", fn := fun _ => fun
  | [d1, d2] => { results := [.lit (.bool false)], args := [d1, d2] }
  | _ => none }
def SpongeLinearWrongFalsely : Prop := spongeLinearRow.holds Tryd.pinned (OpenSpec.ofChange spongeLinearWrong)

/-- 'sheaferlaw03.SpongeRows': WHATEVER THE INPUT: true; the input reads as it did. -/
def spongeRowsSpec : ChangeSpec := { name := "spongeRows", fn := fun _ => fun
  | [d1, d2, d3] => { results := [.lit (.bool true)], args := [d1, d2, d3] }
  | _ => none }
def spongeRowsRow : OpenClaim := { program := "ythjmjccggkejhaadoor", sum := "dd37601ef768147b154a8ce2dbb2e0100af2ebd552390e6b91f1151c2c20d09e", func := "sheafer/sheaferlaw03.SpongeRows", spec := "spongeRows", unfollowed := true, recurses := true, named := ["sheafer/sponge.roundNumbers", "sheafer/sponge.turns"], apart := false, laid := [("sheafer/sponge.turns", laid_sheafer_sponge_turns), ("sheafer/sponge.roundNumbers", laid_sheafer_sponge_roundNumbers)] }
def SpongeRowsSaid : Prop := spongeRowsRow.holds Tryd.pinned (OpenSpec.ofChange spongeRowsSpec)

/-- ITS FALSE NEIGHBOUR: 'it returns false'. Refute it at one input. -/
def spongeRowsWrong : ChangeSpec := { name := "spongeRows", fn := fun _ => fun
  | [d1, d2, d3] => { results := [.lit (.bool false)], args := [d1, d2, d3] }
  | _ => none }
def SpongeRowsWrongFalsely : Prop := spongeRowsRow.holds Tryd.pinned (OpenSpec.ofChange spongeRowsWrong)

/-- 'sheaferlaw03.SpongePads': WHATEVER THE INPUT: true; the input reads as it did. -/
def spongePadsSpec : ChangeSpec := { name := "spongePads", fn := fun _ => fun
  | [d1, d2, d3] => { results := [.lit (.bool true)], args := [d1, d2, d3] }
  | _ => none }
def spongePadsRow : OpenClaim := { program := "ythjmjccggkejhaadoor", sum := "dd37601ef768147b154a8ce2dbb2e0100af2ebd552390e6b91f1151c2c20d09e", func := "sheafer/sheaferlaw03.SpongePads", spec := "spongePads", unfollowed := true, recurses := true, named := ["sheafer/sponge.roundNumbers", "sheafer/sponge.turns"], apart := false, laid := [("sheafer/sponge.turns", laid_sheafer_sponge_turns), ("sheafer/sponge.roundNumbers", laid_sheafer_sponge_roundNumbers)] }
def SpongePadsSaid : Prop := spongePadsRow.holds Tryd.pinned (OpenSpec.ofChange spongePadsSpec)

/-- ITS FALSE NEIGHBOUR: 'it returns false'. Refute it at one input. -/
def spongePadsWrong : ChangeSpec := { name := "spongePads", fn := fun _ => fun
  | [d1, d2, d3] => { results := [.lit (.bool false)], args := [d1, d2, d3] }
  | _ => none }
def SpongePadsWrongFalsely : Prop := spongePadsRow.holds Tryd.pinned (OpenSpec.ofChange spongePadsWrong)

/-- 'sheaferlaw05.AddrMakes': WHATEVER THE INPUT: true; the input reads as it did. -/
def addrMakesSpec : ChangeSpec := { name := "addrMakes", fn := fun _ => fun
  | [d1, d2, d3] => { results := [.lit (.bool true)], args := [d1, d2, d3] }
  | _ => none }
def addrMakesRow : OpenClaim := { program := "ythjmjccggkejhaadoor", sum := "dd37601ef768147b154a8ce2dbb2e0100af2ebd552390e6b91f1151c2c20d09e", func := "sheafer/sheaferlaw05.AddrMakes", spec := "addrMakes", inPlace := ["math/bits.Sub64"], unfollowed := true, recurses := true, named := ["sheafer/sponge.roundNumbers", "sheafer/sponge.turns"], apart := false, laid := [("sheafer/sponge.turns", laid_sheafer_sponge_turns), ("sheafer/sponge.roundNumbers", laid_sheafer_sponge_roundNumbers)] }
def AddrMakesSaid : Prop := addrMakesRow.holds Tryd.pinned (OpenSpec.ofChange addrMakesSpec)

/-- ITS FALSE NEIGHBOUR: 'it returns false'. Refute it at one input. -/
def addrMakesWrong : ChangeSpec := { name := "addrMakes", fn := fun _ => fun
  | [d1, d2, d3] => { results := [.lit (.bool false)], args := [d1, d2, d3] }
  | _ => none }
def AddrMakesWrongFalsely : Prop := addrMakesRow.holds Tryd.pinned (OpenSpec.ofChange addrMakesWrong)

/- THE SECOND FORM. 'bulk': how many values and letters a reading holds, each counted each time it is reached (what is shared counts as often as it is met; a slice's spare places count too). A statement '..UptoSaid' is the law's where the arguments, and the package variables that the reading takes, are together of bulk at most 1048576: NARROWER than '..Said'. Prove '..Said' where nothing that the law and all that it calls make is longer than what came in: it says more and counts as full. Else prove '..UptoSaid'. A law counts once. -/
mutual
def uptoBulk {H : Type} : DataW H → Nat
  | .lit (.string bytes) => bytes.length + 1
  | .lit _ => 1
  | .nil => 1
  | .ptr d => uptoBulk d + 1
  | .slice elems spare => uptoBulkAll elems + uptoBulkAll spare + 1
  | .agg parts => uptoBulkAll parts + 1
  | .iface _ d => uptoBulk d + 1
  | .map entries => uptoBulkEntries entries + 1
  | .held _ => 1
def uptoBulkAll {H : Type} : List (DataW H) → Nat
  | [] => 0
  | d :: r => uptoBulk d + uptoBulkAll r
def uptoBulkEntries {H : Type} : List (Lit × DataW H) → Nat
  | [] => 0
  | x :: r => uptoBulkEntry x + uptoBulkEntries r
def uptoBulkEntry {H : Type} : Lit × DataW H → Nat
  | (.string bytes, d) => bytes.length + uptoBulk d + 1
  | (_, d) => uptoBulk d + 1
 end
def uptoSmall : (H : Type) → List (DataW H) → Bool := fun _ ds => decide (uptoBulkAll ds ≤ 1048576)
def OpenSpec.upto (s : _root_.Go.ChangeSpec) : _root_.Go.OpenSpec := { _root_.Go.OpenSpec.ofChange s with cond := some uptoSmall }

/-- 'sheaferlaw03.SpongeSums', WHERE WHAT IT READS IS OF BULK AT MOST 1048576: true; the input reads as it did. -/
def spongeSumsUptoRow : OpenClaim := { program := "ythjmjccggkejhaadoor", sum := "dd37601ef768147b154a8ce2dbb2e0100af2ebd552390e6b91f1151c2c20d09e", func := "sheafer/sheaferlaw03.SpongeSums", spec := "spongeSums", unfollowed := true, recurses := true, named := ["sheafer/sponge.roundNumbers", "sheafer/sponge.turns"], apart := false, laid := [("sheafer/sponge.turns", laid_sheafer_sponge_turns), ("sheafer/sponge.roundNumbers", laid_sheafer_sponge_roundNumbers)], narrowed := true }
def SpongeSumsUptoSaid : Prop := spongeSumsUptoRow.holds Tryd.pinned (OpenSpec.upto spongeSumsSpec)

/-- 'sheaferlaw03.SpongeSteps', WHERE WHAT IT READS IS OF BULK AT MOST 1048576: true; the input reads as it did. -/
def spongeStepsUptoRow : OpenClaim := { program := "ythjmjccggkejhaadoor", sum := "dd37601ef768147b154a8ce2dbb2e0100af2ebd552390e6b91f1151c2c20d09e", func := "sheafer/sheaferlaw03.SpongeSteps", spec := "spongeSteps", unfollowed := true, recurses := true, named := ["sheafer/sponge.roundNumbers", "sheafer/sponge.turns"], apart := false, laid := [("sheafer/sponge.turns", laid_sheafer_sponge_turns), ("sheafer/sponge.roundNumbers", laid_sheafer_sponge_roundNumbers)], narrowed := true }
def SpongeStepsUptoSaid : Prop := spongeStepsUptoRow.holds Tryd.pinned (OpenSpec.upto spongeStepsSpec)

/-- 'sheaferlaw03.SpongeTexts', WHERE WHAT IT READS IS OF BULK AT MOST 1048576: true; the input reads as it did. -/
def spongeTextsUptoRow : OpenClaim := { program := "ythjmjccggkejhaadoor", sum := "dd37601ef768147b154a8ce2dbb2e0100af2ebd552390e6b91f1151c2c20d09e", func := "sheafer/sheaferlaw03.SpongeTexts", spec := "spongeTexts", unfollowed := true, recurses := true, named := ["sheafer/sponge.roundNumbers", "sheafer/sponge.turns"], apart := false, laid := [("sheafer/sponge.turns", laid_sheafer_sponge_turns), ("sheafer/sponge.roundNumbers", laid_sheafer_sponge_roundNumbers)], narrowed := true }
def SpongeTextsUptoSaid : Prop := spongeTextsUptoRow.holds Tryd.pinned (OpenSpec.upto spongeTextsSpec)

/-- 'sheaferlaw03.SpongeSoaks', WHERE WHAT IT READS IS OF BULK AT MOST 1048576: true; the input reads as it did. -/
def spongeSoaksUptoRow : OpenClaim := { program := "ythjmjccggkejhaadoor", sum := "dd37601ef768147b154a8ce2dbb2e0100af2ebd552390e6b91f1151c2c20d09e", func := "sheafer/sheaferlaw03.SpongeSoaks", spec := "spongeSoaks", unfollowed := true, recurses := true, named := ["sheafer/sponge.roundNumbers", "sheafer/sponge.turns"], apart := false, laid := [("sheafer/sponge.turns", laid_sheafer_sponge_turns), ("sheafer/sponge.roundNumbers", laid_sheafer_sponge_roundNumbers)], narrowed := true }
def SpongeSoaksUptoSaid : Prop := spongeSoaksUptoRow.holds Tryd.pinned (OpenSpec.upto spongeSoaksSpec)

/-- 'sheaferlaw03.SpongeLinear', WHERE WHAT IT READS IS OF BULK AT MOST 1048576: true; the input reads as it did. -/
def spongeLinearUptoRow : OpenClaim := { program := "ythjmjccggkejhaadoor", sum := "dd37601ef768147b154a8ce2dbb2e0100af2ebd552390e6b91f1151c2c20d09e", func := "sheafer/sheaferlaw03.SpongeLinear", spec := "spongeLinear", unfollowed := true, recurses := true, named := ["sheafer/sponge.roundNumbers", "sheafer/sponge.turns"], apart := false, laid := [("sheafer/sponge.turns", laid_sheafer_sponge_turns), ("sheafer/sponge.roundNumbers", laid_sheafer_sponge_roundNumbers)], narrowed := true }
def SpongeLinearUptoSaid : Prop := spongeLinearUptoRow.holds Tryd.pinned (OpenSpec.upto spongeLinearSpec)

/-- 'sheaferlaw03.SpongeRows', WHERE WHAT IT READS IS OF BULK AT MOST 1048576: true; the input reads as it did. -/
def spongeRowsUptoRow : OpenClaim := { program := "ythjmjccggkejhaadoor", sum := "dd37601ef768147b154a8ce2dbb2e0100af2ebd552390e6b91f1151c2c20d09e", func := "sheafer/sheaferlaw03.SpongeRows", spec := "spongeRows", unfollowed := true, recurses := true, named := ["sheafer/sponge.roundNumbers", "sheafer/sponge.turns"], apart := false, laid := [("sheafer/sponge.turns", laid_sheafer_sponge_turns), ("sheafer/sponge.roundNumbers", laid_sheafer_sponge_roundNumbers)], narrowed := true }
def SpongeRowsUptoSaid : Prop := spongeRowsUptoRow.holds Tryd.pinned (OpenSpec.upto spongeRowsSpec)

/-- 'sheaferlaw03.SpongePads', WHERE WHAT IT READS IS OF BULK AT MOST 1048576: true; the input reads as it did. -/
def spongePadsUptoRow : OpenClaim := { program := "ythjmjccggkejhaadoor", sum := "dd37601ef768147b154a8ce2dbb2e0100af2ebd552390e6b91f1151c2c20d09e", func := "sheafer/sheaferlaw03.SpongePads", spec := "spongePads", unfollowed := true, recurses := true, named := ["sheafer/sponge.roundNumbers", "sheafer/sponge.turns"], apart := false, laid := [("sheafer/sponge.turns", laid_sheafer_sponge_turns), ("sheafer/sponge.roundNumbers", laid_sheafer_sponge_roundNumbers)], narrowed := true }
def SpongePadsUptoSaid : Prop := spongePadsUptoRow.holds Tryd.pinned (OpenSpec.upto spongePadsSpec)

/-- 'sheaferlaw05.AddrMakes', WHERE WHAT IT READS IS OF BULK AT MOST 1048576: true; the input reads as it did. -/
def addrMakesUptoRow : OpenClaim := { program := "ythjmjccggkejhaadoor", sum := "dd37601ef768147b154a8ce2dbb2e0100af2ebd552390e6b91f1151c2c20d09e", func := "sheafer/sheaferlaw05.AddrMakes", spec := "addrMakes", inPlace := ["math/bits.Sub64"], unfollowed := true, recurses := true, named := ["sheafer/sponge.roundNumbers", "sheafer/sponge.turns"], apart := false, laid := [("sheafer/sponge.turns", laid_sheafer_sponge_turns), ("sheafer/sponge.roundNumbers", laid_sheafer_sponge_roundNumbers)], narrowed := true }
def AddrMakesUptoSaid : Prop := addrMakesUptoRow.holds Tryd.pinned (OpenSpec.upto addrMakesSpec)

end Rows
end Go.Proofs.YthjmjccggkejhaaDoor
