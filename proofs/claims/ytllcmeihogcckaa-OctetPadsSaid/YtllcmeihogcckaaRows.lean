/-
  No cell of these rows narrows 'for every input' (looked for: loops, veiled, ifaces, maps, wideKeys, modest, calm, conditions, laid).
  DERIVED. THE GIVEN ROWS OF THIS SEAT. 7 by the template 'for every input the law returns true; each argument reads behind the call as it read before'; 0 by the template 'total and deterministic' (their statements: YtllcmeihogcckaaTotals.lean).
  GIVEN WITH THE SEED: the statements are not yours to turn. If you find one false, say at which input.
  Laid BY PROGRAM, IN A SANDBOX (cutbox-rows.mjs): the forced cells as the released guide's own fill.sh prints them over the translation bb8ee42ad6d8cf52… (all of the seat's roots in one cut). By AI agents, Wed Nov 11 2026. No macro, syntax, notation, axiom, sorry.
-/
import Derived.Test.YtllcmeihogcckaaChecked
import GoSem.Claim
import GoSem.ClaimJoined
import GoSem.ClaimMapViews
import Derived.JoinedTies
import Derived.KernelRfl
namespace Go.Proofs.Ytllcmeihogcckaa
/- THE CELL 'sum', in the pinned program and in every row, IS THE sha256 OF THE DUMP (.gsa) THAT YtllcmeihogcckaaProg.lean LOADS. Nothing in Lean hashes anything: it is a label: what it is worth is what the hold of that sum in a sandbox is worth. -/
noncomputable def Try.pinned : Pinned := { name := "ytllcmeihogcckaa", sum := "bb8ee42ad6d8cf526931e796d25560f66e0aecf4b353cac2c8610729aa3821ac", checked := Try.checked }
namespace Rows
def none {H : Type} : Left H := { results := [], args := [] }

/-- 'sheaferlaw01.OctetWindows': WHATEVER THE INPUT: true; the input reads as it did. -/
def octetWindowsSpec : ChangeSpec := { name := "octetWindows", fn := fun _ => fun
  | [d1, d2] => { results := [.lit (.bool true)], args := [d1, d2] }
  | _ => none }
def octetWindowsRow : OpenClaim := { program := "ytllcmeihogcckaa", sum := "bb8ee42ad6d8cf526931e796d25560f66e0aecf4b353cac2c8610729aa3821ac", func := "sheafer/sheaferlaw01.OctetWindows", spec := "octetWindows", unfollowed := true, recurses := true, apart := false }
def OctetWindowsSaid : Prop := octetWindowsRow.holds Try.pinned (OpenSpec.ofChange octetWindowsSpec)

/-- ITS FALSE NEIGHBOUR: 'it returns false'. Refute it at one input. -/
def octetWindowsWrong : ChangeSpec := { name := "octetWindows", fn := fun _ => fun
  | [d1, d2] => { results := [.lit (.bool false)], args := [d1, d2] }
  | _ => none }
def OctetWindowsWrongFalsely : Prop := octetWindowsRow.holds Try.pinned (OpenSpec.ofChange octetWindowsWrong)

/-- 'sheaferlaw01.OctetPads': WHATEVER THE INPUT: true; the input reads as it did. -/
def octetPadsSpec : ChangeSpec := { name := "octetPads", fn := fun _ => fun
  | [d1, d2] => { results := [.lit (.bool true)], args := [d1, d2] }
  | _ => none }
def octetPadsRow : OpenClaim := { program := "ytllcmeihogcckaa", sum := "bb8ee42ad6d8cf526931e796d25560f66e0aecf4b353cac2c8610729aa3821ac", func := "sheafer/sheaferlaw01.OctetPads", spec := "octetPads", unfollowed := true, recurses := true, apart := false }
def OctetPadsSaid : Prop := octetPadsRow.holds Try.pinned (OpenSpec.ofChange octetPadsSpec)

/-- ITS FALSE NEIGHBOUR: 'it returns false'. Refute it at one input. -/
def octetPadsWrong : ChangeSpec := { name := "octetPads", fn := fun _ => fun
  | [d1, d2] => { results := [.lit (.bool false)], args := [d1, d2] }
  | _ => none }
def OctetPadsWrongFalsely : Prop := octetPadsRow.holds Try.pinned (OpenSpec.ofChange octetPadsWrong)

/-- 'sheaferlaw01.OctetNumbers': WHATEVER THE INPUT: true; the input reads as it did. -/
def octetNumbersSpec : ChangeSpec := { name := "octetNumbers", fn := fun _ => fun
  | [d1, d2] => { results := [.lit (.bool true)], args := [d1, d2] }
  | _ => none }
def octetNumbersRow : OpenClaim := { program := "ytllcmeihogcckaa", sum := "bb8ee42ad6d8cf526931e796d25560f66e0aecf4b353cac2c8610729aa3821ac", func := "sheafer/sheaferlaw01.OctetNumbers", spec := "octetNumbers", unfollowed := true, recurses := true, apart := false }
def OctetNumbersSaid : Prop := octetNumbersRow.holds Try.pinned (OpenSpec.ofChange octetNumbersSpec)

/-- ITS FALSE NEIGHBOUR: 'it returns false'. Refute it at one input. -/
def octetNumbersWrong : ChangeSpec := { name := "octetNumbers", fn := fun _ => fun
  | [d1, d2] => { results := [.lit (.bool false)], args := [d1, d2] }
  | _ => none }
def OctetNumbersWrongFalsely : Prop := octetNumbersRow.holds Try.pinned (OpenSpec.ofChange octetNumbersWrong)

/-- 'sheaferlaw01.OctetShows': WHATEVER THE INPUT: true; the input reads as it did. -/
def octetShowsSpec : ChangeSpec := { name := "octetShows", fn := fun _ => fun
  | [d1, d2, d3] => { results := [.lit (.bool true)], args := [d1, d2, d3] }
  | _ => none }
def octetShowsRow : OpenClaim := { program := "ytllcmeihogcckaa", sum := "bb8ee42ad6d8cf526931e796d25560f66e0aecf4b353cac2c8610729aa3821ac", func := "sheafer/sheaferlaw01.OctetShows", spec := "octetShows", unfollowed := true, recurses := true, apart := false }
def OctetShowsSaid : Prop := octetShowsRow.holds Try.pinned (OpenSpec.ofChange octetShowsSpec)

/-- ITS FALSE NEIGHBOUR: 'it returns false'. Refute it at one input. -/
def octetShowsWrong : ChangeSpec := { name := "octetShows", fn := fun _ => fun
  | [d1, d2, d3] => { results := [.lit (.bool false)], args := [d1, d2, d3] }
  | _ => none }
def OctetShowsWrongFalsely : Prop := octetShowsRow.holds Try.pinned (OpenSpec.ofChange octetShowsWrong)

/-- 'sheaferlaw01.OctetSides': WHATEVER THE INPUT: true; the input reads as it did. -/
def octetSidesSpec : ChangeSpec := { name := "octetSides", fn := fun _ => fun
  | [d1, d2, d3] => { results := [.lit (.bool true)], args := [d1, d2, d3] }
  | _ => none }
def octetSidesRow : OpenClaim := { program := "ytllcmeihogcckaa", sum := "bb8ee42ad6d8cf526931e796d25560f66e0aecf4b353cac2c8610729aa3821ac", func := "sheafer/sheaferlaw01.OctetSides", spec := "octetSides", unfollowed := true, recurses := true, apart := false }
def OctetSidesSaid : Prop := octetSidesRow.holds Try.pinned (OpenSpec.ofChange octetSidesSpec)

/-- ITS FALSE NEIGHBOUR: 'it returns false'. Refute it at one input. -/
def octetSidesWrong : ChangeSpec := { name := "octetSides", fn := fun _ => fun
  | [d1, d2, d3] => { results := [.lit (.bool false)], args := [d1, d2, d3] }
  | _ => none }
def OctetSidesWrongFalsely : Prop := octetSidesRow.holds Try.pinned (OpenSpec.ofChange octetSidesWrong)

/-- 'sheaferlaw01.OctetKeeps': WHATEVER THE INPUT: true; the input reads as it did. -/
def octetKeepsSpec : ChangeSpec := { name := "octetKeeps", fn := fun _ => fun
  | [d1, d2, d3] => { results := [.lit (.bool true)], args := [d1, d2, d3] }
  | _ => none }
def octetKeepsRow : OpenClaim := { program := "ytllcmeihogcckaa", sum := "bb8ee42ad6d8cf526931e796d25560f66e0aecf4b353cac2c8610729aa3821ac", func := "sheafer/sheaferlaw01.OctetKeeps", spec := "octetKeeps", unfollowed := true, recurses := true, apart := false }
def OctetKeepsSaid : Prop := octetKeepsRow.holds Try.pinned (OpenSpec.ofChange octetKeepsSpec)

/-- ITS FALSE NEIGHBOUR: 'it returns false'. Refute it at one input. -/
def octetKeepsWrong : ChangeSpec := { name := "octetKeeps", fn := fun _ => fun
  | [d1, d2, d3] => { results := [.lit (.bool false)], args := [d1, d2, d3] }
  | _ => none }
def OctetKeepsWrongFalsely : Prop := octetKeepsRow.holds Try.pinned (OpenSpec.ofChange octetKeepsWrong)

/-- 'sheaferlaw01.OctetCounts': WHATEVER THE INPUT: true; the input reads as it did. -/
def octetCountsSpec : ChangeSpec := { name := "octetCounts", fn := fun _ => fun
  | [d1, d2] => { results := [.lit (.bool true)], args := [d1, d2] }
  | _ => none }
def octetCountsRow : OpenClaim := { program := "ytllcmeihogcckaa", sum := "bb8ee42ad6d8cf526931e796d25560f66e0aecf4b353cac2c8610729aa3821ac", func := "sheafer/sheaferlaw01.OctetCounts", spec := "octetCounts", unfollowed := true, recurses := true, apart := false }
def OctetCountsSaid : Prop := octetCountsRow.holds Try.pinned (OpenSpec.ofChange octetCountsSpec)

/-- ITS FALSE NEIGHBOUR: 'it returns false'. Refute it at one input. -/
def octetCountsWrong : ChangeSpec := { name := "octetCounts", fn := fun _ => fun
  | [d1, d2] => { results := [.lit (.bool false)], args := [d1, d2] }
  | _ => none }
def OctetCountsWrongFalsely : Prop := octetCountsRow.holds Try.pinned (OpenSpec.ofChange octetCountsWrong)

/- THE SECOND FORM. 'bulk': how many values and letters a reading holds, each counted each time it is reached (what is shared counts as often as it is met; a slice's spare places count too). A statement '..UptoSaid' is the law's where the arguments, and the package variables that the reading takes, are together of bulk at most 1048576: NARROWER than '..Said'. Prove '..Said' where nothing that the law and all that it calls make is longer than what came in: it says more and counts as full. Else prove '..UptoSaid'. A law counts once. -/
mutual
def uptoBulk {H : Type} : DataW H → Nat
  | .lit (.string bytes) => bytes.length + 1
  | .lit _ => 1
  | .nil => 1
  | .ptr d => uptoBulk d + 1
  | .slice elems spare => uptoBulkAll elems + uptoBulkAll spare + 1
  | .agg parts => uptoBulkAll parts + 1
  | .iface _ d => uptoBulk d + 1
  | .map entries => uptoBulkEntries entries + 1
  | .held _ => 1
def uptoBulkAll {H : Type} : List (DataW H) → Nat
  | [] => 0
  | d :: r => uptoBulk d + uptoBulkAll r
def uptoBulkEntries {H : Type} : List (Lit × DataW H) → Nat
  | [] => 0
  | x :: r => uptoBulkEntry x + uptoBulkEntries r
def uptoBulkEntry {H : Type} : Lit × DataW H → Nat
  | (.string bytes, d) => bytes.length + uptoBulk d + 1
  | (_, d) => uptoBulk d + 1
 end
def uptoSmall : (H : Type) → List (DataW H) → Bool := fun _ ds => decide (uptoBulkAll ds ≤ 1048576)
def OpenSpec.upto (s : _root_.Go.ChangeSpec) : _root_.Go.OpenSpec := { _root_.Go.OpenSpec.ofChange s with cond := some uptoSmall }

/-- 'sheaferlaw01.OctetWindows', WHERE WHAT IT READS IS OF BULK AT MOST 1048576: true; the input reads as it did. -/
def octetWindowsUptoRow : OpenClaim := { program := "ytllcmeihogcckaa", sum := "bb8ee42ad6d8cf526931e796d25560f66e0aecf4b353cac2c8610729aa3821ac", func := "sheafer/sheaferlaw01.OctetWindows", spec := "octetWindows", unfollowed := true, recurses := true, apart := false, narrowed := true }
def OctetWindowsUptoSaid : Prop := octetWindowsUptoRow.holds Try.pinned (OpenSpec.upto octetWindowsSpec)

/-- 'sheaferlaw01.OctetPads', WHERE WHAT IT READS IS OF BULK AT MOST 1048576: true; the input reads as it did. -/
def octetPadsUptoRow : OpenClaim := { program := "ytllcmeihogcckaa", sum := "bb8ee42ad6d8cf526931e796d25560f66e0aecf4b353cac2c8610729aa3821ac", func := "sheafer/sheaferlaw01.OctetPads", spec := "octetPads", unfollowed := true, recurses := true, apart := false, narrowed := true }
def OctetPadsUptoSaid : Prop := octetPadsUptoRow.holds Try.pinned (OpenSpec.upto octetPadsSpec)

/-- 'sheaferlaw01.OctetNumbers', WHERE WHAT IT READS IS OF BULK AT MOST 1048576: true; the input reads as it did. -/
def octetNumbersUptoRow : OpenClaim := { program := "ytllcmeihogcckaa", sum := "bb8ee42ad6d8cf526931e796d25560f66e0aecf4b353cac2c8610729aa3821ac", func := "sheafer/sheaferlaw01.OctetNumbers", spec := "octetNumbers", unfollowed := true, recurses := true, apart := false, narrowed := true }
def OctetNumbersUptoSaid : Prop := octetNumbersUptoRow.holds Try.pinned (OpenSpec.upto octetNumbersSpec)

/-- 'sheaferlaw01.OctetShows', WHERE WHAT IT READS IS OF BULK AT MOST 1048576: true; the input reads as it did. -/
def octetShowsUptoRow : OpenClaim := { program := "ytllcmeihogcckaa", sum := "bb8ee42ad6d8cf526931e796d25560f66e0aecf4b353cac2c8610729aa3821ac", func := "sheafer/sheaferlaw01.OctetShows", spec := "octetShows", unfollowed := true, recurses := true, apart := false, narrowed := true }
def OctetShowsUptoSaid : Prop := octetShowsUptoRow.holds Try.pinned (OpenSpec.upto octetShowsSpec)

/-- 'sheaferlaw01.OctetSides', WHERE WHAT IT READS IS OF BULK AT MOST 1048576: true; the input reads as it did. -/
def octetSidesUptoRow : OpenClaim := { program := "ytllcmeihogcckaa", sum := "bb8ee42ad6d8cf526931e796d25560f66e0aecf4b353cac2c8610729aa3821ac", func := "sheafer/sheaferlaw01.OctetSides", spec := "octetSides", unfollowed := true, recurses := true, apart := false, narrowed := true }
def OctetSidesUptoSaid : Prop := octetSidesUptoRow.holds Try.pinned (OpenSpec.upto octetSidesSpec)

/-- 'sheaferlaw01.OctetKeeps', WHERE WHAT IT READS IS OF BULK AT MOST 1048576: true; the input reads as it did. -/
def octetKeepsUptoRow : OpenClaim := { program := "ytllcmeihogcckaa", sum := "bb8ee42ad6d8cf526931e796d25560f66e0aecf4b353cac2c8610729aa3821ac", func := "sheafer/sheaferlaw01.OctetKeeps", spec := "octetKeeps", unfollowed := true, recurses := true, apart := false, narrowed := true }
def OctetKeepsUptoSaid : Prop := octetKeepsUptoRow.holds Try.pinned (OpenSpec.upto octetKeepsSpec)

/-- 'sheaferlaw01.OctetCounts', WHERE WHAT IT READS IS OF BULK AT MOST 1048576: true; the input reads as it did. -/
def octetCountsUptoRow : OpenClaim := { program := "ytllcmeihogcckaa", sum := "bb8ee42ad6d8cf526931e796d25560f66e0aecf4b353cac2c8610729aa3821ac", func := "sheafer/sheaferlaw01.OctetCounts", spec := "octetCounts", unfollowed := true, recurses := true, apart := false, narrowed := true }
def OctetCountsUptoSaid : Prop := octetCountsUptoRow.holds Try.pinned (OpenSpec.upto octetCountsSpec)

end Rows
end Go.Proofs.Ytllcmeihogcckaa
