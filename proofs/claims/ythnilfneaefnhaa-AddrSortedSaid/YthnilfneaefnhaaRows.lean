/-
  No cell of these rows narrows 'for every input' (looked for: loops, veiled, ifaces, maps, wideKeys, modest, calm, conditions, laid).
  DERIVED. THE GIVEN ROWS OF THIS SEAT. 12 by the template 'for every input the law returns true; each argument reads behind the call as it read before'; 0 by the template 'total and deterministic' (their statements: YthnilfneaefnhaaTotals.lean).
  GIVEN WITH THE SEED: the statements are not yours to turn. If you find one false, say at which input.
  Laid BY PROGRAM, IN A SANDBOX (cutbox-rows.mjs): the forced cells as the released guide's own fill.sh prints them over the translation eb865406930e408e… (all of the seat's roots in one cut). By AI agents, Wed Nov 11 2026. No macro, syntax, notation, axiom, sorry.
-/
import Derived.Test.YthnilfneaefnhaaChecked
import GoSem.Claim
import GoSem.ClaimJoined
import GoSem.ClaimMapViews
import Derived.JoinedTies
import Derived.KernelRfl
namespace Go.Proofs.Ythnilfneaefnhaa
/- THE CELL 'sum', in the pinned program and in every row, IS THE sha256 OF THE DUMP (.gsa) THAT YthnilfneaefnhaaProg.lean LOADS. Nothing in Lean hashes anything: it is a label: what it is worth is what the hold of that sum in a sandbox is worth. -/
noncomputable def Try.pinned : Pinned := { name := "ythnilfneaefnhaa", sum := "eb865406930e408e93e9452136e250bc38050cbab7d14fbe7688a44edc08c0fd", checked := Try.checked }
namespace Rows
def none {H : Type} : Left H := { results := [], args := [] }

/-- 'sheaferlaw04.PackLays': WHATEVER THE INPUT: true; the input reads as it did. -/
def packLaysSpec : ChangeSpec := { name := "packLays", fn := fun _ => fun
  | [d] => { results := [.lit (.bool true)], args := [d] }
  | _ => none }
def packLaysRow : OpenClaim := { program := "ythnilfneaefnhaa", sum := "eb865406930e408e93e9452136e250bc38050cbab7d14fbe7688a44edc08c0fd", func := "sheafer/sheaferlaw04.PackLays", spec := "packLays", unfollowed := true, recurses := true, apart := false }
def PackLaysSaid : Prop := packLaysRow.holds Try.pinned (OpenSpec.ofChange packLaysSpec)

/-- ITS FALSE NEIGHBOUR: 'it returns false'. Refute it at one input. -/
def packLaysWrong : ChangeSpec := { name := "packLays", fn := fun _ => fun
  | [d] => { results := [.lit (.bool false)], args := [d] }
  | _ => none }
def PackLaysWrongFalsely : Prop := packLaysRow.holds Try.pinned (OpenSpec.ofChange packLaysWrong)

/-- 'sheaferlaw04.PackReads': WHATEVER THE INPUT: true; the input reads as it did. -/
def packReadsSpec : ChangeSpec := { name := "packReads", fn := fun _ => fun
  | [d1, d2] => { results := [.lit (.bool true)], args := [d1, d2] }
  | _ => none }
def packReadsRow : OpenClaim := { program := "ythnilfneaefnhaa", sum := "eb865406930e408e93e9452136e250bc38050cbab7d14fbe7688a44edc08c0fd", func := "sheafer/sheaferlaw04.PackReads", spec := "packReads", unfollowed := true, recurses := true, apart := false }
def PackReadsSaid : Prop := packReadsRow.holds Try.pinned (OpenSpec.ofChange packReadsSpec)

/-- ITS FALSE NEIGHBOUR: 'it returns false'. Refute it at one input. -/
def packReadsWrong : ChangeSpec := { name := "packReads", fn := fun _ => fun
  | [d1, d2] => { results := [.lit (.bool false)], args := [d1, d2] }
  | _ => none }
def PackReadsWrongFalsely : Prop := packReadsRow.holds Try.pinned (OpenSpec.ofChange packReadsWrong)

/-- 'sheaferlaw04.PackParts': WHATEVER THE INPUT: true; the input reads as it did. -/
def packPartsSpec : ChangeSpec := { name := "packParts", fn := fun _ => fun
  | [d1, d2] => { results := [.lit (.bool true)], args := [d1, d2] }
  | _ => none }
def packPartsRow : OpenClaim := { program := "ythnilfneaefnhaa", sum := "eb865406930e408e93e9452136e250bc38050cbab7d14fbe7688a44edc08c0fd", func := "sheafer/sheaferlaw04.PackParts", spec := "packParts", unfollowed := true, recurses := true, apart := false }
def PackPartsSaid : Prop := packPartsRow.holds Try.pinned (OpenSpec.ofChange packPartsSpec)

/-- ITS FALSE NEIGHBOUR: 'it returns false'. Refute it at one input. -/
def packPartsWrong : ChangeSpec := { name := "packParts", fn := fun _ => fun
  | [d1, d2] => { results := [.lit (.bool false)], args := [d1, d2] }
  | _ => none }
def PackPartsWrongFalsely : Prop := packPartsRow.holds Try.pinned (OpenSpec.ofChange packPartsWrong)

/-- 'sheaferlaw04.PackBack': WHATEVER THE INPUT: true; the input reads as it did. -/
def packBackSpec : ChangeSpec := { name := "packBack", fn := fun _ => fun
  | [d1, d2, d3] => { results := [.lit (.bool true)], args := [d1, d2, d3] }
  | _ => none }
def packBackRow : OpenClaim := { program := "ythnilfneaefnhaa", sum := "eb865406930e408e93e9452136e250bc38050cbab7d14fbe7688a44edc08c0fd", func := "sheafer/sheaferlaw04.PackBack", spec := "packBack", unfollowed := true, recurses := true, apart := false }
def PackBackSaid : Prop := packBackRow.holds Try.pinned (OpenSpec.ofChange packBackSpec)

/-- ITS FALSE NEIGHBOUR: 'it returns false'. Refute it at one input. -/
def packBackWrong : ChangeSpec := { name := "packBack", fn := fun _ => fun
  | [d1, d2, d3] => { results := [.lit (.bool false)], args := [d1, d2, d3] }
  | _ => none }
def PackBackWrongFalsely : Prop := packBackRow.holds Try.pinned (OpenSpec.ofChange packBackWrong)

/-- 'sheaferlaw04.PackApart': WHATEVER THE INPUT: true; the input reads as it did. -/
def packApartSpec : ChangeSpec := { name := "packApart", fn := fun _ => fun
  | [d1, d2] => { results := [.lit (.bool true)], args := [d1, d2] }
  | _ => none }
def packApartRow : OpenClaim := { program := "ythnilfneaefnhaa", sum := "eb865406930e408e93e9452136e250bc38050cbab7d14fbe7688a44edc08c0fd", func := "sheafer/sheaferlaw04.PackApart", spec := "packApart", unfollowed := true, recurses := true, apart := false }
def PackApartSaid : Prop := packApartRow.holds Try.pinned (OpenSpec.ofChange packApartSpec)

/-- ITS FALSE NEIGHBOUR: 'it returns false'. Refute it at one input. -/
def packApartWrong : ChangeSpec := { name := "packApart", fn := fun _ => fun
  | [d1, d2] => { results := [.lit (.bool false)], args := [d1, d2] }
  | _ => none }
def PackApartWrongFalsely : Prop := packApartRow.holds Try.pinned (OpenSpec.ofChange packApartWrong)

/-- 'sheaferlaw04.PackFlips': WHATEVER THE INPUT: true; the input reads as it did. -/
def packFlipsSpec : ChangeSpec := { name := "packFlips", fn := fun _ => fun
  | [d1, d2, d3] => { results := [.lit (.bool true)], args := [d1, d2, d3] }
  | _ => none }
def packFlipsRow : OpenClaim := { program := "ythnilfneaefnhaa", sum := "eb865406930e408e93e9452136e250bc38050cbab7d14fbe7688a44edc08c0fd", func := "sheafer/sheaferlaw04.PackFlips", spec := "packFlips", unfollowed := true, recurses := true, apart := false }
def PackFlipsSaid : Prop := packFlipsRow.holds Try.pinned (OpenSpec.ofChange packFlipsSpec)

/-- ITS FALSE NEIGHBOUR: 'it returns false'. Refute it at one input. -/
def packFlipsWrong : ChangeSpec := { name := "packFlips", fn := fun _ => fun
  | [d1, d2, d3] => { results := [.lit (.bool false)], args := [d1, d2, d3] }
  | _ => none }
def PackFlipsWrongFalsely : Prop := packFlipsRow.holds Try.pinned (OpenSpec.ofChange packFlipsWrong)

/-- 'sheaferlaw05.AddrTells': WHATEVER THE INPUT: true; the input reads as it did. -/
def addrTellsSpec : ChangeSpec := { name := "addrTells", fn := fun _ => fun
  | [d1, d2, d3] => { results := [.lit (.bool true)], args := [d1, d2, d3] }
  | _ => none }
def addrTellsRow : OpenClaim := { program := "ythnilfneaefnhaa", sum := "eb865406930e408e93e9452136e250bc38050cbab7d14fbe7688a44edc08c0fd", func := "sheafer/sheaferlaw05.AddrTells", spec := "addrTells", inPlace := ["math/bits.Sub64"], unfollowed := true, recurses := true, apart := false }
def AddrTellsSaid : Prop := addrTellsRow.holds Try.pinned (OpenSpec.ofChange addrTellsSpec)

/-- ITS FALSE NEIGHBOUR: 'it returns false'. Refute it at one input. -/
def addrTellsWrong : ChangeSpec := { name := "addrTells", fn := fun _ => fun
  | [d1, d2, d3] => { results := [.lit (.bool false)], args := [d1, d2, d3] }
  | _ => none }
def AddrTellsWrongFalsely : Prop := addrTellsRow.holds Try.pinned (OpenSpec.ofChange addrTellsWrong)

/-- 'sheaferlaw05.AddrNears': WHATEVER THE INPUT: true; the input reads as it did. -/
def addrNearsSpec : ChangeSpec := { name := "addrNears", fn := fun _ => fun
  | [d1, d2] => { results := [.lit (.bool true)], args := [d1, d2] }
  | _ => none }
def addrNearsRow : OpenClaim := { program := "ythnilfneaefnhaa", sum := "eb865406930e408e93e9452136e250bc38050cbab7d14fbe7688a44edc08c0fd", func := "sheafer/sheaferlaw05.AddrNears", spec := "addrNears", inPlace := ["math/bits.Sub64"], unfollowed := true, recurses := true, apart := false }
def AddrNearsSaid : Prop := addrNearsRow.holds Try.pinned (OpenSpec.ofChange addrNearsSpec)

/-- ITS FALSE NEIGHBOUR: 'it returns false'. Refute it at one input. -/
def addrNearsWrong : ChangeSpec := { name := "addrNears", fn := fun _ => fun
  | [d1, d2] => { results := [.lit (.bool false)], args := [d1, d2] }
  | _ => none }
def AddrNearsWrongFalsely : Prop := addrNearsRow.holds Try.pinned (OpenSpec.ofChange addrNearsWrong)

/-- 'sheaferlaw05.AddrSorts': WHATEVER THE INPUT: true; the input reads as it did. -/
def addrSortsSpec : ChangeSpec := { name := "addrSorts", fn := fun _ => fun
  | [d] => { results := [.lit (.bool true)], args := [d] }
  | _ => none }
def addrSortsRow : OpenClaim := { program := "ythnilfneaefnhaa", sum := "eb865406930e408e93e9452136e250bc38050cbab7d14fbe7688a44edc08c0fd", func := "sheafer/sheaferlaw05.AddrSorts", spec := "addrSorts", inPlace := ["math/bits.Sub64"], unfollowed := true, recurses := true, apart := false }
def AddrSortsSaid : Prop := addrSortsRow.holds Try.pinned (OpenSpec.ofChange addrSortsSpec)

/-- ITS FALSE NEIGHBOUR: 'it returns false'. Refute it at one input. -/
def addrSortsWrong : ChangeSpec := { name := "addrSorts", fn := fun _ => fun
  | [d] => { results := [.lit (.bool false)], args := [d] }
  | _ => none }
def AddrSortsWrongFalsely : Prop := addrSortsRow.holds Try.pinned (OpenSpec.ofChange addrSortsWrong)

/-- 'sheaferlaw05.AddrBack': WHATEVER THE INPUT: true; the input reads as it did. -/
def addrBackSpec : ChangeSpec := { name := "addrBack", fn := fun _ => fun
  | [d1, d2] => { results := [.lit (.bool true)], args := [d1, d2] }
  | _ => none }
def addrBackRow : OpenClaim := { program := "ythnilfneaefnhaa", sum := "eb865406930e408e93e9452136e250bc38050cbab7d14fbe7688a44edc08c0fd", func := "sheafer/sheaferlaw05.AddrBack", spec := "addrBack", inPlace := ["math/bits.Sub64"], unfollowed := true, recurses := true, apart := false }
def AddrBackSaid : Prop := addrBackRow.holds Try.pinned (OpenSpec.ofChange addrBackSpec)

/-- ITS FALSE NEIGHBOUR: 'it returns false'. Refute it at one input. -/
def addrBackWrong : ChangeSpec := { name := "addrBack", fn := fun _ => fun
  | [d1, d2] => { results := [.lit (.bool false)], args := [d1, d2] }
  | _ => none }
def AddrBackWrongFalsely : Prop := addrBackRow.holds Try.pinned (OpenSpec.ofChange addrBackWrong)

/-- 'sheaferlaw05.AddrReach': WHATEVER THE INPUT: true; the input reads as it did. -/
def addrReachSpec : ChangeSpec := { name := "addrReach", fn := fun _ => fun
  | [d1, d2] => { results := [.lit (.bool true)], args := [d1, d2] }
  | _ => none }
def addrReachRow : OpenClaim := { program := "ythnilfneaefnhaa", sum := "eb865406930e408e93e9452136e250bc38050cbab7d14fbe7688a44edc08c0fd", func := "sheafer/sheaferlaw05.AddrReach", spec := "addrReach", inPlace := ["math/bits.Sub64"], unfollowed := true, recurses := true, apart := false }
def AddrReachSaid : Prop := addrReachRow.holds Try.pinned (OpenSpec.ofChange addrReachSpec)

/-- ITS FALSE NEIGHBOUR: 'it returns false'. Refute it at one input. -/
def addrReachWrong : ChangeSpec := { name := "addrReach", fn := fun _ => fun
  | [d1, d2] => { results := [.lit (.bool false)], args := [d1, d2] }
  | _ => none }
def AddrReachWrongFalsely : Prop := addrReachRow.holds Try.pinned (OpenSpec.ofChange addrReachWrong)

/-- 'sheaferlaw05.AddrSorted': WHATEVER THE INPUT: true; the input reads as it did. -/
def addrSortedSpec : ChangeSpec := { name := "addrSorted", fn := fun _ => fun
  | [d1, d2] => { results := [.lit (.bool true)], args := [d1, d2] }
  | _ => none }
def addrSortedRow : OpenClaim := { program := "ythnilfneaefnhaa", sum := "eb865406930e408e93e9452136e250bc38050cbab7d14fbe7688a44edc08c0fd", func := "sheafer/sheaferlaw05.AddrSorted", spec := "addrSorted", inPlace := ["math/bits.Sub64"], unfollowed := true, recurses := true, apart := false }
def AddrSortedSaid : Prop := addrSortedRow.holds Try.pinned (OpenSpec.ofChange addrSortedSpec)

/-- ITS FALSE NEIGHBOUR: 'it returns false'. Refute it at one input. -/
def addrSortedWrong : ChangeSpec := { name := "addrSorted", fn := fun _ => fun
  | [d1, d2] => { results := [.lit (.bool false)], args := [d1, d2] }
  | _ => none }
def AddrSortedWrongFalsely : Prop := addrSortedRow.holds Try.pinned (OpenSpec.ofChange addrSortedWrong)

/- THE SECOND FORM. 'bulk': how many values and letters a reading holds, each counted each time it is reached (what is shared counts as often as it is met; a slice's spare places count too). A statement '..UptoSaid' is the law's where the arguments, and the package variables that the reading takes, are together of bulk at most 1048576: NARROWER than '..Said'. Prove '..Said' where nothing that the law and all that it calls make is longer than what came in: it says more and counts as full. Else prove '..UptoSaid'. A law counts once. -/
mutual
def uptoBulk {H : Type} : DataW H → Nat
  | .lit (.string bytes) => bytes.length + 1
  | .lit _ => 1
  | .nil => 1
  | .ptr d => uptoBulk d + 1
  | .slice elems spare => uptoBulkAll elems + uptoBulkAll spare + 1
  | .agg parts => uptoBulkAll parts + 1
  | .iface _ d => uptoBulk d + 1
  | .map entries => uptoBulkEntries entries + 1
  | .held _ => 1
def uptoBulkAll {H : Type} : List (DataW H) → Nat
  | [] => 0
  | d :: r => uptoBulk d + uptoBulkAll r
def uptoBulkEntries {H : Type} : List (Lit × DataW H) → Nat
  | [] => 0
  | x :: r => uptoBulkEntry x + uptoBulkEntries r
def uptoBulkEntry {H : Type} : Lit × DataW H → Nat
  | (.string bytes, d) => bytes.length + uptoBulk d + 1
  | (_, d) => uptoBulk d + 1
 end
def uptoSmall : (H : Type) → List (DataW H) → Bool := fun _ ds => decide (uptoBulkAll ds ≤ 1048576)
def OpenSpec.upto (s : _root_.Go.ChangeSpec) : _root_.Go.OpenSpec := { _root_.Go.OpenSpec.ofChange s with cond := some uptoSmall }

/-- 'sheaferlaw04.PackLays', WHERE WHAT IT READS IS OF BULK AT MOST 1048576: true; the input reads as it did. -/
def packLaysUptoRow : OpenClaim := { program := "ythnilfneaefnhaa", sum := "eb865406930e408e93e9452136e250bc38050cbab7d14fbe7688a44edc08c0fd", func := "sheafer/sheaferlaw04.PackLays", spec := "packLays", unfollowed := true, recurses := true, apart := false, narrowed := true }
def PackLaysUptoSaid : Prop := packLaysUptoRow.holds Try.pinned (OpenSpec.upto packLaysSpec)

/-- 'sheaferlaw04.PackReads', WHERE WHAT IT READS IS OF BULK AT MOST 1048576: true; the input reads as it did. -/
def packReadsUptoRow : OpenClaim := { program := "ythnilfneaefnhaa", sum := "eb865406930e408e93e9452136e250bc38050cbab7d14fbe7688a44edc08c0fd", func := "sheafer/sheaferlaw04.PackReads", spec := "packReads", unfollowed := true, recurses := true, apart := false, narrowed := true }
def PackReadsUptoSaid : Prop := packReadsUptoRow.holds Try.pinned (OpenSpec.upto packReadsSpec)

/-- 'sheaferlaw04.PackParts', WHERE WHAT IT READS IS OF BULK AT MOST 1048576: true; the input reads as it did. -/
def packPartsUptoRow : OpenClaim := { program := "ythnilfneaefnhaa", sum := "eb865406930e408e93e9452136e250bc38050cbab7d14fbe7688a44edc08c0fd", func := "sheafer/sheaferlaw04.PackParts", spec := "packParts", unfollowed := true, recurses := true, apart := false, narrowed := true }
def PackPartsUptoSaid : Prop := packPartsUptoRow.holds Try.pinned (OpenSpec.upto packPartsSpec)

/-- 'sheaferlaw04.PackBack', WHERE WHAT IT READS IS OF BULK AT MOST 1048576: true; the input reads as it did. -/
def packBackUptoRow : OpenClaim := { program := "ythnilfneaefnhaa", sum := "eb865406930e408e93e9452136e250bc38050cbab7d14fbe7688a44edc08c0fd", func := "sheafer/sheaferlaw04.PackBack", spec := "packBack", unfollowed := true, recurses := true, apart := false, narrowed := true }
def PackBackUptoSaid : Prop := packBackUptoRow.holds Try.pinned (OpenSpec.upto packBackSpec)

/-- 'sheaferlaw04.PackApart', WHERE WHAT IT READS IS OF BULK AT MOST 1048576: true; the input reads as it did. -/
def packApartUptoRow : OpenClaim := { program := "ythnilfneaefnhaa", sum := "eb865406930e408e93e9452136e250bc38050cbab7d14fbe7688a44edc08c0fd", func := "sheafer/sheaferlaw04.PackApart", spec := "packApart", unfollowed := true, recurses := true, apart := false, narrowed := true }
def PackApartUptoSaid : Prop := packApartUptoRow.holds Try.pinned (OpenSpec.upto packApartSpec)

/-- 'sheaferlaw04.PackFlips', WHERE WHAT IT READS IS OF BULK AT MOST 1048576: true; the input reads as it did. -/
def packFlipsUptoRow : OpenClaim := { program := "ythnilfneaefnhaa", sum := "eb865406930e408e93e9452136e250bc38050cbab7d14fbe7688a44edc08c0fd", func := "sheafer/sheaferlaw04.PackFlips", spec := "packFlips", unfollowed := true, recurses := true, apart := false, narrowed := true }
def PackFlipsUptoSaid : Prop := packFlipsUptoRow.holds Try.pinned (OpenSpec.upto packFlipsSpec)

/-- 'sheaferlaw05.AddrTells', WHERE WHAT IT READS IS OF BULK AT MOST 1048576: true; the input reads as it did. -/
def addrTellsUptoRow : OpenClaim := { program := "ythnilfneaefnhaa", sum := "eb865406930e408e93e9452136e250bc38050cbab7d14fbe7688a44edc08c0fd", func := "sheafer/sheaferlaw05.AddrTells", spec := "addrTells", inPlace := ["math/bits.Sub64"], unfollowed := true, recurses := true, apart := false, narrowed := true }
def AddrTellsUptoSaid : Prop := addrTellsUptoRow.holds Try.pinned (OpenSpec.upto addrTellsSpec)

/-- 'sheaferlaw05.AddrNears', WHERE WHAT IT READS IS OF BULK AT MOST 1048576: true; the input reads as it did. -/
def addrNearsUptoRow : OpenClaim := { program := "ythnilfneaefnhaa", sum := "eb865406930e408e93e9452136e250bc38050cbab7d14fbe7688a44edc08c0fd", func := "sheafer/sheaferlaw05.AddrNears", spec := "addrNears", inPlace := ["math/bits.Sub64"], unfollowed := true, recurses := true, apart := false, narrowed := true }
def AddrNearsUptoSaid : Prop := addrNearsUptoRow.holds Try.pinned (OpenSpec.upto addrNearsSpec)

/-- 'sheaferlaw05.AddrSorts', WHERE WHAT IT READS IS OF BULK AT MOST 1048576: true; the input reads as it did. -/
def addrSortsUptoRow : OpenClaim := { program := "ythnilfneaefnhaa", sum := "eb865406930e408e93e9452136e250bc38050cbab7d14fbe7688a44edc08c0fd", func := "sheafer/sheaferlaw05.AddrSorts", spec := "addrSorts", inPlace := ["math/bits.Sub64"], unfollowed := true, recurses := true, apart := false, narrowed := true }
def AddrSortsUptoSaid : Prop := addrSortsUptoRow.holds Try.pinned (OpenSpec.upto addrSortsSpec)

/-- 'sheaferlaw05.AddrBack', WHERE WHAT IT READS IS OF BULK AT MOST 1048576: true; the input reads as it did. -/
def addrBackUptoRow : OpenClaim := { program := "ythnilfneaefnhaa", sum := "eb865406930e408e93e9452136e250bc38050cbab7d14fbe7688a44edc08c0fd", func := "sheafer/sheaferlaw05.AddrBack", spec := "addrBack", inPlace := ["math/bits.Sub64"], unfollowed := true, recurses := true, apart := false, narrowed := true }
def AddrBackUptoSaid : Prop := addrBackUptoRow.holds Try.pinned (OpenSpec.upto addrBackSpec)

/-- 'sheaferlaw05.AddrReach', WHERE WHAT IT READS IS OF BULK AT MOST 1048576: true; the input reads as it did. -/
def addrReachUptoRow : OpenClaim := { program := "ythnilfneaefnhaa", sum := "eb865406930e408e93e9452136e250bc38050cbab7d14fbe7688a44edc08c0fd", func := "sheafer/sheaferlaw05.AddrReach", spec := "addrReach", inPlace := ["math/bits.Sub64"], unfollowed := true, recurses := true, apart := false, narrowed := true }
def AddrReachUptoSaid : Prop := addrReachUptoRow.holds Try.pinned (OpenSpec.upto addrReachSpec)

/-- 'sheaferlaw05.AddrSorted', WHERE WHAT IT READS IS OF BULK AT MOST 1048576: true; the input reads as it did. -/
def addrSortedUptoRow : OpenClaim := { program := "ythnilfneaefnhaa", sum := "eb865406930e408e93e9452136e250bc38050cbab7d14fbe7688a44edc08c0fd", func := "sheafer/sheaferlaw05.AddrSorted", spec := "addrSorted", inPlace := ["math/bits.Sub64"], unfollowed := true, recurses := true, apart := false, narrowed := true }
def AddrSortedUptoSaid : Prop := addrSortedUptoRow.holds Try.pinned (OpenSpec.upto addrSortedSpec)

end Rows
end Go.Proofs.Ythnilfneaefnhaa
