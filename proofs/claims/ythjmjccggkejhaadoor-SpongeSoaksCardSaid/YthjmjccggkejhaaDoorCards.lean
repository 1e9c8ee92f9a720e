/-
  DERIVED. GIVEN WITH THE SEED: THE CARDS: each row of YthjmjccggkejhaaDoorRows.lean that lists a variable, with what it lists TIED to the program's text (the seventh form; the later family's looks); each row that meets fmt, with fmt's text TOLD by the authors' own Lean function (tested against real Go, not proved from fmt's source: count such statements apart). THE CARD IS WHAT COUNTS. Prove the row's statement (the work); the ties are given (YthjmjccggkejhaaDoorTie.lean); close each card by the builder's one call (the guide's Derived/Test/ToyasCard.lean, 'card_holds'). Laid BY PROGRAM, IN A SANDBOX (cutbox-door.mjs). By AI agents, Wed Nov 11 2026. No macro, syntax, notation, axiom, sorry.
-/
import Derived.Test.YthjmjccggkejhaaDoorRows
import GoSem.ClaimSeven
namespace Go.Proofs.YthjmjccggkejhaaDoor
namespace Rows

/-- THE TIED CARD OF 'sheaferlaw03.SpongeSums'. -/
def spongeSumsCard : Claim7 := { stood := { row := spongeSumsRow, standIns := [], harness := (true, "6022e3c362c65ddb5e4c18bedef3ddafca15e789426a41385729bbd240e05e94"), looks := false }, kinds := [], alts := [], laidByText := true, laidKinds := [.data, .data], laidTests := true, laidLooks := .later }
def SpongeSumsCardSaid : Prop := Claim7.holds Tryd.pinned (.plain (OpenSpec.ofChange spongeSumsSpec)) spongeSumsCard

/-- THE TIED CARD OF 'sheaferlaw03.SpongeSteps'. -/
def spongeStepsCard : Claim7 := { stood := { row := spongeStepsRow, standIns := [], harness := (true, "6022e3c362c65ddb5e4c18bedef3ddafca15e789426a41385729bbd240e05e94"), looks := false }, kinds := [], alts := [], laidByText := true, laidKinds := [.data, .data], laidTests := true, laidLooks := .later }
def SpongeStepsCardSaid : Prop := Claim7.holds Tryd.pinned (.plain (OpenSpec.ofChange spongeStepsSpec)) spongeStepsCard

/-- THE TIED CARD OF 'sheaferlaw03.SpongeTexts'. -/
def spongeTextsCard : Claim7 := { stood := { row := spongeTextsRow, standIns := [], harness := (true, "6022e3c362c65ddb5e4c18bedef3ddafca15e789426a41385729bbd240e05e94"), looks := false }, kinds := [], alts := [], laidByText := true, laidKinds := [.data, .data], laidTests := true, laidLooks := .later }
def SpongeTextsCardSaid : Prop := Claim7.holds Tryd.pinned (.plain (OpenSpec.ofChange spongeTextsSpec)) spongeTextsCard

/-- THE TIED CARD OF 'sheaferlaw03.SpongeSoaks'. -/
def spongeSoaksCard : Claim7 := { stood := { row := spongeSoaksRow, standIns := [], harness := (true, "6022e3c362c65ddb5e4c18bedef3ddafca15e789426a41385729bbd240e05e94"), looks := false }, kinds := [], alts := [], laidByText := true, laidKinds := [.data, .data], laidTests := true, laidLooks := .later }
def SpongeSoaksCardSaid : Prop := Claim7.holds Tryd.pinned (.plain (OpenSpec.ofChange spongeSoaksSpec)) spongeSoaksCard

/-- THE TIED CARD OF 'sheaferlaw03.SpongeLinear'. -/
def spongeLinearCard : Claim7 := { stood := { row := spongeLinearRow, standIns := [], harness := (true, "6022e3c362c65ddb5e4c18bedef3ddafca15e789426a41385729bbd240e05e94"), looks := false }, kinds := [], alts := [], laidByText := true, laidKinds := [.data, .data], laidTests := true, laidLooks := .later }
def SpongeLinearCardSaid : Prop := Claim7.holds Tryd.pinned (.plain (OpenSpec.ofChange spongeLinearSpec)) spongeLinearCard

/-- THE TIED CARD OF 'sheaferlaw03.SpongeRows'. -/
def spongeRowsCard : Claim7 := { stood := { row := spongeRowsRow, standIns := [], harness := (true, "6022e3c362c65ddb5e4c18bedef3ddafca15e789426a41385729bbd240e05e94"), looks := false }, kinds := [], alts := [], laidByText := true, laidKinds := [.data, .data], laidTests := true, laidLooks := .later }
def SpongeRowsCardSaid : Prop := Claim7.holds Tryd.pinned (.plain (OpenSpec.ofChange spongeRowsSpec)) spongeRowsCard

/-- THE TIED CARD OF 'sheaferlaw03.SpongePads'. -/
def spongePadsCard : Claim7 := { stood := { row := spongePadsRow, standIns := [], harness := (true, "6022e3c362c65ddb5e4c18bedef3ddafca15e789426a41385729bbd240e05e94"), looks := false }, kinds := [], alts := [], laidByText := true, laidKinds := [.data, .data], laidTests := true, laidLooks := .later }
def SpongePadsCardSaid : Prop := Claim7.holds Tryd.pinned (.plain (OpenSpec.ofChange spongePadsSpec)) spongePadsCard

/-- THE TIED CARD OF 'sheaferlaw05.AddrMakes'. -/
def addrMakesCard : Claim7 := { stood := { row := addrMakesRow, standIns := [], harness := (true, "6022e3c362c65ddb5e4c18bedef3ddafca15e789426a41385729bbd240e05e94"), looks := false }, kinds := [], alts := [], laidByText := true, laidKinds := [.data, .data], laidTests := true, laidLooks := .later }
def AddrMakesCardSaid : Prop := Claim7.holds Tryd.pinned (.plain (OpenSpec.ofChange addrMakesSpec)) addrMakesCard

/-- THE SECOND FORM's CARD OF 'sheaferlaw03.SpongeSums'. -/
def spongeSumsUptoCard : Claim7 := { stood := { row := spongeSumsUptoRow, standIns := [], harness := (true, "6022e3c362c65ddb5e4c18bedef3ddafca15e789426a41385729bbd240e05e94"), looks := false }, kinds := [], alts := [], laidByText := true, laidKinds := [.data, .data], laidTests := true, laidLooks := .later }
def SpongeSumsUptoCardSaid : Prop := Claim7.holds Tryd.pinned (.plain (OpenSpec.upto spongeSumsSpec)) spongeSumsUptoCard

/-- THE SECOND FORM's CARD OF 'sheaferlaw03.SpongeSteps'. -/
def spongeStepsUptoCard : Claim7 := { stood := { row := spongeStepsUptoRow, standIns := [], harness := (true, "6022e3c362c65ddb5e4c18bedef3ddafca15e789426a41385729bbd240e05e94"), looks := false }, kinds := [], alts := [], laidByText := true, laidKinds := [.data, .data], laidTests := true, laidLooks := .later }
def SpongeStepsUptoCardSaid : Prop := Claim7.holds Tryd.pinned (.plain (OpenSpec.upto spongeStepsSpec)) spongeStepsUptoCard

/-- THE SECOND FORM's CARD OF 'sheaferlaw03.SpongeTexts'. -/
def spongeTextsUptoCard : Claim7 := { stood := { row := spongeTextsUptoRow, standIns := [], harness := (true, "6022e3c362c65ddb5e4c18bedef3ddafca15e789426a41385729bbd240e05e94"), looks := false }, kinds := [], alts := [], laidByText := true, laidKinds := [.data, .data], laidTests := true, laidLooks := .later }
def SpongeTextsUptoCardSaid : Prop := Claim7.holds Tryd.pinned (.plain (OpenSpec.upto spongeTextsSpec)) spongeTextsUptoCard

/-- THE SECOND FORM's CARD OF 'sheaferlaw03.SpongeSoaks'. -/
def spongeSoaksUptoCard : Claim7 := { stood := { row := spongeSoaksUptoRow, standIns := [], harness := (true, "6022e3c362c65ddb5e4c18bedef3ddafca15e789426a41385729bbd240e05e94"), looks := false }, kinds := [], alts := [], laidByText := true, laidKinds := [.data, .data], laidTests := true, laidLooks := .later }
def SpongeSoaksUptoCardSaid : Prop := Claim7.holds Tryd.pinned (.plain (OpenSpec.upto spongeSoaksSpec)) spongeSoaksUptoCard

/-- THE SECOND FORM's CARD OF 'sheaferlaw03.SpongeLinear'. -/
def spongeLinearUptoCard : Claim7 := { stood := { row := spongeLinearUptoRow, standIns := [], harness := (true, "6022e3c362c65ddb5e4c18bedef3ddafca15e789426a41385729bbd240e05e94"), looks := false }, kinds := [], alts := [], laidByText := true, laidKinds := [.data, .data], laidTests := true, laidLooks := .later }
def SpongeLinearUptoCardSaid : Prop := Claim7.holds Tryd.pinned (.plain (OpenSpec.upto spongeLinearSpec)) spongeLinearUptoCard

/-- THE SECOND FORM's CARD OF 'sheaferlaw03.SpongeRows'. -/
def spongeRowsUptoCard : Claim7 := { stood := { row := spongeRowsUptoRow, standIns := [], harness := (true, "6022e3c362c65ddb5e4c18bedef3ddafca15e789426a41385729bbd240e05e94"), looks := false }, kinds := [], alts := [], laidByText := true, laidKinds := [.data, .data], laidTests := true, laidLooks := .later }
def SpongeRowsUptoCardSaid : Prop := Claim7.holds Tryd.pinned (.plain (OpenSpec.upto spongeRowsSpec)) spongeRowsUptoCard

/-- THE SECOND FORM's CARD OF 'sheaferlaw03.SpongePads'. -/
def spongePadsUptoCard : Claim7 := { stood := { row := spongePadsUptoRow, standIns := [], harness := (true, "6022e3c362c65ddb5e4c18bedef3ddafca15e789426a41385729bbd240e05e94"), looks := false }, kinds := [], alts := [], laidByText := true, laidKinds := [.data, .data], laidTests := true, laidLooks := .later }
def SpongePadsUptoCardSaid : Prop := Claim7.holds Tryd.pinned (.plain (OpenSpec.upto spongePadsSpec)) spongePadsUptoCard

/-- THE SECOND FORM's CARD OF 'sheaferlaw05.AddrMakes'. -/
def addrMakesUptoCard : Claim7 := { stood := { row := addrMakesUptoRow, standIns := [], harness := (true, "6022e3c362c65ddb5e4c18bedef3ddafca15e789426a41385729bbd240e05e94"), looks := false }, kinds := [], alts := [], laidByText := true, laidKinds := [.data, .data], laidTests := true, laidLooks := .later }
def AddrMakesUptoCardSaid : Prop := Claim7.holds Tryd.pinned (.plain (OpenSpec.upto addrMakesSpec)) addrMakesUptoCard
end Rows
end Go.Proofs.YthjmjccggkejhaaDoor
