/-
  DERIVED. GIVEN WITH THE SEED: THE CARDS: each row of YtapjfocjeligiaaGreatDoorRows.lean that lists a variable, with what it lists TIED to the program's text (the seventh form; the later family's looks); each row that meets fmt, with fmt's text TOLD by the authors' own Lean function (tested against real Go, not proved from fmt's source: count such statements apart). THE CARD IS WHAT COUNTS. Prove the row's statement (the work); the ties are given (YtapjfocjeligiaaGreatDoorTie.lean); close each card by the builder's one call (the guide's Derived/Test/ToyasCard.lean, 'card_holds'). Laid BY PROGRAM, IN A SANDBOX (cutbox-door.mjs). By AI agents, Wed Nov 11 2026. No macro, syntax, notation, axiom, sorry.
-/
import Derived.Test.YtapjfocjeligiaaGreatDoorRows
import GoSem.ClaimSeven
namespace Go.Proofs.YtapjfocjeligiaaGreatDoor
namespace Rows

/-- THE TIED CARD OF 'hallmarklaw10.MemberKnown'. -/
def memberKnownCard : Claim7 := { stood := { row := memberKnownRow, standIns := [], harness := (true, "bcda0ac1bf374933477b69a6fff8e7bdbf766deb56a3c67ba10c7b0945127f97"), looks := true }, kinds := [], alts := [], laidByText := true, laidKinds := [.data, .data, .data, .handle], laidTests := true, laidLooks := .later }
def MemberKnownCardSaid : Prop := Claim7.holds Tryz.pinned (.plain (OpenSpec.ofChange memberKnownSpec)) memberKnownCard

/-- THE TIED CARD OF 'hallmarklaw10.MemberAgrees'. -/
def memberAgreesCard : Claim7 := { stood := { row := memberAgreesRow, standIns := [], harness := (true, "bcda0ac1bf374933477b69a6fff8e7bdbf766deb56a3c67ba10c7b0945127f97"), looks := true }, kinds := [], alts := [], laidByText := true, laidKinds := [.data, .data, .data, .handle], laidTests := true, laidLooks := .later }
def MemberAgreesCardSaid : Prop := Claim7.holds Tryz.pinned (.plain (OpenSpec.ofChange memberAgreesSpec)) memberAgreesCard

/-- THE TIED CARD OF 'hallmarklaw10.MemberParts'. -/
def memberPartsCard : Claim7 := { stood := { row := memberPartsRow, standIns := [], harness := (true, "bcda0ac1bf374933477b69a6fff8e7bdbf766deb56a3c67ba10c7b0945127f97"), looks := true }, kinds := [], alts := [], laidByText := true, laidKinds := [.data, .data, .data, .handle], laidTests := true, laidLooks := .later }
def MemberPartsCardSaid : Prop := Claim7.holds Tryz.pinned (.plain (OpenSpec.ofChange memberPartsSpec)) memberPartsCard

/-- THE TIED CARD OF 'hallmarklaw10.MemberAlternatives'. -/
def memberAlternativesCard : Claim7 := { stood := { row := memberAlternativesRow, standIns := [], harness := (true, "bcda0ac1bf374933477b69a6fff8e7bdbf766deb56a3c67ba10c7b0945127f97"), looks := true }, kinds := [], alts := [], laidByText := true, laidKinds := [.data, .data, .data, .handle], laidTests := true, laidLooks := .later }
def MemberAlternativesCardSaid : Prop := Claim7.holds Tryz.pinned (.plain (OpenSpec.ofChange memberAlternativesSpec)) memberAlternativesCard

/-- THE SECOND FORM's CARD OF 'hallmarklaw10.MemberKnown'. -/
def memberKnownUptoCard : Claim7 := { stood := { row := memberKnownUptoRow, standIns := [], harness := (true, "bcda0ac1bf374933477b69a6fff8e7bdbf766deb56a3c67ba10c7b0945127f97"), looks := true }, kinds := [], alts := [], laidByText := true, laidKinds := [.data, .data, .data, .handle], laidTests := true, laidLooks := .later }
def MemberKnownUptoCardSaid : Prop := Claim7.holds Tryz.pinned (.plain (OpenSpec.upto memberKnownSpec)) memberKnownUptoCard

/-- THE SECOND FORM's CARD OF 'hallmarklaw10.MemberAgrees'. -/
def memberAgreesUptoCard : Claim7 := { stood := { row := memberAgreesUptoRow, standIns := [], harness := (true, "bcda0ac1bf374933477b69a6fff8e7bdbf766deb56a3c67ba10c7b0945127f97"), looks := true }, kinds := [], alts := [], laidByText := true, laidKinds := [.data, .data, .data, .handle], laidTests := true, laidLooks := .later }
def MemberAgreesUptoCardSaid : Prop := Claim7.holds Tryz.pinned (.plain (OpenSpec.upto memberAgreesSpec)) memberAgreesUptoCard

/-- THE SECOND FORM's CARD OF 'hallmarklaw10.MemberParts'. -/
def memberPartsUptoCard : Claim7 := { stood := { row := memberPartsUptoRow, standIns := [], harness := (true, "bcda0ac1bf374933477b69a6fff8e7bdbf766deb56a3c67ba10c7b0945127f97"), looks := true }, kinds := [], alts := [], laidByText := true, laidKinds := [.data, .data, .data, .handle], laidTests := true, laidLooks := .later }
def MemberPartsUptoCardSaid : Prop := Claim7.holds Tryz.pinned (.plain (OpenSpec.upto memberPartsSpec)) memberPartsUptoCard

/-- THE SECOND FORM's CARD OF 'hallmarklaw10.MemberAlternatives'. -/
def memberAlternativesUptoCard : Claim7 := { stood := { row := memberAlternativesUptoRow, standIns := [], harness := (true, "bcda0ac1bf374933477b69a6fff8e7bdbf766deb56a3c67ba10c7b0945127f97"), looks := true }, kinds := [], alts := [], laidByText := true, laidKinds := [.data, .data, .data, .handle], laidTests := true, laidLooks := .later }
def MemberAlternativesUptoCardSaid : Prop := Claim7.holds Tryz.pinned (.plain (OpenSpec.upto memberAlternativesSpec)) memberAlternativesUptoCard
end Rows
end Go.Proofs.YtapjfocjeligiaaGreatDoor
